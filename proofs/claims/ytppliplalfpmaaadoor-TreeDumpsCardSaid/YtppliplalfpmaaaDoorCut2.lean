/-
  cut and Few of the law's text once more: what a result's numbers are, and that no text of it is longer than 200.
-/
import Derived.Test.YtppliplalfpmaaaDoorRD3
import Derived.Test.YtppliplalfpmaaaDoorFew
namespace Go.Proofs.YtppliplalfpmaaaDoor
open Go.RowKit

def Q (r : Tr) : Prop := r.nums ∧ r.shrt
theorem nums_of_L : ∀ (L : List Tr), (∀ x ∈ L, Q x) → numsL L ∧ shrtL L
  | [], _ => ⟨trivial, trivial⟩
  | t :: r, h => ⟨⟨(h t (List.mem_cons_self ..)).1, (nums_of_L r (fun x hx => h x (List.mem_cons_of_mem _ hx))).1⟩, ⟨(h t (List.mem_cons_self ..)).2, (nums_of_L r (fun x hx => h x (List.mem_cons_of_mem _ hx))).2⟩⟩
theorem q_map {L : List TV} (h : ∀ x ∈ L, Q x.1) : ∀ x ∈ L.map (·.1), Q x := by
  intro x hx
  obtain ⟨y, hy, rfl⟩ := List.mem_map.1 hx
  exact h y hy
def CutPost2 (w : World) (pb lv d : Nat) : Ending → World → Prop := fun e w' => ∃ (r : Tr) (o : Option Addr) (l c lv' : Nat), e = .returned (.agg #[.int .i64 r.op, .int .i64 r.a, .int .i64 r.n, .int .i64 r.m, .string r.s, .slice o l c]) ∧ TIn w' (Fresh w) r (.slice o l c) ∧ w'.heap[pb]? = some (.cells #[.int .i64 lv'] 3 (0, 0)) ∧ r.cnt + lv' ≤ lv + 1 ∧ r.dep ≤ d + 1 ∧ GB w.heap.size pb w w' ∧ Q r
def RelCut2 (W0 : World) (t : Tr) (pb lv d : Nat) (v i : Value) (wr : World) : Prop := ∃ (k : Nat) (L : List TV) (ro : Option Addr) (rc lv' : Nat), v = .slice ro L.length rc ∧ i = .int .i64 k ∧ k ≤ t.ks.length ∧ L.length = k ∧ PRow wr W0.heap.size 24 (.slice ro L.length rc) L ∧ (∀ x ∈ L, TIn wr (fun b => W0.heap.size ≤ b ∧ some b ≠ (Value.slice ro L.length rc).ownBlock) x.1 x.2) ∧ wr.heap[pb]? = some (.cells #[.int .i64 lv'] 3 (0, 0)) ∧ cntL (L.map (·.1)) + lv' ≤ lv ∧ depL (L.map (·.1)) ≤ d ∧ GB W0.heap.size pb W0 wr ∧ (∀ x ∈ L, Q x.1)
theorem relcut_step2 {W0 wr W1 w1 w4 : World} {o : Obj} {t x r : Tr} {pb lv d d' lv1 lv2 : Nat} {k : Nat} {L : List TV} {ro : Option Addr} {rc g gc : Nat} {kr : Value} (hx : t.ks[k]? = some x) (hLk : L.length = k) (hpb : pb < W0.heap.size) (hd : d = d' + 1)
    (hc : cntL (L.map (·.1)) + (lv1 + 1) ≤ lv) (hdp : depL (L.map (·.1)) ≤ d) (hB : GB W0.heap.size pb W0 wr) (hW1 : GB wr.heap.size pb wr W1) (hzW : W1.heap.size = wr.heap.size)
    (hL : ∀ x ∈ L, TIn wr (fun b => W0.heap.size ≤ b ∧ some b ≠ (Value.slice ro L.length rc).ownBlock) x.1 x.2)
    (hvo : ∀ g, (Value.slice ro L.length rc).ownBlock = some g → W0.heap.size ≤ g ∧ g < wr.heap.size)
    (htin : TIn w1 (Fresh W1) r kr) (hcell : w1.heap[pb]? = some (.cells #[.int .i64 lv2] 3 (0, 0))) (hrc : r.cnt + lv2 ≤ lv1 + 1) (hrd : r.dep ≤ d' + 1) (hB1 : GB W1.heap.size pb W1 w1)
    (hgrow : (w1.alloc o).grownBy w4 (Value.slice ro L.length rc).ownBlock) (hat : (Value.slice ro L.length rc).ownBlock = some g ∨ g = (w1.alloc o).heap.size) (hQ : ∀ x ∈ L, Q x.1) (hq : Q r) (hown : w4.ownsRow W0.heap.size 24 6 (.slice (some ⟨g, 0, none⟩) (L.length + 1) gc) (L.length + 1) (L.flatMap pC ++ ndC r kr)) :
    RelCut2 W0 t pb lv d (.slice (some ⟨g, 0, none⟩) (L.length + 1) gc) (.int .i64 ((k : Int) + 1)) w4 := by
  have hz := hB.2.2.2.1
  obtain ⟨h1, h2, h3, h4⟩ := row_step2 hpb hL (by omega) hvo (tin_mono htin (fun b _ hs => by unfold Fresh at hs ⊢; omega)) (hW1.trans hB1 (by omega)) hgrow hat hown
  have e : (L ++ [(r, kr)]).length = L.length + 1 := by simp
  refine ⟨k + 1, L ++ [(r, kr)], some ⟨g, 0, none⟩, gc, lv2, by rw [e], by simp, (List.getElem?_eq_some_iff.1 hx).1, by rw [e, hLk], by rw [e]; exact h1, by rw [e]; exact h2, h4.trans hcell, ?_, ?_, hB.trans h3 (Nat.le_refl _), fun y hy => by rcases List.mem_append.1 hy with hy | hy; exact hQ y hy; (have e2 : y = (r, kr) := by simpa using hy); rw [e2]; exact hq⟩
  · rw [List.map_append, cntL_app]; simp only [List.map_cons, List.map_nil, cntL]; omega
  · rw [List.map_append, depL_app]; simp only [List.map_cons, List.map_nil, depL]; omega
theorem ext_le (s : ByteArray) : (s.extract 0 (min (s.size : Int) 200).toNat).size ≤ 200 := by rw [ByteArray.size_extract]; omega
theorem cut_end2 {w W0 wr : World} {t : Tr} {pb lv d lv' : Nat} {L : List TV} {ro : Option Addr} {rc : Nat} {v5 v4 x0 x1 x2 x3 x4 x5 : Value} (s' : ByteArray) (hs' : s'.size ≤ 200) (hnu : t.nums) (hQ : ∀ x ∈ L, Q x.1) (hX : Below w.heap.size w W0) (hz : W0.heap.size = w.heap.size + 2) (hpb : pb < w.heap.size)
    (hrow : PRow wr W0.heap.size 24 (.slice ro L.length rc) L) (hL : ∀ x ∈ L, TIn wr (fun b => W0.heap.size ≤ b ∧ some b ≠ (Value.slice ro L.length rc).ownBlock) x.1 x.2) (hcell : wr.heap[pb]? = some (.cells #[.int .i64 lv'] 3 (0, 0))) (hcn : cntL (L.map (·.1)) + lv' ≤ lv) (hdp : depL (L.map (·.1)) ≤ d) (hB : GB W0.heap.size pb W0 wr)
    (hvo : ∀ g, (Value.slice ro L.length rc).ownBlock = some g → W0.heap.size ≤ g ∧ g < wr.heap.size) :
    CutPost2 w pb lv d (.returned (.agg #[.int .i64 t.op, .int .i64 t.a, .int .i64 t.n, .int .i64 t.m, .string s', .slice ro L.length rc])) (st6 ((wr.setCell ⟨w.heap.size, 5, none⟩ v5).setCell ⟨w.heap.size, 4, none⟩ v4) (w.heap.size + 1) 0 x0 x1 x2 x3 x4 x5) := by
  have htr : TIn wr (fun b => W0.heap.size ≤ b) (.mk t.op t.a t.n t.m s' (L.map (·.1))) (.slice ro L.length rc) := tin_row hrow (fun g hg => (hvo g hg).1) (fun y hy => tin_mono (hL y hy) (fun b _ hs => hs.1)) rfl
  have hg1 : wr.grownBy ((wr.setCell ⟨w.heap.size, 5, none⟩ v5).setCell ⟨w.heap.size, 4, none⟩ v4) (some w.heap.size) := c_gset (c_gset ⟨rfl, rfl, rfl, Nat.le_refl _, fun _ _ _ => rfl⟩ rfl _) rfl _
  refine ⟨.mk t.op t.a t.n t.m s' (L.map (·.1)), ro, L.length, rc, lv', rfl, tin_mono (tin_grown (tin_grown htr hg1 (fun b _ hs e => by simp at e; omega)) (st6_grown _ (w.heap.size + 1) 0 _ _ _ _ _ _) (fun b _ hs e => by simp at e; omega)) (fun b _ hs => by unfold Fresh; omega), ?_, ?_, ?_, ?_, ⟨⟨nums_of hnu, (nums_of_L _ (q_map hQ)).1⟩, ⟨hs', (nums_of_L _ (q_map hQ)).2⟩⟩⟩
  · rw [st6_heap _ _ _ _ _ _ _ _ _ _ (by omega), x_ne _ _ _ _ _ (by omega), x_ne _ _ _ _ _ (by omega)]
    exact hcell
  · rw [cnt_ks]
    show 1 + cntL (L.map (·.1)) + lv' ≤ lv + 1
    omega
  · rw [dep_ks]
    show depL (L.map (·.1)) + 1 ≤ d + 1
    omega
  · have h0 : GB w.heap.size pb w wr := (GB.of hX).trans hB (by omega)
    unfold st6
    exact ((((((((h0.set2 (Nat.le_refl _)).set2 (Nat.le_refl _)).set2 (by omega)).set2 (by omega)).set2 (by omega)).set2 (by omega)).set2 (by omega)).set2 (by omega))
set_option linter.unusedVariables false in
set_option maxRecDepth 100000 in
set_option maxHeartbeats 1000000 in
theorem cut_any2 : ∀ (N : Nat) (t : Tr) (ao : Option Addr) (cap pb lv d : Nat) (w : World), t.cnt ≤ N → lv ≤ 1500 → d ≤ 260 → pb < w.heap.size → w.heap[pb]? = some (.cells #[.int .i64 lv] 3 (0, 0)) → TIn w (fun b => b ≠ pb) t (.slice ao t.ks.length cap) → t.nums →
    Calls Tryd.prog 26 #[.agg #[.int .i64 t.op, .int .i64 t.a, .int .i64 t.n, .int .i64 t.m, .string t.s, .slice ao t.ks.length cap], .int .i64 d, .pointer (some ⟨pb, 0, none⟩)] w (CutPost2 w pb lv d) := by
  obtain ⟨i0, hi, hz0, hz1, hz2⟩ := info_parts node_info
  have hT : Tryd.prog.underlying 22 = some (.slice 24) := Tryd.underlying22
  intro N
  induction N with
  | zero => intro t ao cap pb lv d w h; have := cnt_pos t; omega
  | succ N ih =>
    intro t ao cap pb lv d w hN hlv hd hpb hcw ht hnu
    have hks : t.ks.length ≤ 9223372036854775807 := by
      obtain ⟨ao', cap', e, h1, h2, _⟩ := tin_open ht
      unfold maxLen at h2
      omega
    have HT := Lib.hid ht
    have HNU := Lib.hid hnu
    have HI := Lib.hid ih
    have HKL := Lib.hid (fun (i : Nat) (x : Tr) (hx : t.ks[i]? = some x) => (by have := cnt_kid hx; omega : x.cnt ≤ N))
    clear ih ht hnu
    obtain ⟨len, hle⟩ : ∃ len, len = t.ks.length := ⟨_, rfl⟩
    have HLE := Lib.hid hle
    rw [← hle] at hks HT ⊢
    clear hle
    go_enter Tryd.func26, Tryd.ntmps26
    go_upto_region 1 with fail
    obtain ⟨W0, hW0⟩ : ∃ W0, W0 = ((w.alloc (.cells #[.int .i64 t.op, .int .i64 t.a, .int .i64 t.n, .int .i64 t.m, .string t.s, .slice ao len cap] 24)).alloc (.cells #[.int .i64 0, .int .i64 0, .int .i64 0, .int .i64 0, .string ⟨#[]⟩, .slice none 0 0] 24)) := ⟨_, rfl⟩
    rw [← hW0]
    have hB0 : Below w.heap.size w W0 := by rw [hW0]; exact c_box2 w _ _
    have hz0' : W0.heap.size = w.heap.size + 2 := by rw [hW0]; simp
    have h01 : W0.heap[w.heap.size]? = some (.cells #[.int .i64 t.op, .int .i64 t.a, .int .i64 t.n, .int .i64 t.m, .string t.s, .slice ao len cap] 24 (0, 0)) := by rw [hW0]; exact c_new1 w _ _
    have h02 : W0.heap[w.heap.size + 1]? = some (.cells #[.int .i64 0, .int .i64 0, .int .i64 0, .int .i64 0, .string ⟨#[]⟩, .slice none 0 0] 24 (0, 0)) := by rw [hW0]; exact c_new2 w _ _
    have HX := Lib.hid (And.intro hB0 (And.intro hz0' (And.intro h01 (And.intro h02 (c_kept hB0 hpb hcw)))))
    clear hW0 hB0 hz0' h01 h02 hcw
    go_wp2
    go_loopw [7, 8] (fun v i wr => RelCut2 W0 t pb lv d v i wr) (fun _ i _ => len - natOf i)
    case atStart => exact ⟨0, [], none, 0, lv, rfl, rfl, Nat.zero_le _, rfl, World.ownsRow_nil _ _ _ _, (fun x hx => by cases hx), HX.out.2.2.2.2, by simp [cntL], by simp [depL], ⟨rfl, rfl, rfl, Nat.le_refl _, fun _ _ _ => rfl⟩, (fun x hx => by cases hx)⟩
    case round =>
      obtain ⟨k, L, ro, rc, lv', rfl, rfl, hk, hLk, hrow, hL, hcell, hcn, hdp, hB, hQ⟩ := hrel
      have HQ := Lib.hid hQ
      clear hQ
      rw [← HLE.out] at hk
      have hwz : w.heap.size + 2 ≤ wr.heap.size := by have := HX.out.2.1; have := hB.2.2.2.1; omega
      have hb1 : wr.heap[w.heap.size]? = _ := (hB.2.2.2.2 _ (by have := HX.out.2.1; omega) (by omega)).trans HX.out.2.2.1
      have hb2 : wr.heap[w.heap.size + 1]? = _ := (hB.2.2.2.2 _ (by have := HX.out.2.1; omega) (by omega)).trans HX.out.2.2.2.1
      have HLK := Lib.hid hLk
      have hLn : L.length ≤ k := by omega
      have hkl3 : k ≤ 1500 := by have := cntL_len (L.map (·.1)); simp at this; omega
      have hl2 : lv' ≤ 1500 := by omega
      clear hLk
      have hvo : ∀ g, (Value.slice ro L.length rc).ownBlock = some g → W0.heap.size ≤ g ∧ g < wr.heap.size := fun g hg => World.ownsRow.lt hrow g hg
      have hcl : wr.cell? ⟨pb, 0, none⟩ = some (.int .i64 lv') := by simp [World.cell?, hcell]
      have hpz : pb < wr.heap.size := by omega
      have hfz : wr.frozen? ⟨pb, 0, none⟩ = false := by simp [World.frozen?, hcell]
      by_cases hgo : k < len ∧ 0 < d ∧ 0 < lv'
      · obtain ⟨hkl, hd0, hl0⟩ := hgo
        obtain ⟨d', hd'⟩ : ∃ d', d = d' + 1 := ⟨d - 1, by omega⟩
        obtain ⟨l1, rfl⟩ : ∃ l1, lv' = l1 + 1 := ⟨lv' - 1, by omega⟩
        have g1 : decide ((k : Int) < (len : Int)) = true := decide_eq_true (by omega)
        have g2 : (k : Int) < (len : Int) := by omega
        have g3 : decide ((d : Int) > 0) = true := decide_eq_true (by omega)
        have g3' : decide (0 < (d : Int)) = true := decide_eq_true (by omega)
        have g4 : decide (((l1 + 1 : Nat) : Int) > 0) = true := decide_eq_true (by omega)
        have g5 : (d : Int) - 1 = (d' : Int) := by omega
        have hd2 : d' ≤ 260 := by omega
        have HD := Lib.hid hd'
        clear hd'
        have g6 : (((l1 + 1 : Nat) : Int)) - 1 = (l1 : Int) := by omega
        obtain ⟨x, hx⟩ : ∃ x, t.ks[k]? = some x := ⟨_, List.getElem?_eq_getElem (by rw [← HLE.out]; exact hkl)⟩
        have hxc := HKL.out k x hx
        obtain ⟨⟨d0, d1, d2, d3, d4, d5⟩, -, hxl⟩ := c_six hb1
        obtain ⟨b1, o1, xo, xl, xc, rfl, hbb1, hbn, hc1, hx1⟩ := kidS HT.out hx
        obtain rfl := tin_len hx1
        obtain ⟨W1, hW1⟩ : ∃ W1, W1 = wr.setCell ⟨pb, 0, none⟩ (.int .i64 l1) := ⟨_, rfl⟩
        have hzW : W1.heap.size = wr.heap.size := by rw [hW1]; exact x_sz _ _ _
        have hg1 : GB wr.heap.size pb wr W1 := by rw [hW1]; exact GB.set (GB.of (Below.refl _ _))
        have hcW : W1.heap[pb]? = some (.cells #[.int .i64 l1] 3 (0, 0)) := by rw [hW1]; exact c_one 0 _ hcell
        have hWw : ∀ b, b < w.heap.size → b ≠ pb → W1.heap[b]? = w.heap[b]? := fun b hb hn => (hg1.2.2.2.2 b (by omega) hn).trans ((hB.2.2.2.2 b (by have := HX.out.2.1; omega) hn).trans (HX.out.1.block b hb))
        have hb1' : W1.heap[w.heap.size]? = some (.cells #[.int .i64 t.op, .int .i64 t.a, .int .i64 t.n, .int .i64 t.m, .string t.s, .slice (some ⟨b1, o1, none⟩) len cap] 24 (0, 0)) := (hg1.2.2.2.2 _ (by omega) (by omega)).trans hb1
        have htW : TIn W1 (fun b => b ≠ pb) x (.slice xo x.ks.length xc) := tin_imp (fun b hb hS => ⟨hS, hWw b hb hS⟩) (by omega) _ _ hx1
        have HC := Lib.hid (HI.out x xo xc pb l1 d' W1 hxc (by omega) hd2 (by omega) hcW htW (numsL_at (nums_ks HNU.out) hx))
        have HH := Lib.hid (And.intro hrow (And.intro hL (And.intro hcn (And.intro hdp (And.intro hB (And.intro hg1 hx))))))
        have HW1 := Lib.hid hW1
        have hW0p : pb < W0.heap.size := by have := HX.out.2.1; omega
        go_upto_region 6 with fail
        rw [← HW1.out]
        clear d0 d1 d2 d3 d4 d5 hxl hcl hfz
        obtain ⟨⟨d0, d1, d2, d3, d4, d5⟩, -, hxl⟩ := c_six hb1'
        obtain ⟨c0, c1, c2, c3, c4, c5⟩ := ncells_kept (hWw b1 hbb1 hbn) hc1
        have hl1 : b1 < W1.heap.size := by omega
        clear hc1 hx1 hrow hL hcn hdp hB hg1 hx hW1 htW hb1 hb2 hb1' hcell hcW hWw
        go_wp2_with fail
        refine HC.out.mono ?_
        rintro e w1 ⟨r, yo, yl, yc, lv2, rfl, htin, hc2, hrc, hrd, hB9, hqr⟩
        have HQR := Lib.hid hqr
        clear hqr
        have hz9 := hB9.2.2.2.1
        have hrow9 : w1.ownsRow W0.heap.size 24 6 (.slice ro L.length rc) L.length (L.flatMap pC) := prow_gb (prow_gb HH.out.1 HH.out.2.2.2.2.2.1 (fun g hg => by have := hvo g hg; omega)) hB9 (fun g hg => by have := hvo g hg; omega)
        have hW0r : W0.heap.size ≤ wr.heap.size := HH.out.2.2.2.2.1.2.2.2.1
        have HF := Lib.hid (And.intro htin (And.intro hc2 (And.intro hrc (And.intro hrd (And.intro hB9 hrow9)))))
        clear htin hc2 hrc hrd hB9 hrow9
        go_wp2_with (at_builtin; refine wpList_append_lies _ rfl _ _ 22 rfl W0.heap.size 24 i0 (.agg #[.int .i64 0, .int .i64 0, .int .i64 0, .int .i64 0, .string ⟨#[]⟩, .slice none 0 0]) 6 72 hT hi hz0 hz1 hz2 rfl (by decide) (.slice ro L.length rc) _ _ rfl (HF.out.2.2.2.2.2.alloc _) ⟨w1.heap.size, 0, none⟩ 1 1 (ndC r (.slice yo yl yc)) rfl rfl ?_ ?_ (by omega) ?_ ?_ ?_ _ rfl ?_; exact World.news_of_block (cs := #[.int .i64 r.op, .int .i64 r.a, .int .i64 r.n, .int .i64 r.m, .string r.s, .slice yo yl yc]) (t := 24) (fr := (0, 0)) (heap_alloc_new w1 _); exact pC_one (r, .slice yo yl yc) ⟨_, _, _, rfl⟩; (unfold maxLen; omega); omega; (simp; omega); intro g gc w4 hown' hgrow hat hglt; have HST := Lib.hid (relcut_step2 HH.out.2.2.2.2.2.2 HLK.out hW0p HD.out HH.out.2.2.1 HH.out.2.2.2.1 HH.out.2.2.2.2.1 HH.out.2.2.2.2.2.1 hzW HH.out.2.1 hvo HF.out.1 HF.out.2.1 HF.out.2.2.1 HF.out.2.2.2.1 HF.out.2.2.2.2.1 hgrow hat HQ.out HQR.out hown'); clear hown' hgrow hat hglt c0 c1 c2 c3 c4 c5 d0 d1 d2 d3 d4 d5)
        go_roundw
        case rel => exact HST.out
        case measure => simp [natOf]; omega
      · by_cases hkl : k < len
        case neg =>
          have g1 : decide ((k : Int) < (len : Int)) = false := decide_eq_false (by omega)
          clear hgo
          obtain ⟨⟨d0, d1, d2, d3, d4, d5⟩, ⟨e0, e1, e2, e3, e4, e5⟩, hxl⟩ := c_six hb1
          obtain ⟨⟨r0, r1, r2, r3, r4, r5⟩, ⟨q0, q1, q2, q3, q4, q5⟩, hr⟩ := c_six hb2
          have HH := Lib.hid (And.intro hrow (And.intro hL (And.intro hcell (And.intro hcn (And.intro hdp hB)))))
          clear hrow hL hcell hcn hdp hB hb1 hb2
          go_wp2
          (refine bodyPost_ret (v := .agg #[.int .i64 t.op, .int .i64 t.a, .int .i64 t.n, .int .i64 t.m, .string (t.s.extract 0 (min (t.s.size : Int) 200).toNat), .slice ro L.length rc]) (by simp [results, Tryd.results26, go_sem, r0, r1, r2, r3, r4, r5]) rfl ?_; exact cut_end2 (t.s.extract 0 (min (t.s.size : Int) 200).toNat) (ext_le t.s) HNU.out HQ.out HX.out.1 HX.out.2.1 hpb HH.out.1 HH.out.2.1 HH.out.2.2.1 HH.out.2.2.2.1 HH.out.2.2.2.2.1 HH.out.2.2.2.2.2 hvo)
        by_cases hd0 : 0 < d
        case neg =>
          have g1 : decide ((k : Int) < (len : Int)) = true := decide_eq_true (by omega)
          obtain rfl : d = 0 := by omega
          clear hgo
          obtain ⟨⟨d0, d1, d2, d3, d4, d5⟩, ⟨e0, e1, e2, e3, e4, e5⟩, hxl⟩ := c_six hb1
          obtain ⟨⟨r0, r1, r2, r3, r4, r5⟩, ⟨q0, q1, q2, q3, q4, q5⟩, hr⟩ := c_six hb2
          have HH := Lib.hid (And.intro hrow (And.intro hL (And.intro hcell (And.intro hcn (And.intro hdp hB)))))
          clear hrow hL hcell hcn hdp hB hb1 hb2
          go_wp2
          (refine bodyPost_ret (v := .agg #[.int .i64 t.op, .int .i64 t.a, .int .i64 t.n, .int .i64 t.m, .string (t.s.extract 0 (min (t.s.size : Int) 200).toNat), .slice ro L.length rc]) (by simp [results, Tryd.results26, go_sem, r0, r1, r2, r3, r4, r5]) rfl ?_; exact cut_end2 (t.s.extract 0 (min (t.s.size : Int) 200).toNat) (ext_le t.s) HNU.out HQ.out HX.out.1 HX.out.2.1 hpb HH.out.1 HH.out.2.1 HH.out.2.2.1 HH.out.2.2.2.1 HH.out.2.2.2.2.1 HH.out.2.2.2.2.2 hvo)
        obtain rfl : lv' = 0 := by omega
        have g1 : decide ((k : Int) < (len : Int)) = true := decide_eq_true (by omega)
        have g3 : decide ((d : Int) > 0) = true := decide_eq_true (by omega)
        have g4 : decide (0 < (d : Int)) = true := decide_eq_true (by omega)
        clear hgo
        obtain ⟨⟨d0, d1, d2, d3, d4, d5⟩, ⟨e0, e1, e2, e3, e4, e5⟩, hxl⟩ := c_six hb1
        obtain ⟨⟨r0, r1, r2, r3, r4, r5⟩, ⟨q0, q1, q2, q3, q4, q5⟩, hr⟩ := c_six hb2
        have HH := Lib.hid (And.intro hrow (And.intro hL (And.intro hcell (And.intro hcn (And.intro hdp hB)))))
        clear hrow hL hcell hcn hdp hB hb1 hb2
        go_wp2
        (refine bodyPost_ret (v := .agg #[.int .i64 t.op, .int .i64 t.a, .int .i64 t.n, .int .i64 t.m, .string (t.s.extract 0 (min (t.s.size : Int) 200).toNat), .slice ro L.length rc]) (by simp [results, Tryd.results26, go_sem, r0, r1, r2, r3, r4, r5]) rfl ?_; exact cut_end2 (t.s.extract 0 (min (t.s.size : Int) 200).toNat) (ext_le t.s) HNU.out HQ.out HX.out.1 HX.out.2.1 hpb HH.out.1 HH.out.2.1 HH.out.2.2.1 HH.out.2.2.2.1 HH.out.2.2.2.2.1 HH.out.2.2.2.2.2 hvo)
def FewPost2 (w : World) : Ending → World → Prop := fun e w' => ∃ (r : Tr) (o : Option Addr) (l c : Nat), e = .returned (.agg #[.int .i64 r.op, .int .i64 r.a, .int .i64 r.n, .int .i64 r.m, .string r.s, .slice o l c]) ∧ TIn w' (Fresh w) r (.slice o l c) ∧ r.cnt ≤ 1501 ∧ r.dep ≤ 261 ∧ Below w.heap.size w w' ∧ Q r
set_option linter.unusedVariables false in
set_option maxRecDepth 100000 in
set_option maxHeartbeats 1000000 in
theorem few_any2 (t : Tr) (ao : Option Addr) (cap : Nat) (w : World) (ht : TIn w All t (.slice ao t.ks.length cap)) (hnu : t.nums) :
    Calls Tryd.prog 7 #[.agg #[.int .i64 t.op, .int .i64 t.a, .int .i64 t.n, .int .i64 t.m, .string t.s, .slice ao t.ks.length cap]] w (FewPost2 w) := by
  have HT := Lib.hid ht
  clear ht
  obtain ⟨len, hle⟩ : ∃ len, len = t.ks.length := ⟨_, rfl⟩
  have HLE := Lib.hid hle
  rw [← hle] at HT ⊢
  clear hle
  go_enter Tryd.func7, Tryd.ntmps7
  go_upto_region 2 with fail
  obtain ⟨W0, hW0⟩ : ∃ W0, W0 = (((w.alloc (.cells #[.int .i64 t.op, .int .i64 t.a, .int .i64 t.n, .int .i64 t.m, .string t.s, .slice ao len cap] 24)).alloc (.cells #[.int .i64 0, .int .i64 0, .int .i64 0, .int .i64 0, .string ⟨#[]⟩, .slice none 0 0] 24)).alloc (.cells #[.int .i64 1500] 3)) := ⟨_, rfl⟩
  rw [← hW0]
  have hB0 : Below w.heap.size w W0 := by rw [hW0]; exact c_thr (c_box2 w _ _) (c_box _ _) (by simp; omega)
  have hz0 : W0.heap.size = w.heap.size + 3 := by rw [hW0]; simp
  have h01 : W0.heap[w.heap.size]? = some (.cells #[.int .i64 t.op, .int .i64 t.a, .int .i64 t.n, .int .i64 t.m, .string t.s, .slice ao len cap] 24 (0, 0)) := by rw [hW0, Below.heap_alloc _ _ _ (by simp; omega)]; exact c_new1 w _ _
  have h02 : W0.heap[w.heap.size + 1]? = some (.cells #[.int .i64 0, .int .i64 0, .int .i64 0, .int .i64 0, .string ⟨#[]⟩, .slice none 0 0] 24 (0, 0)) := by rw [hW0, Below.heap_alloc _ _ _ (by simp)]; exact c_new2 w _ _
  have h03 : W0.heap[w.heap.size + 2]? = some (.cells #[.int .i64 1500] 3 (0, 0)) := by
    have e : w.heap.size + 2 = ((w.alloc (.cells #[.int .i64 t.op, .int .i64 t.a, .int .i64 t.n, .int .i64 t.m, .string t.s, .slice ao len cap] 24)).alloc (.cells #[.int .i64 0, .int .i64 0, .int .i64 0, .int .i64 0, .string ⟨#[]⟩, .slice none 0 0] 24)).heap.size := by simp
    rw [hW0, e]; exact heap_alloc_new _ _
  obtain ⟨⟨d0, d1, d2, d3, d4, d5⟩, -, hxl⟩ := c_six h01
  have htW : TIn W0 (fun b => b ≠ w.heap.size + 2) t (.slice ao t.ks.length cap) := by
    rw [← HLE.out]
    exact tin_imp (fun b hb _ => ⟨by omega, hB0.block b hb⟩) (by omega) _ _ HT.out
  have HC := Lib.hid (cut_any2 t.cnt t ao cap (w.heap.size + 2) 1500 260 W0 (Nat.le_refl _) (by omega) (by omega) (by omega) h03 htW hnu)
  rw [← HLE.out] at HC
  have HX := Lib.hid (And.intro hB0 (And.intro hz0 h02))
  clear hB0 hz0 h01 h02 h03 hW0 htW
  go_wp2_with fail
  refine HC.out.mono ?_
  rintro e w1 ⟨r, o, l, c, lv', rfl, htin, hcell, hrc, hrd, hG, hqr⟩
  have HQR := Lib.hid hqr
  clear hqr
  have hb2 := (hG.2.2.2.2 (w.heap.size + 1) (by have := HX.out.2.1; omega) (by omega)).trans HX.out.2.2
  obtain ⟨⟨r0, r1, r2, r3, r4, r5⟩, ⟨q0, q1, q2, q3, q4, q5⟩, hr⟩ := c_six hb2
  have HF := Lib.hid (And.intro htin (And.intro hrc (And.intro hrd (And.intro hG hcell))))
  clear htin hrc hrd hG hb2 hcell d0 d1 d2 d3 d4 d5 hxl
  go_wp2
  refine bodyPost_ret (v := .agg #[.int .i64 r.op, .int .i64 r.a, .int .i64 r.n, .int .i64 r.m, .string r.s, .slice o l c]) (by simp [results, Tryd.results7, go_sem, r0, r1, r2, r3, r4, r5]) rfl ?_
  have hz2 := HX.out.2.1
  have hG := HF.out.2.2.2.1
  have hz9 := hG.2.2.2.1
  have hlow : Below w.heap.size w w1 := ⟨hG.1.trans HX.out.1.os, hG.2.1.trans HX.out.1.tape, hG.2.2.1.trans HX.out.1.output, by omega, fun b hb => (hG.2.2.2.2 b (by omega) (by omega)).trans (HX.out.1.block b hb)⟩
  have h1 := HF.out.2.1
  have h2 := HF.out.2.2.1
  exact ⟨r, o, l, c, rfl, tin_mono (tin_grown HF.out.1 (st6_grown w1 (w.heap.size + 1) 0 _ _ _ _ _ _) (fun b _ hs e => by unfold Fresh at hs; simp at e; omega)) (fun b _ hs => by unfold Fresh at hs ⊢; omega), by omega, by omega, c_st6 hlow (by omega), HQR.out⟩
end Go.Proofs.YtppliplalfpmaaaDoor
