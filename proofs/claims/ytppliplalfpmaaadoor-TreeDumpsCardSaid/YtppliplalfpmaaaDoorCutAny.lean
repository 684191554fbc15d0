/-
  cut of the law's text, walked.
-/
import Derived.Test.YtppliplalfpmaaaDoorCut
namespace Go.Proofs.YtppliplalfpmaaaDoor
open Go.RowKit

theorem prow_gb {w w' : World} {B T pb : Nat} {v : Value} {l : List TV} (h : PRow w B T v l) (hb : GB w.heap.size pb w w') (hn : ∀ g, v.ownBlock = some g → g ≠ pb) : PRow w' B T v l :=
  World.ownsRow.kept h (row := some pb) ⟨hb.1, hb.2.1, hb.2.2.1, hb.2.2.2.1, fun k hk hne => hb.2.2.2.2 k hk (fun e => hne (by rw [e]))⟩ (.inr (fun e => by first | exact hn pb e rfl | exact hn pb e.symm rfl))
theorem GB.set2 {B pb b i : Nat} {w w1 : World} {v : Value} (h : GB B pb w w1) (hb : B ≤ b) : GB B pb w (w1.setCell ⟨b, i, none⟩ v) :=
  ⟨h.1, h.2.1, h.2.2.1, by rw [x_sz]; exact h.2.2.2.1, fun c hc hn => (x_ne w1 b i c v (by omega)).trans (h.2.2.2.2 c hc hn)⟩
theorem cut_end {w W0 wr : World} {t : Tr} {pb lv d lv' : Nat} {L : List TV} {ro : Option Addr} {rc : Nat} {v5 v4 x0 x1 x2 x3 x4 x5 : Value} (s' : ByteArray) (hX : Below w.heap.size w W0) (hz : W0.heap.size = w.heap.size + 2) (hpb : pb < w.heap.size)
    (hrow : PRow wr W0.heap.size 24 (.slice ro L.length rc) L) (hL : ∀ x ∈ L, TIn wr (fun b => W0.heap.size ≤ b ∧ some b ≠ (Value.slice ro L.length rc).ownBlock) x.1 x.2) (hcell : wr.heap[pb]? = some (.cells #[.int .i64 lv'] 3 (0, 0))) (hcn : cntL (L.map (·.1)) + lv' ≤ lv) (hdp : depL (L.map (·.1)) ≤ d) (hB : GB W0.heap.size pb W0 wr)
    (hvo : ∀ g, (Value.slice ro L.length rc).ownBlock = some g → W0.heap.size ≤ g ∧ g < wr.heap.size) :
    CutPost w pb lv d (.returned (.agg #[.int .i64 t.op, .int .i64 t.a, .int .i64 t.n, .int .i64 t.m, .string s', .slice ro L.length rc])) (st6 ((wr.setCell ⟨w.heap.size, 5, none⟩ v5).setCell ⟨w.heap.size, 4, none⟩ v4) (w.heap.size + 1) 0 x0 x1 x2 x3 x4 x5) := by
  have htr : TIn wr (fun b => W0.heap.size ≤ b) (.mk t.op t.a t.n t.m s' (L.map (·.1))) (.slice ro L.length rc) := tin_row hrow (fun g hg => (hvo g hg).1) (fun y hy => tin_mono (hL y hy) (fun b _ hs => hs.1)) rfl
  have hg1 : wr.grownBy ((wr.setCell ⟨w.heap.size, 5, none⟩ v5).setCell ⟨w.heap.size, 4, none⟩ v4) (some w.heap.size) := c_gset (c_gset ⟨rfl, rfl, rfl, Nat.le_refl _, fun _ _ _ => rfl⟩ rfl _) rfl _
  refine ⟨.mk t.op t.a t.n t.m s' (L.map (·.1)), ro, L.length, rc, lv', rfl, tin_mono (tin_grown (tin_grown htr hg1 (fun b _ hs e => by simp at e; omega)) (st6_grown _ (w.heap.size + 1) 0 _ _ _ _ _ _) (fun b _ hs e => by simp at e; omega)) (fun b _ hs => by unfold Fresh; omega), ?_, ?_, ?_, ?_⟩
  · rw [st6_heap _ _ _ _ _ _ _ _ _ _ (by omega), x_ne _ _ _ _ _ (by omega), x_ne _ _ _ _ _ (by omega)]
    exact hcell
  · rw [cnt_ks]
    show 1 + cntL (L.map (·.1)) + lv' ≤ lv + 1
    omega
  · rw [dep_ks]
    show depL (L.map (·.1)) + 1 ≤ d + 1
    omega
  · have h0 : GB w.heap.size pb w wr := (GB.of hX).trans hB (by omega)
    unfold st6
    exact ((((((((h0.set2 (Nat.le_refl _)).set2 (Nat.le_refl _)).set2 (by omega)).set2 (by omega)).set2 (by omega)).set2 (by omega)).set2 (by omega)).set2 (by omega))
set_option linter.unusedVariables false in
set_option maxRecDepth 100000 in
set_option maxHeartbeats 1000000 in
theorem cut_any : ∀ (N : Nat) (t : Tr) (ao : Option Addr) (cap pb lv d : Nat) (w : World), t.cnt ≤ N → lv ≤ 1500 → d ≤ 260 → pb < w.heap.size → w.heap[pb]? = some (.cells #[.int .i64 lv] 3 (0, 0)) → TIn w (fun b => b ≠ pb) t (.slice ao t.ks.length cap) →
    Calls Tryd.prog 26 #[.agg #[.int .i64 t.op, .int .i64 t.a, .int .i64 t.n, .int .i64 t.m, .string t.s, .slice ao t.ks.length cap], .int .i64 d, .pointer (some ⟨pb, 0, none⟩)] w (CutPost w pb lv d) := by
  obtain ⟨i0, hi, hz0, hz1, hz2⟩ := info_parts node_info
  have hT : Tryd.prog.underlying 22 = some (.slice 24) := Tryd.underlying22
  intro N
  induction N with
  | zero => intro t ao cap pb lv d w h; have := cnt_pos t; omega
  | succ N ih =>
    intro t ao cap pb lv d w hN hlv hd hpb hcw ht
    have hks : t.ks.length ≤ 9223372036854775807 := by
      obtain ⟨ao', cap', e, h1, h2, _⟩ := tin_open ht
      unfold maxLen at h2
      omega
    have HT := Lib.hid ht
    have HI := Lib.hid ih
    have HKL := Lib.hid (fun (i : Nat) (x : Tr) (hx : t.ks[i]? = some x) => (by have := cnt_kid hx; omega : x.cnt ≤ N))
    clear ih ht
    obtain ⟨len, hle⟩ : ∃ len, len = t.ks.length := ⟨_, rfl⟩
    have HLE := Lib.hid hle
    rw [← hle] at hks HT ⊢
    clear hle
    go_enter Tryd.func26, Tryd.ntmps26
    go_upto_region 1 with fail
    obtain ⟨W0, hW0⟩ : ∃ W0, W0 = ((w.alloc (.cells #[.int .i64 t.op, .int .i64 t.a, .int .i64 t.n, .int .i64 t.m, .string t.s, .slice ao len cap] 24)).alloc (.cells #[.int .i64 0, .int .i64 0, .int .i64 0, .int .i64 0, .string ⟨#[]⟩, .slice none 0 0] 24)) := ⟨_, rfl⟩
    rw [← hW0]
    have hB0 : Below w.heap.size w W0 := by rw [hW0]; exact c_box2 w _ _
    have hz0' : W0.heap.size = w.heap.size + 2 := by rw [hW0]; simp
    have h01 : W0.heap[w.heap.size]? = some (.cells #[.int .i64 t.op, .int .i64 t.a, .int .i64 t.n, .int .i64 t.m, .string t.s, .slice ao len cap] 24 (0, 0)) := by rw [hW0]; exact c_new1 w _ _
    have h02 : W0.heap[w.heap.size + 1]? = some (.cells #[.int .i64 0, .int .i64 0, .int .i64 0, .int .i64 0, .string ⟨#[]⟩, .slice none 0 0] 24 (0, 0)) := by rw [hW0]; exact c_new2 w _ _
    have HX := Lib.hid (And.intro hB0 (And.intro hz0' (And.intro h01 (And.intro h02 (c_kept hB0 hpb hcw)))))
    clear hW0 hB0 hz0' h01 h02 hcw
    go_wp2
    go_loopw [7, 8] (fun v i wr => RelCut W0 t pb lv d v i wr) (fun _ i _ => len - natOf i)
    case atStart => exact ⟨0, [], none, 0, lv, rfl, rfl, Nat.zero_le _, rfl, World.ownsRow_nil _ _ _ _, (fun x hx => by cases hx), HX.out.2.2.2.2, by simp [cntL], by simp [depL], ⟨rfl, rfl, rfl, Nat.le_refl _, fun _ _ _ => rfl⟩⟩
    case round =>
      obtain ⟨k, L, ro, rc, lv', rfl, rfl, hk, hLk, hrow, hL, hcell, hcn, hdp, hB⟩ := hrel
      rw [← HLE.out] at hk
      have hwz : w.heap.size + 2 ≤ wr.heap.size := by have := HX.out.2.1; have := hB.2.2.2.1; omega
      have hb1 : wr.heap[w.heap.size]? = _ := (hB.2.2.2.2 _ (by have := HX.out.2.1; omega) (by omega)).trans HX.out.2.2.1
      have hb2 : wr.heap[w.heap.size + 1]? = _ := (hB.2.2.2.2 _ (by have := HX.out.2.1; omega) (by omega)).trans HX.out.2.2.2.1
      have HLK := Lib.hid hLk
      have hLn : L.length ≤ k := by omega
      have hkl3 : k ≤ 1500 := by have := cntL_len (L.map (·.1)); simp at this; omega
      have hl2 : lv' ≤ 1500 := by omega
      clear hLk
      have hvo : ∀ g, (Value.slice ro L.length rc).ownBlock = some g → W0.heap.size ≤ g ∧ g < wr.heap.size := fun g hg => World.ownsRow.lt hrow g hg
      have hcl : wr.cell? ⟨pb, 0, none⟩ = some (.int .i64 lv') := by simp [World.cell?, hcell]
      have hpz : pb < wr.heap.size := by omega
      have hfz : wr.frozen? ⟨pb, 0, none⟩ = false := by simp [World.frozen?, hcell]
      by_cases hgo : k < len ∧ 0 < d ∧ 0 < lv'
      · obtain ⟨hkl, hd0, hl0⟩ := hgo
        obtain ⟨d', hd'⟩ : ∃ d', d = d' + 1 := ⟨d - 1, by omega⟩
        obtain ⟨l1, rfl⟩ : ∃ l1, lv' = l1 + 1 := ⟨lv' - 1, by omega⟩
        have g1 : decide ((k : Int) < (len : Int)) = true := decide_eq_true (by omega)
        have g2 : (k : Int) < (len : Int) := by omega
        have g3 : decide ((d : Int) > 0) = true := decide_eq_true (by omega)
        have g3' : decide (0 < (d : Int)) = true := decide_eq_true (by omega)
        have g4 : decide (((l1 + 1 : Nat) : Int) > 0) = true := decide_eq_true (by omega)
        have g5 : (d : Int) - 1 = (d' : Int) := by omega
        have hd2 : d' ≤ 260 := by omega
        have HD := Lib.hid hd'
        clear hd'
        have g6 : (((l1 + 1 : Nat) : Int)) - 1 = (l1 : Int) := by omega
        obtain ⟨x, hx⟩ : ∃ x, t.ks[k]? = some x := ⟨_, List.getElem?_eq_getElem (by rw [← HLE.out]; exact hkl)⟩
        have hxc := HKL.out k x hx
        obtain ⟨⟨d0, d1, d2, d3, d4, d5⟩, -, hxl⟩ := c_six hb1
        obtain ⟨b1, o1, xo, xl, xc, rfl, hbb1, hbn, hc1, hx1⟩ := kidS HT.out hx
        obtain rfl := tin_len hx1
        obtain ⟨W1, hW1⟩ : ∃ W1, W1 = wr.setCell ⟨pb, 0, none⟩ (.int .i64 l1) := ⟨_, rfl⟩
        have hzW : W1.heap.size = wr.heap.size := by rw [hW1]; exact x_sz _ _ _
        have hg1 : GB wr.heap.size pb wr W1 := by rw [hW1]; exact GB.set (GB.of (Below.refl _ _))
        have hcW : W1.heap[pb]? = some (.cells #[.int .i64 l1] 3 (0, 0)) := by rw [hW1]; exact c_one 0 _ hcell
        have hWw : ∀ b, b < w.heap.size → b ≠ pb → W1.heap[b]? = w.heap[b]? := fun b hb hn => (hg1.2.2.2.2 b (by omega) hn).trans ((hB.2.2.2.2 b (by have := HX.out.2.1; omega) hn).trans (HX.out.1.block b hb))
        have hb1' : W1.heap[w.heap.size]? = some (.cells #[.int .i64 t.op, .int .i64 t.a, .int .i64 t.n, .int .i64 t.m, .string t.s, .slice (some ⟨b1, o1, none⟩) len cap] 24 (0, 0)) := (hg1.2.2.2.2 _ (by omega) (by omega)).trans hb1
        have htW : TIn W1 (fun b => b ≠ pb) x (.slice xo x.ks.length xc) := tin_imp (fun b hb hS => ⟨hS, hWw b hb hS⟩) (by omega) _ _ hx1
        have HC := Lib.hid (HI.out x xo xc pb l1 d' W1 hxc (by omega) hd2 (by omega) hcW htW)
        have HH := Lib.hid (And.intro hrow (And.intro hL (And.intro hcn (And.intro hdp (And.intro hB (And.intro hg1 hx))))))
        have HW1 := Lib.hid hW1
        have hW0p : pb < W0.heap.size := by have := HX.out.2.1; omega
        go_upto_region 6 with fail
        rw [← HW1.out]
        clear d0 d1 d2 d3 d4 d5 hxl hcl hfz
        obtain ⟨⟨d0, d1, d2, d3, d4, d5⟩, -, hxl⟩ := c_six hb1'
        obtain ⟨c0, c1, c2, c3, c4, c5⟩ := ncells_kept (hWw b1 hbb1 hbn) hc1
        have hl1 : b1 < W1.heap.size := by omega
        clear hc1 hx1 hrow hL hcn hdp hB hg1 hx hW1 htW hb1 hb2 hb1' hcell hcW hWw
        go_wp2_with fail
        refine HC.out.mono ?_
        rintro e w1 ⟨r, yo, yl, yc, lv2, rfl, htin, hc2, hrc, hrd, hB9⟩
        have hz9 := hB9.2.2.2.1
        have hrow9 : w1.ownsRow W0.heap.size 24 6 (.slice ro L.length rc) L.length (L.flatMap pC) := prow_gb (prow_gb HH.out.1 HH.out.2.2.2.2.2.1 (fun g hg => by have := hvo g hg; omega)) hB9 (fun g hg => by have := hvo g hg; omega)
        have hW0r : W0.heap.size ≤ wr.heap.size := HH.out.2.2.2.2.1.2.2.2.1
        have HF := Lib.hid (And.intro htin (And.intro hc2 (And.intro hrc (And.intro hrd (And.intro hB9 hrow9)))))
        clear htin hc2 hrc hrd hB9 hrow9
        go_wp2_with (at_builtin; refine wpList_append_lies _ rfl _ _ 22 rfl W0.heap.size 24 i0 (.agg #[.int .i64 0, .int .i64 0, .int .i64 0, .int .i64 0, .string ⟨#[]⟩, .slice none 0 0]) 6 72 hT hi hz0 hz1 hz2 rfl (by decide) (.slice ro L.length rc) _ _ rfl (HF.out.2.2.2.2.2.alloc _) ⟨w1.heap.size, 0, none⟩ 1 1 (ndC r (.slice yo yl yc)) rfl rfl ?_ ?_ (by omega) ?_ ?_ ?_ _ rfl ?_; exact World.news_of_block (cs := #[.int .i64 r.op, .int .i64 r.a, .int .i64 r.n, .int .i64 r.m, .string r.s, .slice yo yl yc]) (t := 24) (fr := (0, 0)) (heap_alloc_new w1 _); exact pC_one (r, .slice yo yl yc) ⟨_, _, _, rfl⟩; (unfold maxLen; omega); omega; (simp; omega); intro g gc w4 hown' hgrow hat hglt; have HST := Lib.hid (relcut_step HH.out.2.2.2.2.2.2 HLK.out hW0p HD.out HH.out.2.2.1 HH.out.2.2.2.1 HH.out.2.2.2.2.1 HH.out.2.2.2.2.2.1 hzW HH.out.2.1 hvo HF.out.1 HF.out.2.1 HF.out.2.2.1 HF.out.2.2.2.1 HF.out.2.2.2.2.1 hgrow hat hown'); clear hown' hgrow hat hglt c0 c1 c2 c3 c4 c5 d0 d1 d2 d3 d4 d5)
        go_roundw
        case rel => exact HST.out
        case measure => simp [natOf]; omega
      · by_cases hkl : k < len
        case neg =>
          have g1 : decide ((k : Int) < (len : Int)) = false := decide_eq_false (by omega)
          clear hgo
          obtain ⟨⟨d0, d1, d2, d3, d4, d5⟩, ⟨e0, e1, e2, e3, e4, e5⟩, hxl⟩ := c_six hb1
          obtain ⟨⟨r0, r1, r2, r3, r4, r5⟩, ⟨q0, q1, q2, q3, q4, q5⟩, hr⟩ := c_six hb2
          have HH := Lib.hid (And.intro hrow (And.intro hL (And.intro hcell (And.intro hcn (And.intro hdp hB)))))
          clear hrow hL hcell hcn hdp hB hb1 hb2
          go_wp2
          · (refine bodyPost_ret (v := .agg #[.int .i64 t.op, .int .i64 t.a, .int .i64 t.n, .int .i64 t.m, .string (t.s.extract 0 200), .slice ro L.length rc]) (by simp [results, Tryd.results26, go_sem, r0, r1, r2, r3, r4, r5]) rfl ?_; exact cut_end (t.s.extract 0 200) HX.out.1 HX.out.2.1 hpb HH.out.1 HH.out.2.1 HH.out.2.2.1 HH.out.2.2.2.1 HH.out.2.2.2.2.1 HH.out.2.2.2.2.2 hvo)
          · (refine bodyPost_ret (v := .agg #[.int .i64 t.op, .int .i64 t.a, .int .i64 t.n, .int .i64 t.m, .string (t.s), .slice ro L.length rc]) (by simp [results, Tryd.results26, go_sem, r0, r1, r2, r3, r4, r5]) rfl ?_; exact cut_end (t.s) HX.out.1 HX.out.2.1 hpb HH.out.1 HH.out.2.1 HH.out.2.2.1 HH.out.2.2.2.1 HH.out.2.2.2.2.1 HH.out.2.2.2.2.2 hvo)
        by_cases hd0 : 0 < d
        case neg =>
          have g1 : decide ((k : Int) < (len : Int)) = true := decide_eq_true (by omega)
          obtain rfl : d = 0 := by omega
          clear hgo
          obtain ⟨⟨d0, d1, d2, d3, d4, d5⟩, ⟨e0, e1, e2, e3, e4, e5⟩, hxl⟩ := c_six hb1
          obtain ⟨⟨r0, r1, r2, r3, r4, r5⟩, ⟨q0, q1, q2, q3, q4, q5⟩, hr⟩ := c_six hb2
          have HH := Lib.hid (And.intro hrow (And.intro hL (And.intro hcell (And.intro hcn (And.intro hdp hB)))))
          clear hrow hL hcell hcn hdp hB hb1 hb2
          go_wp2
          · (refine bodyPost_ret (v := .agg #[.int .i64 t.op, .int .i64 t.a, .int .i64 t.n, .int .i64 t.m, .string (t.s.extract 0 200), .slice ro L.length rc]) (by simp [results, Tryd.results26, go_sem, r0, r1, r2, r3, r4, r5]) rfl ?_; exact cut_end (t.s.extract 0 200) HX.out.1 HX.out.2.1 hpb HH.out.1 HH.out.2.1 HH.out.2.2.1 HH.out.2.2.2.1 HH.out.2.2.2.2.1 HH.out.2.2.2.2.2 hvo)
          · (refine bodyPost_ret (v := .agg #[.int .i64 t.op, .int .i64 t.a, .int .i64 t.n, .int .i64 t.m, .string (t.s), .slice ro L.length rc]) (by simp [results, Tryd.results26, go_sem, r0, r1, r2, r3, r4, r5]) rfl ?_; exact cut_end (t.s) HX.out.1 HX.out.2.1 hpb HH.out.1 HH.out.2.1 HH.out.2.2.1 HH.out.2.2.2.1 HH.out.2.2.2.2.1 HH.out.2.2.2.2.2 hvo)
        obtain rfl : lv' = 0 := by omega
        have g1 : decide ((k : Int) < (len : Int)) = true := decide_eq_true (by omega)
        have g3 : decide ((d : Int) > 0) = true := decide_eq_true (by omega)
        have g4 : decide (0 < (d : Int)) = true := decide_eq_true (by omega)
        clear hgo
        obtain ⟨⟨d0, d1, d2, d3, d4, d5⟩, ⟨e0, e1, e2, e3, e4, e5⟩, hxl⟩ := c_six hb1
        obtain ⟨⟨r0, r1, r2, r3, r4, r5⟩, ⟨q0, q1, q2, q3, q4, q5⟩, hr⟩ := c_six hb2
        have HH := Lib.hid (And.intro hrow (And.intro hL (And.intro hcell (And.intro hcn (And.intro hdp hB)))))
        clear hrow hL hcell hcn hdp hB hb1 hb2
        go_wp2
        · (refine bodyPost_ret (v := .agg #[.int .i64 t.op, .int .i64 t.a, .int .i64 t.n, .int .i64 t.m, .string (t.s.extract 0 200), .slice ro L.length rc]) (by simp [results, Tryd.results26, go_sem, r0, r1, r2, r3, r4, r5]) rfl ?_; exact cut_end (t.s.extract 0 200) HX.out.1 HX.out.2.1 hpb HH.out.1 HH.out.2.1 HH.out.2.2.1 HH.out.2.2.2.1 HH.out.2.2.2.2.1 HH.out.2.2.2.2.2 hvo)
        · (refine bodyPost_ret (v := .agg #[.int .i64 t.op, .int .i64 t.a, .int .i64 t.n, .int .i64 t.m, .string (t.s), .slice ro L.length rc]) (by simp [results, Tryd.results26, go_sem, r0, r1, r2, r3, r4, r5]) rfl ?_; exact cut_end (t.s) HX.out.1 HX.out.2.1 hpb HH.out.1 HH.out.2.1 HH.out.2.2.1 HH.out.2.2.2.1 HH.out.2.2.2.2.1 HH.out.2.2.2.2.2 hvo)
end Go.Proofs.YtppliplalfpmaaaDoor
