/-
  Copy and Plain of package tree once more: with what is known of the row that holds the children: it is new, and nothing of it is frozen.
-/
import Derived.Test.YtppliplalfpmaaaDoorCopy
namespace Go.Proofs.YtppliplalfpmaaaDoor
open Go.RowKit

/-- the block of a slice is new since w, and nothing of it is frozen -/
def UnfF (w w' : World) (o : Option Addr) : Prop := ∀ (b i : Nat), o = some ⟨b, i, none⟩ → w.heap.size ≤ b ∧ ∃ cs T, w'.heap[b]? = some (.cells cs T (0, 0))
def EPost2 (w : World) (l : List Tr) : Ending → World → Prop := fun e w' => ∃ (o : Option Addr) (c : Nat), e = .returned (.slice o l.length c) ∧ (∀ t : Tr, t.ks = l → TIn w' (Fresh w) t (.slice o l.length c)) ∧ Below w.heap.size w w' ∧ UnfF w w' o
def PlPost2 (w : World) (r : Tr) : Ending → World → Prop := fun e w' => ∃ (o : Option Addr) (l c : Nat), e = .returned (.agg #[.int .i64 r.op, .int .i64 r.a, .int .i64 r.n, .int .i64 r.m, .string r.s, .slice o l c]) ∧ TIn w' (Fresh w) r (.slice o l c) ∧ Below w.heap.size w w' ∧ UnfF w w' o
theorem unf_row {w wr : World} {T len : Nat} {L : List TV} (h : PRow wr w.heap.size T (.slice (some ⟨w.heap.size, 0, none⟩) len len) L) : UnfF w wr (some ⟨w.heap.size, 0, none⟩) := by
  intro b i e
  have e2 : w.heap.size = b ∧ 0 = i := by simpa using e
  rcases h.2 with ⟨e3, _⟩ | ⟨g, cap, cur, e3, hb, hg, _⟩
  · cases e3
  · have e4 : w.heap.size = g := by
      have e5 : (some (⟨w.heap.size, 0, none⟩ : Addr)) = some ⟨g, 0, none⟩ := (Value.slice.inj e3).1
      simpa using e5
    refine ⟨by omega, cur, T, ?_⟩
    rw [← e2.1, e4]
    exact hg
theorem each_end2 {w wr : World} {t : Tr} {gf : Tr → Tr} {len : Nat} {L : List TV} (hlen : len = t.ks.length) (hl : L.length = len) (hrow : PRow wr w.heap.size 24 (.slice (some ⟨w.heap.size, 0, none⟩) len len) L)
    (hd : ∀ (j : Nat) (x : TV), j < len → L[j]? = some x → (t.ks[j]?).map gf = some x.1 ∧ TIn wr (fun b => w.heap.size < b) x.1 x.2) (hB : Below w.heap.size w wr) :
    EPost2 w (t.ks.map gf) (.returned (.slice (some ⟨w.heap.size, 0, none⟩) len len)) wr := by
  have hll : (t.ks.map gf).length = len := by simp [hlen]
  have hm : L.map (·.1) = t.ks.map gf := by
    apply List.ext_getElem?
    intro j
    by_cases hj : j < len
    · obtain ⟨x, hx⟩ : ∃ x, L[j]? = some x := ⟨_, List.getElem?_eq_getElem (by omega)⟩
      rw [List.getElem?_map, List.getElem?_map, hx, (hd j x hj hx).1]; rfl
    · rw [List.getElem?_eq_none (by simp; omega), List.getElem?_eq_none (by omega)]
  refine ⟨some ⟨w.heap.size, 0, none⟩, len, by rw [hll], fun u hu => ?_, hB, unf_row hrow⟩
  rw [hll]
  refine tin_row hrow (fun g hg => ?_) (fun x hx => ?_) (hu.trans hm.symm)
  · have e : w.heap.size = g := by simpa [Value.ownBlock] using hg
    unfold Fresh; omega
  · obtain ⟨j, hj⟩ := List.getElem?_of_mem hx
    have hjl : j < len := by have := (List.getElem?_eq_some_iff.1 hj).1; omega
    exact tin_mono (hd j x hjl hj).2 (fun b _ hs => by unfold Fresh; omega)
set_option linter.unusedVariables false in
set_option maxRecDepth 100000 in
set_option maxHeartbeats 1000000 in
theorem each_any2 (id : Nat) (gf : Tr → Tr) (N : Nat) (hent : ∀ (args : Array Value) (w : World), (callFunc id args).run Tryd.prog w = .ok (.enter id args) w) (hN : N ≤ 100000)
    (HF : ∀ (x : Tr) (a1 : Option Addr) (p1 : Nat) (W : World), x.cnt ≤ N → TIn W All x (.slice a1 x.ks.length p1) → Calls Tryd.prog id #[.agg #[.int .i64 x.op, .int .i64 x.a, .int .i64 x.n, .int .i64 x.m, .string x.s, .slice a1 x.ks.length p1]] W (PlPost W (gf x)))
    (t : Tr) (lo : Option Addr) (lc : Nat) (w : World) (hk : ∀ x ∈ t.ks, x.cnt ≤ N) (hks : t.ks.length ≤ 100000) (ht : TIn w All t (.slice lo t.ks.length lc)) :
    Calls Tryd.prog 27 #[.slice lo t.ks.length lc, .func (.func id) #[] #[]] w (EPost2 w (t.ks.map gf)) := by
  obtain ⟨i0, hi, hz0, hz1, hz2⟩ := info_parts node_info
  have hT : Tryd.prog.underlying 22 = some (.slice 24) := Tryd.underlying22
  have hnil : ∀ (a : Option Addr) (l c : Nat) (w : World), (binOp .eql 22 (.slice a l c) (.slice none 0 0)).run Tryd.prog w = .ok (.bool a.isNone) w := fun a l c w => Lib.run_eql_slice_nil _ _ _ _ _ _ _ _ hT
  cases lo with
  | none =>
    have hk0 : t.ks = [] := by
      cases h : t.ks with
      | nil => rfl
      | cons x r =>
        obtain ⟨ao', cap', e, _, _, h3⟩ := tin_open ht
        obtain ⟨b, o, kx, ea, _⟩ := h3 0 x (by rw [h]; rfl)
        have e2 : (none : Option Addr) = ao' ∧ lc = cap' := by simpa using e
        rw [← e2.1] at ea
        exact absurd ea (by simp)
    go_enter Tryd.func27, Tryd.ntmps27
    go_wp2
    go_ret
    rw [hk0]
    exact ⟨none, 0, rfl, fun u hu => by have := tin_close (w := w) (S := Fresh w) (t := u) (ao := none) (cap := 0) (by rw [hu]; simp) (by simp) (.inl hu); rw [hu] at this; exact this, Below.refl _ _, fun b i e => by cases e⟩
  | some p =>
    have HT := Lib.hid ht
    have HK := Lib.hid (And.intro HF hk)
    clear ht HF hk
    obtain ⟨len, hle⟩ : ∃ len, len = t.ks.length := ⟨_, rfl⟩
    have HLE := Lib.hid hle
    rw [← hle] at hks HT ⊢
    clear hle
    go_enter Tryd.func27, Tryd.ntmps27
    go_wp2_with (refine wpList_make_full _ rfl _ _ _ rfl w.heap.size 24 i0 (.agg #[.int .i64 0, .int .i64 0, .int .i64 0, .int .i64 0, .string ⟨#[]⟩, .slice none 0 0]) 6 hT hi hz0 hz1 .i64 .i64 _ _ len rfl rfl rfl rfl ?_ ?_ ?_ ?_; (rw [hz2]; omega); (unfold maxLen; omega); exact Nat.le_refl _; intro W0 hown hgrow; have HO := Lib.hid (And.intro hown hgrow); clear hown hgrow)
    go_loopw [15] (fun i wr => RelEach w t gf len i wr) (fun i _ => len - natOf i)
    case atStart =>
      have e : (List.replicate len ((zeroT, .slice none 0 0) : TV)).length = len := List.length_replicate
      refine ⟨0, List.replicate len (zeroT, .slice none 0 0), rfl, Nat.zero_le _, e, ?_, fun j x h => absurd h (Nat.not_lt_zero j), ?_⟩
      · unfold PRow
        rw [e, ← made_row]
        exact HO.out.1
      · exact ⟨HO.out.2.os, HO.out.2.tape, HO.out.2.output, HO.out.2.size, fun b hb => HO.out.2.block b hb (by simp)⟩
    case round =>
      obtain ⟨k, L, rfl, hk, hl, hrow, hd, hB⟩ := hrel
      have hgz : w.heap.size < wr.heap.size := (World.ownsRow.lt hrow w.heap.size rfl).2
      by_cases hkl : k < len
      · have g1 : decide ((k : Int) < (len : Int)) = true := decide_eq_true (by omega)
        have g2 : (k : Int) < (len : Int) := by omega
        obtain ⟨x, hx⟩ : ∃ x, t.ks[k]? = some x := ⟨_, List.getElem?_eq_getElem (by rw [← HLE.out]; exact hkl)⟩
        have hxc := HK.out.2 x (List.mem_of_getElem? hx)
        obtain ⟨b1, o1, xo, xl, xc, ea1, hbb1, hc1, hx1⟩ := kid0 HT.out hx
        obtain rfl : p = ⟨b1, o1, none⟩ := Option.some.inj ea1
        obtain ⟨c0, c1, c2, c3, c4, c5⟩ := ncells_kept (hB.block b1 hbb1) hc1
        obtain rfl := tin_len hx1
        have hl1 : b1 < wr.heap.size := by omega
        obtain ⟨W2, hW2⟩ : ∃ W2, W2 = wr.alloc (.cells #[.int .i64 x.op, .int .i64 x.a, .int .i64 x.n, .int .i64 x.m, .string x.s, .slice xo x.ks.length xc] 24) := ⟨_, rfl⟩
        have hb9 : Below wr.heap.size wr W2 := by rw [hW2]; exact c_box wr _
        have hx9 : W2.heap[wr.heap.size]? = some (.cells #[.int .i64 x.op, .int .i64 x.a, .int .i64 x.n, .int .i64 x.m, .string x.s, .slice xo x.ks.length xc] 24 (0, 0)) := by rw [hW2]; exact heap_alloc_new wr _
        obtain ⟨⟨d0, d1, d2, d3, d4, d5⟩, -, hxl⟩ := c_six hx9
        have HC := Lib.hid (HK.out.1 x xo xc W2 hxc (tin_kept hx1 (c_thr hB hb9 hB.size)))
        have HH := Lib.hid (And.intro hl (And.intro hrow (And.intro hd (And.intro hB (And.intro hx hb9)))))
        have HW2 := Lib.hid hW2
        clear hc1 hx1 hl hrow hd hB hx hb9 hx9 hxl hW2 ea1
        go_upto_region 7 with fail
        rw [← HW2.out]
        go_wp2_with fail
        refine HC.out.mono ?_
        rintro e w1 ⟨yo, yl, yc, rfl, htin, hB9⟩
        have h3 : PRow w1 w.heap.size 24 (.slice (some ⟨w.heap.size, 0, none⟩) len len) L := prow_kept (prow_kept HH.out.2.1 HH.out.2.2.2.2.2) hB9
        obtain ⟨z, hz⟩ : ∃ z, L[k]? = some z := ⟨_, List.getElem?_eq_getElem (by have := HH.out.1; omega)⟩
        obtain ⟨q0, q1, q2, q3, q4, q5⟩ := prow_cells h3 rfl hz
        have f0 := prow_frozen h3 rfl (k * 6)
        have f1 := prow_frozen h3 rfl (k * 6 + 1)
        have f2 := prow_frozen h3 rfl (k * 6 + 2)
        have f3 := prow_frozen h3 rfl (k * 6 + 3)
        have f4 := prow_frozen h3 rfl (k * 6 + 4)
        have f5 := prow_frozen h3 rfl (k * 6 + 5)
        have hl9 : w.heap.size < w1.heap.size := (World.ownsRow.lt h3 w.heap.size rfl).2
        have HST := Lib.hid (each_step hkl HH.out.1 HH.out.2.1 HH.out.2.2.1 HH.out.2.2.2.1 HH.out.2.2.2.2.1 HH.out.2.2.2.2.2 htin hB9)
        clear htin hB9 h3 hz
        go_wp2
        go_roundw
        case rel => exact HST.out
        case measure => simp [natOf]; omega
      · have g1 : decide ((k : Int) < (len : Int)) = false := decide_eq_false (by omega)
        have hkl2 : k = len := by omega
        subst hkl2
        have HH := Lib.hid (each_end2 HLE.out hl hrow hd hB)
        clear hl hrow hd hB
        go_wp2
        go_ret
        exact HH.out
set_option linter.unusedVariables false in
set_option maxRecDepth 100000 in
set_option maxHeartbeats 1000000 in
theorem copy_any2 : ∀ (N : Nat) (t : Tr) (ao : Option Addr) (cap : Nat) (w : World), t.cnt ≤ N → N ≤ 100000 → TIn w All t (.slice ao t.ks.length cap) →
    Calls Tryd.prog 8 #[.agg #[.int .i64 t.op, .int .i64 t.a, .int .i64 t.n, .int .i64 t.m, .string t.s, .slice ao t.ks.length cap]] w (PlPost2 w (id t)) := by
  intro N0 t ao cap w hN0 hN2' ht
  obtain ⟨N, rfl⟩ : ∃ N, N0 = N + 1 := ⟨N0 - 1, by have := cnt_pos t; omega⟩
  have hN := hN0
  have hN2 := hN2'
  have hks := ks_le hN hN2
  have hkk : ∀ x ∈ t.ks, x.cnt ≤ N := fun x hx => by
    obtain ⟨i, hi⟩ := List.getElem?_of_mem hx
    have := cnt_kid hi
    omega
  have HE := Lib.hid (fun (W : World) (hW : TIn W All t (.slice ao t.ks.length cap)) => each_any2 8 id N ent_copy_any (by omega) (fun x a1 p1 W hx => copy_any N x a1 p1 W hx (by omega)) t ao cap W hkk hks hW)
  have HT := Lib.hid ht
  clear ht hkk hN0 hN2'
  obtain ⟨len, hle⟩ : ∃ len, len = t.ks.length := ⟨_, rfl⟩
  have HLE := Lib.hid hle
  rw [← hle] at hks HT HE ⊢
  clear hle
  go_enter Tryd.func8, Tryd.ntmps8
  go_upto_region 1 with fail
  obtain ⟨W0, hW0⟩ : ∃ W0, W0 = ((w.alloc (.cells #[.int .i64 t.op, .int .i64 t.a, .int .i64 t.n, .int .i64 t.m, .string t.s, .slice ao len cap] 24)).alloc (.cells #[.int .i64 0, .int .i64 0, .int .i64 0, .int .i64 0, .string ⟨#[]⟩, .slice none 0 0] 24)) := ⟨_, rfl⟩
  rw [← hW0]
  have hB0 : Below w.heap.size w W0 := by rw [hW0]; exact c_box2 w _ _
  have hz0' : W0.heap.size = w.heap.size + 2 := by rw [hW0]; simp
  have h01 : W0.heap[w.heap.size]? = some (.cells #[.int .i64 t.op, .int .i64 t.a, .int .i64 t.n, .int .i64 t.m, .string t.s, .slice ao len cap] 24 (0, 0)) := by rw [hW0]; exact c_new1 w _ _
  have h02 : W0.heap[w.heap.size + 1]? = some (.cells #[.int .i64 0, .int .i64 0, .int .i64 0, .int .i64 0, .string ⟨#[]⟩, .slice none 0 0] 24 (0, 0)) := by rw [hW0]; exact c_new2 w _ _
  obtain ⟨⟨d0, d1, d2, d3, d4, d5⟩, ⟨p0, p1, p2, p3, p4, p5⟩, hxl⟩ := c_six h01
  clear hW0
  have HX := Lib.hid (And.intro hB0 (And.intro hz0' (And.intro h01 h02)))
  have HC := Lib.hid (HE.out W0 (tin_kept HT.out hB0))
  clear hB0 h01 h02
  go_wp2_with fail
  refine HC.out.mono ?_
  rintro e w1 ⟨o, c, rfl, htin, hB9, hu⟩
  have HU := Lib.hid hu
  clear hu
  have HF := Lib.hid (And.intro (htin t (by simp)) hB9)
  have hb1 := c_kept hB9 (c_lt HX.out.2.2.1) HX.out.2.2.1
  have hb2 := c_kept hB9 (c_lt HX.out.2.2.2) HX.out.2.2.2
  have hz9 := hB9.size
  clear htin hB9 d0 d1 d2 d3 d4 d5 p0 p1 p2 p3 p4 p5 hxl
  obtain ⟨⟨d0, d1, d2, d3, d4, d5⟩, ⟨p0, p1, p2, p3, p4, p5⟩, hxl⟩ := c_six hb1
  obtain ⟨⟨r0, r1, r2, r3, r4, r5⟩, ⟨q0, q1, q2, q3, q4, q5⟩, hr⟩ := c_six hb2
  have HG := Lib.hid (And.intro hb1 hb2)
  clear hb1 hb2
  go_wp2
  refine bodyPost_ret (v := .agg #[.int .i64 t.op, .int .i64 t.a, .int .i64 t.n, .int .i64 t.m, .string t.s, .slice o t.ks.length c]) (by simp [results, Tryd.results8, go_sem, r0, r1, r2, r3, r4, r5]) rfl ?_
  have hW2 := HX.out.2.1
  have hlm : (t.ks.map id).length = t.ks.length := List.length_map _
  have hti := HF.out.1
  rw [hlm] at hti
  have hg1 : w1.grownBy (w1.setCell ⟨w.heap.size, 5, none⟩ (.slice o t.ks.length c)) (some w.heap.size) := c_gset ⟨rfl, rfl, rfl, Nat.le_refl _, fun _ _ _ => rfl⟩ rfl _
  refine ⟨o, t.ks.length, c, ?_, tin_mono (tin_grown (tin_grown hti hg1 (fun b _ hs e => by unfold Fresh at hs; simp at e; omega)) (st6_grown _ (w.heap.size + 1) 0 _ _ _ _ _ _) (fun b _ hs e => by unfold Fresh at hs; simp at e; omega)) (fun b _ hs => by unfold Fresh at hs ⊢; omega), c_st6 (c_set 5 _ (c_thr HX.out.1 HF.out.2 HX.out.1.size) (Nat.le_refl _)) (by omega), ?_⟩
  · rfl
  · intro b i e
    obtain ⟨h1, cs, T, h2⟩ := HU.out b i e
    exact ⟨by omega, cs, T, (st6_heap _ (w.heap.size + 1) 0 _ _ _ _ _ _ b (by omega)).trans ((x_ne w1 w.heap.size 5 b _ (by omega)).trans h2)⟩
set_option linter.unusedVariables false in
set_option maxRecDepth 100000 in
set_option maxHeartbeats 1000000 in
theorem plain_any2 : ∀ (N : Nat) (t : Tr) (ao : Option Addr) (cap : Nat) (w : World), t.cnt ≤ N → N ≤ 100000 → TIn w All t (.slice ao t.ks.length cap) →
    Calls Tryd.prog 9 #[.agg #[.int .i64 t.op, .int .i64 t.a, .int .i64 t.n, .int .i64 t.m, .string t.s, .slice ao t.ks.length cap]] w (PlPost2 w (Tr.pl t)) := by
  intro N0 t ao cap w hN0 hN2' ht
  obtain ⟨N, rfl⟩ : ∃ N, N0 = N + 1 := ⟨N0 - 1, by have := cnt_pos t; omega⟩
  have hN := hN0
  have hN2 := hN2'
  have hks := ks_le hN hN2
  have hkk : ∀ x ∈ t.ks, x.cnt ≤ N := fun x hx => by
    obtain ⟨i, hi⟩ := List.getElem?_of_mem hx
    have := cnt_kid hi
    omega
  have HE := Lib.hid (fun (W : World) (hW : TIn W All t (.slice ao t.ks.length cap)) => each_any2 9 Tr.pl N ent_plain_any (by omega) (fun x a1 p1 W hx => plain_any N x a1 p1 W hx (by omega)) t ao cap W hkk hks hW)
  have HT := Lib.hid ht
  clear ht hkk hN0 hN2'
  obtain ⟨len, hle⟩ : ∃ len, len = t.ks.length := ⟨_, rfl⟩
  have HLE := Lib.hid hle
  rw [← hle] at hks HT HE ⊢
  clear hle
  go_enter Tryd.func9, Tryd.ntmps9
  go_upto_region 1 with fail
  obtain ⟨W0, hW0⟩ : ∃ W0, W0 = ((w.alloc (.cells #[.int .i64 t.op, .int .i64 t.a, .int .i64 t.n, .int .i64 t.m, .string t.s, .slice ao len cap] 24)).alloc (.cells #[.int .i64 0, .int .i64 0, .int .i64 0, .int .i64 0, .string ⟨#[]⟩, .slice none 0 0] 24)) := ⟨_, rfl⟩
  rw [← hW0]
  have hB0 : Below w.heap.size w W0 := by rw [hW0]; exact c_box2 w _ _
  have hz0' : W0.heap.size = w.heap.size + 2 := by rw [hW0]; simp
  have h01 : W0.heap[w.heap.size]? = some (.cells #[.int .i64 t.op, .int .i64 t.a, .int .i64 t.n, .int .i64 t.m, .string t.s, .slice ao len cap] 24 (0, 0)) := by rw [hW0]; exact c_new1 w _ _
  have h02 : W0.heap[w.heap.size + 1]? = some (.cells #[.int .i64 0, .int .i64 0, .int .i64 0, .int .i64 0, .string ⟨#[]⟩, .slice none 0 0] 24 (0, 0)) := by rw [hW0]; exact c_new2 w _ _
  obtain ⟨⟨d0, d1, d2, d3, d4, d5⟩, ⟨p0, p1, p2, p3, p4, p5⟩, hxl⟩ := c_six h01
  clear hW0
  have hB1 : Below w.heap.size w (W0.setCell ⟨w.heap.size, 1, none⟩ (.int .i64 0)) := c_set 1 _ hB0 (Nat.le_refl _)
  have h11 := c_one 1 (.int .i64 0) h01
  have h12 : (W0.setCell ⟨w.heap.size, 1, none⟩ (.int .i64 0)).heap[w.heap.size + 1]? = some (.cells #[.int .i64 0, .int .i64 0, .int .i64 0, .int .i64 0, .string ⟨#[]⟩, .slice none 0 0] 24 (0, 0)) := (Below.heap_setCell _ _ _ _ (by show w.heap.size + 1 ≠ w.heap.size; omega)).trans h02
  have hz1' : (W0.setCell ⟨w.heap.size, 1, none⟩ (.int .i64 0)).heap.size = w.heap.size + 2 := by rw [x_sz]; exact hz0'
  go_upto_region 2 with fail
  obtain ⟨W1, hW1⟩ : ∃ W1, W1 = W0.setCell ⟨w.heap.size, 1, none⟩ (.int .i64 0) := ⟨_, rfl⟩
  rw [← hW1] at hB1 h11 h12 hz1' ⊢
  have HX := Lib.hid (And.intro hB1 (And.intro hz1' (And.intro h11 h12)))
  have HC := Lib.hid (HE.out W1 (tin_kept HT.out hB1))
  clear d0 d1 d2 d3 d4 d5 p0 p1 p2 p3 p4 p5 hxl hB1 h11 h12 hW1
  obtain ⟨⟨d0, d1, d2, d3, d4, d5⟩, ⟨p0, p1, p2, p3, p4, p5⟩, hxl⟩ := c_six HX.out.2.2.1
  clear hB0 h01 h02
  go_wp2_with fail
  refine HC.out.mono ?_
  rintro e w1 ⟨o, c, rfl, htin, hB9, hu⟩
  have HU := Lib.hid hu
  clear hu
  have HF := Lib.hid (And.intro (htin t.pl (by rw [pl_ks, plL_map])) hB9)
  have hb1 := c_kept hB9 (c_lt HX.out.2.2.1) HX.out.2.2.1
  have hb2 := c_kept hB9 (c_lt HX.out.2.2.2) HX.out.2.2.2
  have hz9 := hB9.size
  clear htin hB9 d0 d1 d2 d3 d4 d5 p0 p1 p2 p3 p4 p5 hxl
  obtain ⟨⟨d0, d1, d2, d3, d4, d5⟩, ⟨p0, p1, p2, p3, p4, p5⟩, hxl⟩ := c_six hb1
  obtain ⟨⟨r0, r1, r2, r3, r4, r5⟩, ⟨q0, q1, q2, q3, q4, q5⟩, hr⟩ := c_six hb2
  have HG := Lib.hid (And.intro hb1 hb2)
  clear hb1 hb2
  go_wp2
  refine bodyPost_ret (v := .agg #[.int .i64 t.op, .int .i64 0, .int .i64 t.n, .int .i64 t.m, .string t.s, .slice o t.ks.length c]) (by simp [results, Tryd.results9, go_sem, r0, r1, r2, r3, r4, r5]) rfl ?_
  have hW2 := HX.out.2.1
  have hlm : (t.ks.map Tr.pl).length = t.ks.length := List.length_map _
  have hti := HF.out.1
  rw [hlm] at hti
  have hg1 : w1.grownBy (w1.setCell ⟨w.heap.size, 5, none⟩ (.slice o t.ks.length c)) (some w.heap.size) := c_gset ⟨rfl, rfl, rfl, Nat.le_refl _, fun _ _ _ => rfl⟩ rfl _
  refine ⟨o, t.ks.length, c, ?_, tin_mono (tin_grown (tin_grown hti hg1 (fun b _ hs e => by unfold Fresh at hs; simp at e; omega)) (st6_grown _ (w.heap.size + 1) 0 _ _ _ _ _ _) (fun b _ hs e => by unfold Fresh at hs; simp at e; omega)) (fun b _ hs => by unfold Fresh at hs ⊢; omega), c_st6 (c_set 5 _ (c_thr HX.out.1 HF.out.2 HX.out.1.size) (Nat.le_refl _)) (by omega), ?_⟩
  · obtain ⟨s1, s2, s3, s4, s5⟩ := pl_op t
    rw [s1, s2, s3, s4, s5]
  · intro b i e
    obtain ⟨h1, cs, T, h2⟩ := HU.out b i e
    exact ⟨by omega, cs, T, (st6_heap _ (w.heap.size + 1) 0 _ _ _ _ _ _ b (by omega)).trans ((x_ne w1 w.heap.size 5 b _ (by omega)).trans h2)⟩
end Go.Proofs.YtppliplalfpmaaaDoor
