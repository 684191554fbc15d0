/-
  each of package tree: what a function value makes of every child, in a new row.
-/
import Derived.Test.YtppliplalfpmaaaDoorRPlain
import Derived.Shelf.Abstract
import Derived.WalkSpells
namespace Go.Proofs.YtppliplalfpmaaaDoor
open Go.RowKit

theorem made_row (n : Nat) : (madeCells (Value.agg #[.int .i64 0, .int .i64 0, .int .i64 0, .int .i64 0, .string ⟨#[]⟩, .slice none 0 0]).cells (n * 6)).toList = (List.replicate n ((zeroT, .slice none 0 0) : TV)).flatMap pC := by
  apply List.ext_getElem?
  intro j
  by_cases hj : j < n * 6
  · obtain ⟨q, r, hq, hr, rfl⟩ : ∃ q r, q < n ∧ r < 6 ∧ j = q * 6 + r := ⟨j / 6, j % 6, by omega, by omega, by omega⟩
    have hm : (q * 6 + r) % 6 = r := by omega
    have hrep : (List.replicate n ((zeroT, .slice none 0 0) : TV))[q]? = some (zeroT, .slice none 0 0) := by simp [hq]
    have key : ∀ u, (pC ((zeroT, .slice none 0 0) : TV))[r]? = some u → ((List.replicate n ((zeroT, .slice none 0 0) : TV)).flatMap pC)[q * 6 + r]? = some u := fun u hu => pC_flat hrep hu
    rcases (by omega : r = 0 ∨ r = 1 ∨ r = 2 ∨ r = 3 ∨ r = 4 ∨ r = 5) with rfl | rfl | rfl | rfl | rfl | rfl
    all_goals (rw [key _ rfl]; (try simp only [Nat.add_zero] at hj hm); simp [madeCells, hj, hm, Value.cells, Tr.op, Tr.a, Tr.n, Tr.m, Tr.s, zeroT])
  · rw [List.getElem?_eq_none (by rw [Array.length_toList, size_madeCells]; omega), List.getElem?_eq_none (by rw [pC_flat_len]; simp; omega)]
def EPost (w : World) (l : List Tr) : Ending → World → Prop := fun e w' => ∃ (o : Option Addr) (c : Nat), e = .returned (.slice o l.length c) ∧ (∀ t : Tr, t.ks = l → TIn w' (Fresh w) t (.slice o l.length c)) ∧ Below w.heap.size w w'
def RelEach (w : World) (t : Tr) (gf : Tr → Tr) (len : Nat) (i : Value) (wr : World) : Prop := ∃ (k : Nat) (L : List TV), i = .int .i64 k ∧ k ≤ len ∧ L.length = len ∧ PRow wr w.heap.size 24 (.slice (some ⟨w.heap.size, 0, none⟩) len len) L ∧ (∀ (j : Nat) (x : TV), j < k → L[j]? = some x → (t.ks[j]?).map gf = some x.1 ∧ TIn wr (fun b => w.heap.size < b) x.1 x.2) ∧ Below w.heap.size w wr
theorem each_step {w wr W2 w1 : World} {t y : Tr} {gf : Tr → Tr} {len k : Nat} {L : List TV} {ky : Value} (hk : k < len) (hl : L.length = len) (hrow : PRow wr w.heap.size 24 (.slice (some ⟨w.heap.size, 0, none⟩) len len) L)
    (hd : ∀ (j : Nat) (x : TV), j < k → L[j]? = some x → (t.ks[j]?).map gf = some x.1 ∧ TIn wr (fun b => w.heap.size < b) x.1 x.2) (hB : Below w.heap.size w wr) (hy : t.ks[k]? = some y)
    (hb2 : Below wr.heap.size wr W2) (htin : TIn w1 (Fresh W2) (gf y) ky) (hB9 : Below W2.heap.size W2 w1) :
    RelEach w t gf len (.int .i64 ((k : Int) + 1)) (st6 w1 w.heap.size (k * 6) (.int .i64 (gf y).op) (.int .i64 (gf y).a) (.int .i64 (gf y).n) (.int .i64 (gf y).m) (.string (gf y).s) ky) := by
  have h3 : PRow w1 w.heap.size 24 (.slice (some ⟨w.heap.size, 0, none⟩) len len) L := prow_kept (prow_kept hrow hb2) hB9
  have hgz : w.heap.size < wr.heap.size := (World.ownsRow.lt hrow w.heap.size rfl).2
  obtain ⟨x, hx⟩ : ∃ x, L[k]? = some x := ⟨_, List.getElem?_eq_getElem (by omega)⟩
  have hz2 := hb2.size
  have hz9 := hB9.size
  refine ⟨k + 1, L.set k (gf y, ky), by simp, by omega, by simp [hl], prow_set h3 rfl hx (gf y, ky), ?_, ?_⟩
  · intro j z hj hz
    by_cases hjk : k = j
    · subst hjk
      have e : z = (gf y, ky) := by
        rw [List.getElem?_set_self (by omega)] at hz
        exact (Option.some.inj hz).symm
      subst e
      refine ⟨by rw [hy]; rfl, tin_imp (fun b hb hS => ?_) (by rw [st6_size]; omega) _ _ htin⟩
      unfold Fresh at hS
      exact ⟨by omega, st6_heap _ _ _ _ _ _ _ _ _ _ (by omega)⟩
    · rw [List.getElem?_set_ne hjk] at hz
      obtain ⟨h1, h2⟩ := hd j z (by omega) hz
      refine ⟨h1, tin_imp (fun b hb hS => ⟨hS, ?_⟩) (by rw [st6_size]; omega) _ _ h2⟩
      rw [st6_heap _ _ _ _ _ _ _ _ _ _ (by omega), hB9.block b (by omega), hb2.block b hb]
  · unfold st6
    exact c_set _ _ (c_set _ _ (c_set _ _ (c_set _ _ (c_set _ _ (c_set _ _ (c_thr (c_thr hB hb2 hB.size) hB9 (by omega)) (Nat.le_refl _)) (Nat.le_refl _)) (Nat.le_refl _)) (Nat.le_refl _)) (Nat.le_refl _)) (Nat.le_refl _)
theorem each_end {w wr : World} {t : Tr} {gf : Tr → Tr} {len : Nat} {L : List TV} (hlen : len = t.ks.length) (hl : L.length = len) (hrow : PRow wr w.heap.size 24 (.slice (some ⟨w.heap.size, 0, none⟩) len len) L)
    (hd : ∀ (j : Nat) (x : TV), j < len → L[j]? = some x → (t.ks[j]?).map gf = some x.1 ∧ TIn wr (fun b => w.heap.size < b) x.1 x.2) (hB : Below w.heap.size w wr) :
    EPost w (t.ks.map gf) (.returned (.slice (some ⟨w.heap.size, 0, none⟩) len len)) wr := by
  have hll : (t.ks.map gf).length = len := by simp [hlen]
  have hm : L.map (·.1) = t.ks.map gf := by
    apply List.ext_getElem?
    intro j
    by_cases hj : j < len
    · obtain ⟨x, hx⟩ : ∃ x, L[j]? = some x := ⟨_, List.getElem?_eq_getElem (by omega)⟩
      rw [List.getElem?_map, List.getElem?_map, hx, (hd j x hj hx).1]; rfl
    · rw [List.getElem?_eq_none (by simp; omega), List.getElem?_eq_none (by omega)]
  refine ⟨some ⟨w.heap.size, 0, none⟩, len, by rw [hll], fun u hu => ?_, hB⟩
  rw [hll]
  refine tin_row hrow (fun g hg => ?_) (fun x hx => ?_) (hu.trans hm.symm)
  · have e : w.heap.size = g := by simpa [Value.ownBlock] using hg
    unfold Fresh; omega
  · obtain ⟨j, hj⟩ := List.getElem?_of_mem hx
    have hjl : j < len := by have := (List.getElem?_eq_some_iff.1 hj).1; omega
    exact tin_mono (hd j x hjl hj).2 (fun b _ hs => by unfold Fresh; omega)
set_option linter.unusedVariables false in
set_option maxRecDepth 100000 in
set_option maxHeartbeats 1000000 in
theorem each_any (id : Nat) (gf : Tr → Tr) (N : Nat) (hent : ∀ (args : Array Value) (w : World), (callFunc id args).run Tryd.prog w = .ok (.enter id args) w) (hN : N ≤ 100000)
    (HF : ∀ (x : Tr) (a1 : Option Addr) (p1 : Nat) (W : World), x.cnt ≤ N → TIn W All x (.slice a1 x.ks.length p1) → Calls Tryd.prog id #[.agg #[.int .i64 x.op, .int .i64 x.a, .int .i64 x.n, .int .i64 x.m, .string x.s, .slice a1 x.ks.length p1]] W (PlPost W (gf x)))
    (t : Tr) (lo : Option Addr) (lc : Nat) (w : World) (hk : ∀ x ∈ t.ks, x.cnt ≤ N) (hks : t.ks.length ≤ 100000) (ht : TIn w All t (.slice lo t.ks.length lc)) :
    Calls Tryd.prog 27 #[.slice lo t.ks.length lc, .func (.func id) #[] #[]] w (EPost w (t.ks.map gf)) := by
  obtain ⟨i0, hi, hz0, hz1, hz2⟩ := info_parts node_info
  have hT : Tryd.prog.underlying 22 = some (.slice 24) := Tryd.underlying22
  have hnil : ∀ (a : Option Addr) (l c : Nat) (w : World), (binOp .eql 22 (.slice a l c) (.slice none 0 0)).run Tryd.prog w = .ok (.bool a.isNone) w := fun a l c w => Lib.run_eql_slice_nil _ _ _ _ _ _ _ _ hT
  cases lo with
  | none =>
    have hk0 : t.ks = [] := by
      cases h : t.ks with
      | nil => rfl
      | cons x r =>
        obtain ⟨ao', cap', e, _, _, h3⟩ := tin_open ht
        obtain ⟨b, o, kx, ea, _⟩ := h3 0 x (by rw [h]; rfl)
        have e2 : (none : Option Addr) = ao' ∧ lc = cap' := by simpa using e
        rw [← e2.1] at ea
        exact absurd ea (by simp)
    go_enter Tryd.func27, Tryd.ntmps27
    go_wp2
    go_ret
    rw [hk0]
    exact ⟨none, 0, rfl, fun u hu => by have := tin_close (w := w) (S := Fresh w) (t := u) (ao := none) (cap := 0) (by rw [hu]; simp) (by simp) (.inl hu); rw [hu] at this; exact this, Below.refl _ _⟩
  | some p =>
    have HT := Lib.hid ht
    have HK := Lib.hid (And.intro HF hk)
    clear ht HF hk
    obtain ⟨len, hle⟩ : ∃ len, len = t.ks.length := ⟨_, rfl⟩
    have HLE := Lib.hid hle
    rw [← hle] at hks HT ⊢
    clear hle
    go_enter Tryd.func27, Tryd.ntmps27
    go_wp2_with (refine wpList_make_full _ rfl _ _ _ rfl w.heap.size 24 i0 (.agg #[.int .i64 0, .int .i64 0, .int .i64 0, .int .i64 0, .string ⟨#[]⟩, .slice none 0 0]) 6 hT hi hz0 hz1 .i64 .i64 _ _ len rfl rfl rfl rfl ?_ ?_ ?_ ?_; (rw [hz2]; omega); (unfold maxLen; omega); exact Nat.le_refl _; intro W0 hown hgrow; have HO := Lib.hid (And.intro hown hgrow); clear hown hgrow)
    go_loopw [15] (fun i wr => RelEach w t gf len i wr) (fun i _ => len - natOf i)
    case atStart =>
      have e : (List.replicate len ((zeroT, .slice none 0 0) : TV)).length = len := List.length_replicate
      refine ⟨0, List.replicate len (zeroT, .slice none 0 0), rfl, Nat.zero_le _, e, ?_, fun j x h => absurd h (Nat.not_lt_zero j), ?_⟩
      · unfold PRow
        rw [e, ← made_row]
        exact HO.out.1
      · exact ⟨HO.out.2.os, HO.out.2.tape, HO.out.2.output, HO.out.2.size, fun b hb => HO.out.2.block b hb (by simp)⟩
    case round =>
      obtain ⟨k, L, rfl, hk, hl, hrow, hd, hB⟩ := hrel
      have hgz : w.heap.size < wr.heap.size := (World.ownsRow.lt hrow w.heap.size rfl).2
      by_cases hkl : k < len
      · have g1 : decide ((k : Int) < (len : Int)) = true := decide_eq_true (by omega)
        have g2 : (k : Int) < (len : Int) := by omega
        obtain ⟨x, hx⟩ : ∃ x, t.ks[k]? = some x := ⟨_, List.getElem?_eq_getElem (by rw [← HLE.out]; exact hkl)⟩
        have hxc := HK.out.2 x (List.mem_of_getElem? hx)
        obtain ⟨b1, o1, xo, xl, xc, ea1, hbb1, hc1, hx1⟩ := kid0 HT.out hx
        obtain rfl : p = ⟨b1, o1, none⟩ := Option.some.inj ea1
        obtain ⟨c0, c1, c2, c3, c4, c5⟩ := ncells_kept (hB.block b1 hbb1) hc1
        obtain rfl := tin_len hx1
        have hl1 : b1 < wr.heap.size := by omega
        obtain ⟨W2, hW2⟩ : ∃ W2, W2 = wr.alloc (.cells #[.int .i64 x.op, .int .i64 x.a, .int .i64 x.n, .int .i64 x.m, .string x.s, .slice xo x.ks.length xc] 24) := ⟨_, rfl⟩
        have hb9 : Below wr.heap.size wr W2 := by rw [hW2]; exact c_box wr _
        have hx9 : W2.heap[wr.heap.size]? = some (.cells #[.int .i64 x.op, .int .i64 x.a, .int .i64 x.n, .int .i64 x.m, .string x.s, .slice xo x.ks.length xc] 24 (0, 0)) := by rw [hW2]; exact heap_alloc_new wr _
        obtain ⟨⟨d0, d1, d2, d3, d4, d5⟩, -, hxl⟩ := c_six hx9
        have HC := Lib.hid (HK.out.1 x xo xc W2 hxc (tin_kept hx1 (c_thr hB hb9 hB.size)))
        have HH := Lib.hid (And.intro hl (And.intro hrow (And.intro hd (And.intro hB (And.intro hx hb9)))))
        have HW2 := Lib.hid hW2
        clear hc1 hx1 hl hrow hd hB hx hb9 hx9 hxl hW2 ea1
        go_upto_region 7 with fail
        rw [← HW2.out]
        go_wp2_with fail
        refine HC.out.mono ?_
        rintro e w1 ⟨yo, yl, yc, rfl, htin, hB9⟩
        have h3 : PRow w1 w.heap.size 24 (.slice (some ⟨w.heap.size, 0, none⟩) len len) L := prow_kept (prow_kept HH.out.2.1 HH.out.2.2.2.2.2) hB9
        obtain ⟨z, hz⟩ : ∃ z, L[k]? = some z := ⟨_, List.getElem?_eq_getElem (by have := HH.out.1; omega)⟩
        obtain ⟨q0, q1, q2, q3, q4, q5⟩ := prow_cells h3 rfl hz
        have f0 := prow_frozen h3 rfl (k * 6)
        have f1 := prow_frozen h3 rfl (k * 6 + 1)
        have f2 := prow_frozen h3 rfl (k * 6 + 2)
        have f3 := prow_frozen h3 rfl (k * 6 + 3)
        have f4 := prow_frozen h3 rfl (k * 6 + 4)
        have f5 := prow_frozen h3 rfl (k * 6 + 5)
        have hl9 : w.heap.size < w1.heap.size := (World.ownsRow.lt h3 w.heap.size rfl).2
        have HST := Lib.hid (each_step hkl HH.out.1 HH.out.2.1 HH.out.2.2.1 HH.out.2.2.2.1 HH.out.2.2.2.2.1 HH.out.2.2.2.2.2 htin hB9)
        clear htin hB9 h3 hz
        go_wp2
        go_roundw
        case rel => exact HST.out
        case measure => simp [natOf]; omega
      · have g1 : decide ((k : Int) < (len : Int)) = false := decide_eq_false (by omega)
        have hkl2 : k = len := by omega
        subst hkl2
        have HH := Lib.hid (each_end HLE.out hl hrow hd hB)
        clear hl hrow hd hB
        go_wp2
        go_ret
        exact HH.out
end Go.Proofs.YtppliplalfpmaaaDoor
