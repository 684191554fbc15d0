/-
  written of package cover at this translation.
-/
import Derived.Test.YtjnlifghobgkcaaC8
import Derived.BigRegion
import Derived.ChangeAlike
namespace Go.Proofs.Ytjnlifghobgkcaa
open Go.RowKit

def WPost (w : World) (l : List Tr) : Ending → World → Prop := fun e w' => ∃ ao cap, e = .returned (.slice ao l.length cap) ∧ TIn w' All (.mk 0 0 0 0 noS l) (.slice ao l.length cap) ∧ Below w.heap.size w w'
theorem c_box3 (w : World) (o p q : Obj) : Below w.heap.size w (((w.alloc o).alloc p).alloc q) := (c_box2 w o p).alloc (by simp; omega) _
theorem c_new3 (w : World) (o p q : Obj) : (((w.alloc o).alloc p).alloc q).heap[w.heap.size + 1 + 1]? = some q := by
  have h := heap_alloc_new ((w.alloc o).alloc p) q
  simpa using h
theorem c_set6 {w : World} {b : Nat} {x0 x1 x2 x3 x4 x5 : Value} {T : TypeId} (y0 y1 y2 y3 y4 y5 : Value) (h : w.heap[b]? = some (.cells #[x0, x1, x2, x3, x4, x5] T (0, 0))) :
    ((((((w.setCell ⟨b, 0, none⟩ y0).setCell ⟨b, 1, none⟩ y1).setCell ⟨b, 2, none⟩ y2).setCell ⟨b, 3, none⟩ y3).setCell ⟨b, 4, none⟩ y4).setCell ⟨b, 5, none⟩ y5).heap[b]? = some (.cells #[y0, y1, y2, y3, y4, y5] T (0, 0)) := by
  have h6 := c_one 5 y5 (c_one 4 y4 (c_one 3 y3 (c_one 2 y2 (c_one 1 y1 (c_one 0 y0 h)))))
  simp only [List.setIfInBounds_toArray, List.set_cons_zero, List.set_cons_succ] at h6
  exact h6
theorem kid0 {w : World} {t x : Tr} {ao : Option Addr} {len cap i : Nat} (h : TIn w All t (.slice ao len cap)) (hx : t.ks[i]? = some x) : ∃ b o xo xl xc, ao = some ⟨b, o, none⟩ ∧ b < w.heap.size ∧ NCells w b (o + i * 6) x (.slice xo xl xc) ∧ TIn w All x (.slice xo xl xc) := by
  obtain ⟨ao', cap', e, _, _, h3⟩ := tin_open h
  obtain ⟨rfl, -, -⟩ : ao = ao' ∧ len = t.ks.length ∧ cap = cap' := by simpa using e
  obtain ⟨b, o, kx, ea, hb, _, hc, ht⟩ := h3 i x hx
  obtain ⟨xo, xl, xc, rfl⟩ := tin_slice ht
  exact ⟨b, o, xo, xl, xc, ea, hb, hc, ht⟩
theorem ncell_of {w : World} {g : Nat} {cs : Array Value} {T : TypeId} (h : w.heap[g]? = some (.cells cs T (0, 0))) {o : Nat} {t : Tr} {k : Value} (h0 : cs[o]? = some (.int .i64 t.op)) (h1 : cs[o + 1]? = some (.int .i64 t.a)) (h2 : cs[o + 2]? = some (.int .i64 t.n)) (h3 : cs[o + 3]? = some (.int .i64 t.m)) (h4 : cs[o + 4]? = some (.string t.s)) (h5 : cs[o + 5]? = some k) : NCells w g o t k :=
  ⟨(c_cell h _).trans h0, (c_cell h _).trans h1, (c_cell h _).trans h2, (c_cell h _).trans h3, (c_cell h _).trans h4, (c_cell h _).trans h5⟩
theorem tin_leaf {w : World} {S : Nat → Prop} {op a n m : Int} {s : ByteArray} : TIn w S (.mk op a n m s []) (.slice none 0 0) := by
  refine tin_close (t := .mk op a n m s []) (ao := none) (cap := 0) (by simp [Tr.ks]) (by unfold maxLen; omega) (.inl rfl)
/-- a slice of two nodes, built in one block -/
theorem tin_two {w : World} {g : Nat} {x y : Tr} {kx ky : Value} (h : w.heap[g]? = some (.cells (ndC x kx ++ ndC y ky).toArray 27 (0, 0))) (hx : TIn w All x kx) (hy : TIn w All y ky) (op a n m : Int) (s : ByteArray) : TIn w All (.mk op a n m s [x, y]) (.slice (some ⟨g, 0, none⟩) 2 2) := by
  refine tin_close (t := .mk op a n m s [x, y]) (by simp [Tr.ks]) (by unfold maxLen; omega) (.inr ⟨g, 0, rfl, c_lt h, trivial, fun i z hi => ?_⟩)
  match i, hi with
  | 0, hi =>
    obtain rfl : x = z := by simpa [Tr.ks] using hi
    exact ⟨kx, ncell_of h rfl rfl rfl rfl rfl rfl, hx⟩
  | 1, hi =>
    obtain rfl : y = z := by simpa [Tr.ks] using hi
    exact ⟨ky, ncell_of h rfl rfl rfl rfl rfl rfl, hy⟩
  | i + 2, hi => simp [Tr.ks] at hi
set_option linter.unusedVariables false in
set_option maxRecDepth 100000 in
set_option maxHeartbeats 1000000 in
theorem written_one (t x : Tr) (ao : Option Addr) (cap : Nat) (w : World) (hk : t.ks = [x]) (ht : TIn w All t (.slice ao 1 cap)) :
    Calls Try.prog 51 #[.slice ao 1 cap] w (WPost w [x, .mk 34 x.a 0 0 x.s []]) := by
  obtain ⟨b, o, xo, xl, xc, rfl, hb, ⟨c0, c1, c2, c3, c4, c5⟩, hx⟩ := kid0 (i := 0) (x := x) ht (by rw [hk]; rfl)
  simp only [Nat.zero_mul, Nat.add_zero] at c0 c1 c2 c3 c4 c5
  have HX := Lib.hid hx
  clear hx ht hk
  go_enter Try.func51, Try.ntmps51
  go_wp2
  go_ret
  exact ⟨_, _, rfl, tin_two (x := x) (y := .mk 34 x.a 0 0 x.s []) (kx := .slice xo xl xc) (ky := .slice none 0 0) (c_new3 w _ _ _) (tin_kept HX.out (c_box3 w _ _ _)) tin_leaf 0 0 0 0 noS, c_box3 w _ _ _⟩
set_option linter.unusedVariables false in
set_option maxRecDepth 100000 in
set_option maxHeartbeats 1000000 in
theorem written_two (t x y : Tr) (ao : Option Addr) (cap : Nat) (w : World) (hk : t.ks = [x, y]) (ht : TIn w All t (.slice ao 2 cap)) :
    Calls Try.prog 51 #[.slice ao 2 cap] w (WPost w [x, .mk 46 x.a 0 0 eqS [.mk 34 x.a 0 0 x.s [], y]]) := by
  obtain ⟨b, o, xo, xl, xc, rfl, hb, ⟨c0, c1, c2, c3, c4, c5⟩, hx⟩ := kid0 (i := 0) (x := x) ht (by rw [hk]; rfl)
  obtain ⟨b', o', yo, yl, yc, e, -, ⟨d0, d1, d2, d3, d4, d5⟩, hy⟩ := kid0 (i := 1) (x := y) ht (by rw [hk]; rfl)
  obtain ⟨rfl, rfl⟩ : b = b' ∧ o = o' := by simpa using e
  simp only [Nat.zero_mul, Nat.add_zero, Nat.one_mul] at c0 c1 c2 c3 c4 c5 d0 d1 d2 d3 d4 d5
  have HX := Lib.hid (And.intro hx hy)
  clear hx hy ht hk e
  go_enter Try.func51, Try.ntmps51
  go_upto_region 4 with fail
  obtain ⟨W2, hW2⟩ : ∃ W2, W2 = ((w.alloc (.cells #[.int .i64 x.op, .int .i64 x.a, .int .i64 x.n, .int .i64 x.m, .string x.s, .slice xo xl xc] 27)).alloc (.cells #[.int .i64 34, .int .i64 x.a, .int .i64 0, .int .i64 0, .string x.s, .slice none 0 0] 27)) := ⟨_, rfl⟩
  rw [← hW2]
  have hB2 : Below w.heap.size w W2 := by rw [hW2]; exact c_box2 w _ _
  have hn1 : W2.heap[w.heap.size]? = some (.cells #[.int .i64 x.op, .int .i64 x.a, .int .i64 x.n, .int .i64 x.m, .string x.s, .slice xo xl xc] 27 (0, 0)) := by rw [hW2]; exact c_new1 w _ _
  have hn2 : W2.heap[w.heap.size + 1]? = some (.cells #[.int .i64 34, .int .i64 x.a, .int .i64 0, .int .i64 0, .string x.s, .slice none 0 0] 27 (0, 0)) := by rw [hW2]; exact c_new2 w _ _
  obtain ⟨d0, d1, d2, d3, d4, d5⟩ := ncells_kept (hB2.block b hb) (show NCells w b (o + 6) y (.slice yo yl yc) from ⟨d0, d1, d2, d3, d4, d5⟩)
  obtain ⟨⟨p0, p1, p2, p3, p4, p5⟩, -, hp⟩ := c_six hn1
  obtain ⟨⟨r0, r1, r2, r3, r4, r5⟩, ⟨q0, q1, q2, q3, q4, q5⟩, hr⟩ := c_six hn2
  have hb2 : b < W2.heap.size := by omega
  have HZ := Lib.hid (And.intro hB2 (And.intro hn1 hn2))
  clear hW2 hB2 hn1 hn2 c0 c1 c2 c3 c4 c5
  go_region
  obtain ⟨W3, hW3⟩ : ∃ W3, W3 = (((((((W2.setCell ⟨w.heap.size + 1, 0, none⟩ (.int .i64 46)).setCell ⟨w.heap.size + 1, 1, none⟩ (.int .i64 x.a)).setCell ⟨w.heap.size + 1, 2, none⟩ (.int .i64 0)).setCell ⟨w.heap.size + 1, 3, none⟩ (.int .i64 0)).setCell ⟨w.heap.size + 1, 4, none⟩ (.string ⟨#[61]⟩)).setCell ⟨w.heap.size + 1, 5, none⟩ (.slice (some ⟨W2.heap.size, 0, none⟩) 2 2)).alloc (.cells #[.int .i64 34, .int .i64 x.a, .int .i64 0, .int .i64 0, .string x.s, .slice none 0 0, .int .i64 y.op, .int .i64 y.a, .int .i64 y.n, .int .i64 y.m, .string y.s, .slice yo yl yc] 27)).drew := ⟨_, rfl⟩
  rw [← hW3]
  obtain ⟨W4, hW4⟩ : ∃ W4, W4 = ((((((W2.setCell ⟨w.heap.size + 1, 0, none⟩ (.int .i64 46)).setCell ⟨w.heap.size + 1, 1, none⟩ (.int .i64 x.a)).setCell ⟨w.heap.size + 1, 2, none⟩ (.int .i64 0)).setCell ⟨w.heap.size + 1, 3, none⟩ (.int .i64 0)).setCell ⟨w.heap.size + 1, 4, none⟩ (.string ⟨#[61]⟩)).setCell ⟨w.heap.size + 1, 5, none⟩ (.slice (some ⟨W2.heap.size, 0, none⟩) 2 2)) := ⟨_, rfl⟩
  rw [← hW4] at hW3
  obtain ⟨hB2, hn1, hn2⟩ := HZ.out
  have hz4 : W4.heap.size = W2.heap.size := by rw [hW4]; exact st6_size W2 (w.heap.size + 1) 0 _ _ _ _ _ _
  have h41 : W4.heap[w.heap.size]? = some (.cells #[.int .i64 x.op, .int .i64 x.a, .int .i64 x.n, .int .i64 x.m, .string x.s, .slice xo xl xc] 27 (0, 0)) := by
    rw [hW4]
    exact (st6_heap W2 (w.heap.size + 1) 0 _ _ _ _ _ _ w.heap.size (by omega)).trans hn1
  have h42 := c_set6 (.int .i64 46) (.int .i64 x.a) (.int .i64 0) (.int .i64 0) (.string ⟨#[61]⟩) (.slice (some ⟨W2.heap.size, 0, none⟩) 2 2) hn2
  rw [← hW4] at h42
  have hB4 : Below w.heap.size w W4 := by rw [hW4]; exact c_st6 hB2 (by omega)
  have hA : ∀ b, b < W4.heap.size → W3.heap[b]? = W4.heap[b]? := fun b hb => by rw [hW3]; exact Below.heap_alloc W4 _ b hb
  have h31 := (hA _ (c_lt h41)).trans h41
  have h32 := (hA _ (c_lt h42)).trans h42
  have h33 : W3.heap[W2.heap.size]? = some (.cells #[.int .i64 34, .int .i64 x.a, .int .i64 0, .int .i64 0, .string x.s, .slice none 0 0, .int .i64 y.op, .int .i64 y.a, .int .i64 y.n, .int .i64 y.m, .string y.s, .slice yo yl yc] 27 (0, 0)) := by
    rw [hW3, ← hz4]
    exact heap_alloc_new W4 _
  have hz3 : W3.heap.size = W2.heap.size + 1 := by rw [hW3, ← hz4]; simp
  have hB3 : Below w.heap.size w W3 := by rw [hW3]; exact (hB4.alloc hB4.size _).drew
  clear p0 p1 p2 p3 p4 p5 r0 r1 r2 r3 r4 r5 q0 q1 q2 q3 q4 q5 hp hr
  obtain ⟨⟨p0, p1, p2, p3, p4, p5⟩, -, hp⟩ := c_six h31
  obtain ⟨⟨r0, r1, r2, r3, r4, r5⟩, -, hr⟩ := c_six h32
  have HF := Lib.hid (And.intro hB3 (And.intro h33 hz3))
  clear HZ hW3 hW4 hB2 hn1 hn2 hz4 h41 h42 hB4 hA h31 h32 h33 hz3 hB3 d0 d1 d2 d3 d4 d5 hb2
  go_wp2
  go_ret
  have hB5 := HF.out.1.alloc HF.out.1.size
  refine ⟨_, _, rfl, tin_two (x := x) (y := .mk 46 x.a 0 0 eqS [.mk 34 x.a 0 0 x.s [], y]) (kx := .slice xo xl xc) (ky := .slice (some ⟨W2.heap.size, 0, none⟩) 2 2) (heap_alloc_new W3 _) (tin_kept HX.out.1 (hB5 _)) (tin_two (x := .mk 34 x.a 0 0 x.s []) (y := y) (kx := .slice none 0 0) (ky := .slice yo yl yc) ((Below.heap_alloc W3 _ _ (by rw [HF.out.2.2]; omega)).trans HF.out.2.1) tin_leaf (tin_kept HX.out.2 (hB5 _)) 46 x.a 0 0 eqS) 0 0 0 0 noS, hB5 _⟩
end Go.Proofs.Ytjnlifghobgkcaa
