/-
  prop of the reference at this translation: a short property.
-/
import Derived.Test.YtjnlifghobgkcaaR9
namespace Go.Proofs.Ytjnlifghobgkcaa
open Go.RowKit

theorem set_alloc_end {W5 W6 : World} {g9 : Nat} {C : Array Value} {x0 x1 x2 x3 x4 x5 v : Value} (hW : (W5.setCell ⟨g9, 5, none⟩ v).alloc (.cells C 27) = W6) (h : W5.heap[g9]? = some (.cells #[x0, x1, x2, x3, x4, x5] 27 (0, 0))) :
    W6.heap[g9]? = some (.cells #[x0, x1, x2, x3, x4, v] 27 (0, 0)) ∧ W6.heap[W5.heap.size]? = some (.cells C 27 (0, 0)) ∧ (∀ b, b < W5.heap.size → b ≠ g9 → W6.heap[b]? = W5.heap[b]?) ∧ W6.heap.size = W5.heap.size + 1 ∧ (∀ B, B ≤ g9 → Below B W5 W6) := by
  have hb : g9 < W5.heap.size := c_lt h
  have h5 := c_one 5 v h
  have hz : (W5.setCell ⟨g9, 5, none⟩ v).heap.size = W5.heap.size := x_sz _ _ _
  have hn : ∀ c, c ≠ g9 → (W5.setCell ⟨g9, 5, none⟩ v).heap[c]? = W5.heap[c]? := fun c hc => x_ne _ _ _ _ _ hc
  have hB : ∀ B, B ≤ g9 → Below B W5 (W5.setCell ⟨g9, 5, none⟩ v) := fun B hl => c_set 5 v (Below.refl B W5) hl
  generalize (W5.setCell ⟨g9, 5, none⟩ v) = W8 at hW h5 hz hn hB
  subst hW
  refine ⟨?_, ?_, ?_, ?_, ?_⟩
  · rw [Below.heap_alloc _ _ g9 (by rw [hz]; exact hb)]
    exact h5.trans (by simp)
  · have := heap_alloc_new W8 (.cells C 27)
    rw [hz] at this
    exact this
  · intro b hb2 hne
    rw [Below.heap_alloc _ _ b (by rw [hz]; exact hb2)]
    exact hn b hne
  · rw [World.size_alloc, hz]
  · intro B hl
    exact c_thr (hB B hl) (c_box W8 _) (by rw [hz]; omega)
theorem tin_pair {w : World} {S : Nat → Prop} {g : Nat} {x y : Tr} {kx ky : Value} (h : w.heap[g]? = some (.cells (ndC x kx ++ ndC y ky).toArray 27 (0, 0))) (hS : S g) (hx : TIn w S x kx) (hy : TIn w S y ky) (op a n m : Int) (s : ByteArray) : TIn w S (.mk op a n m s [x, y]) (.slice (some ⟨g, 0, none⟩) 2 2) := by
  refine tin_close (t := .mk op a n m s [x, y]) (ao := some ⟨g, 0, none⟩) (cap := 2) (by simp [Tr.ks]) (by unfold maxLen; omega) (.inr ⟨g, 0, rfl, c_lt h, hS, ?_⟩)
  have hc : ∀ j, w.cell? ⟨g, j, none⟩ = (ndC x kx ++ ndC y ky).toArray[j]? := fun j => c_cell h j
  intro i t hi
  match i, hi with
  | 0, hi =>
    have : t = x := by simpa [Tr.ks] using hi.symm
    subst this
    exact ⟨kx, ⟨(hc 0).trans rfl, (hc 1).trans rfl, (hc 2).trans rfl, (hc 3).trans rfl, (hc 4).trans rfl, (hc 5).trans rfl⟩, hx⟩
  | 1, hi =>
    have : t = y := by simpa [Tr.ks] using hi.symm
    subst this
    exact ⟨ky, ⟨(hc 6).trans rfl, (hc 7).trans rfl, (hc 8).trans rfl, (hc 9).trans rfl, (hc 10).trans rfl, (hc 11).trans rfl⟩, hy⟩
  | (k + 2), hi => simp [Tr.ks] at hi
set_option linter.unusedVariables false in
set_option maxRecDepth 100000 in
set_option maxHeartbeats 1000000 in
theorem prop_oned (bb oo len lc i : Nat) (y : Tr) (kb ko : Nat) (yc d B : Nat) (w : World) (hB : B ≤ w.heap.size) (hbb : bb < w.heap.size) (hcc : NCells w bb (oo + i * 6) y (.slice (some ⟨kb, ko, none⟩) y.ks.length yc)) (ht : TIn w (fun b => b < B) y (.slice (some ⟨kb, ko, none⟩) y.ks.length yc)) (hlen : len ≤ 100000) (hi : i < len) (hd : d ≤ 900) (hks : y.ks.length ≤ 100000) (x : Tr) (xo : Option Addr) (xl xc : Nat) (hkb : kb < w.heap.size) (hkc : NCells w kb ko x (.slice xo xl xc)) (g39 : (y.op == 39) = true) (g39n : (y.op != 39) = false) (g4 : (y.n == 4) = false) (g0 : (y.n == 0) = false) (g3 : (y.n != 3) = false) (gl : decide ((y.ks.length : Int) < 1) = false) (gl2 : decide ((2 : Int) < (y.ks.length : Int)) = false) (hl0 : 0 < y.ks.length) (gx : (x.op != 31) = false) (g2 : ((y.ks.length : Int) == 2) = false) (h200 : ¬ 200 < d) (h201 : 200 < d + 1) : Calls Try.prog 40 #[.slice (some ⟨bb, oo, none⟩) len lc, .int .i64 i, .int .i64 d] w (EAny w 10) := by
  have gd : decide ((200 : Int) < (d : Int)) = false := decide_eq_false (by omega)
  have gd1 : decide ((200 : Int) < (d : Int) + 1) = true := decide_eq_true (by omega)
  have hi2 : (i : Int) < (len : Int) := by omega
  obtain ⟨c0, c1, c2, c3, c4, c5⟩ := hcc
  obtain ⟨W2, hW2⟩ : ∃ W2, W2 = (w.alloc (.cells #[.int .i64 0, .int .i64 0, .int .i64 0, .int .i64 0, .string ⟨#[]⟩, .slice none 0 0] 27)).alloc (.cells #[.int .i64 y.op, .int .i64 y.a, .int .i64 y.n, .int .i64 y.m, .string y.s, .slice (some ⟨kb, ko, none⟩) y.ks.length yc] 27) := ⟨_, rfl⟩
  have hB2 : Below w.heap.size w W2 := by rw [hW2]; exact c_box2 w _ _
  have hzW : w.heap.size + 2 ≤ W2.heap.size := by rw [hW2]; simp
  have hres : W2.heap[w.heap.size]? = some (.cells #[.int .i64 0, .int .i64 0, .int .i64 0, .int .i64 0, .string ⟨#[]⟩, .slice none 0 0] 27 (0, 0)) := by rw [hW2]; exact c_new1 w _ _
  have hbox : W2.heap[w.heap.size + 1]? = some (.cells #[.int .i64 y.op, .int .i64 y.a, .int .i64 y.n, .int .i64 y.m, .string y.s, .slice (some ⟨kb, ko, none⟩) y.ks.length yc] 27 (0, 0)) := by rw [hW2]; exact c_new2 w _ _
  obtain ⟨⟨b0, b1, b2, b3, b4, b5⟩, -, hxl⟩ := c_six hbox
  obtain ⟨⟨r0, r1, r2, r3, r4, r5⟩, ⟨q0, q1, q2, q3, q4, q5⟩, hrl⟩ := c_six hres
  have HW := Lib.hid hW2
  have HB := Lib.hid hB2
  have HZ := Lib.hid hzW
  have HBR := Lib.hid (And.intro hres hbox)
  have HT := Lib.hid (tin_kept ht hB2)
  clear hW2 hB2 hzW hbox hres ht
  go_enter Try.func40, Try.ntmps40
  go_upto_region 2 with fail
  rw [← HW.out]
  go_upto_region 7 with fail
  obtain ⟨W3, hW3⟩ : ∃ W3, W3 = W2.alloc (.cells #[.int .i64 62, .int .i64 y.a, .int .i64 0, .int .i64 y.m, .string ⟨#[]⟩, .slice none 0 0] 27) := ⟨_, rfl⟩
  have hB3 : Below W2.heap.size W2 W3 := by rw [hW3]; exact c_box W2 _
  have hout : W3.heap[W2.heap.size]? = some (.cells #[.int .i64 62, .int .i64 y.a, .int .i64 0, .int .i64 y.m, .string ⟨#[]⟩, .slice none 0 0] 27 (0, 0)) := by rw [hW3]; exact heap_alloc_new W2 _
  have hz3 : W3.heap.size = W2.heap.size + 1 := by rw [hW3]; simp
  obtain ⟨g9, hg9⟩ : ∃ g9, g9 = W2.heap.size := ⟨_, rfl⟩
  rw [← hW3, ← hg9]
  rw [← hg9] at hout
  have hbox3 := c_kept hB3 (c_lt HBR.out.2) HBR.out.2
  have hres3 := c_kept hB3 (c_lt HBR.out.1) HBR.out.1
  have HB3 := Lib.hid (c_thr HB.out hB3 HB.out.size)
  have HT3 := Lib.hid (tin_kept HT.out hB3)
  have HBR3 := Lib.hid (And.intro hres3 (And.intro hbox3 hout))
  have HZ3 := Lib.hid (show w.heap.size + 3 ≤ W3.heap.size ∧ g9 = W2.heap.size ∧ W3.heap.size = g9 + 1 ∧ w.heap.size + 2 ≤ g9 from by have := HZ.out; omega)
  clear b0 b1 b2 b3 b4 b5 r0 r1 r2 r3 r4 r5 q0 q1 q2 q3 q4 q5 hxl hrl
  obtain ⟨⟨b0, b1, b2, b3, b4, b5⟩, -, hxl⟩ := c_six hbox3
  obtain ⟨⟨r0, r1, r2, r3, r4, r5⟩, ⟨q0, q1, q2, q3, q4, q5⟩, hrl⟩ := c_six hres3
  obtain ⟨⟨t0, t1, t2, t3, t4, t5⟩, ⟨u0, u1, u2, u3, u4, u5⟩, htl⟩ := c_six hout
  clear hW3 hB3 hout hz3 hg9 hbox3 hres3
  have hl0i : (0 : Int) < (y.ks.length : Int) := by omega
  obtain ⟨k0, k1, k2, k3, k4, k5⟩ := ncells_kept (HB3.out.block kb hkb) hkc
  go_upto_region 15 with fail
  obtain ⟨W5, hW5⟩ : ∃ W5, W5 = (W3.alloc (.cells #[.int .i64 x.op, .int .i64 x.a, .int .i64 x.n, .int .i64 x.m, .string x.s, .slice xo xl xc] 27)).alloc (.cells #[.int .i64 34, .int .i64 x.a, .int .i64 0, .int .i64 0, .string x.s, .slice none 0 0] 27) := ⟨_, rfl⟩
  have hB5 : Below W3.heap.size W3 W5 := by rw [hW5]; exact c_box2 W3 _ _
  have hk5 : W5.heap[W3.heap.size]? = some (.cells #[.int .i64 x.op, .int .i64 x.a, .int .i64 x.n, .int .i64 x.m, .string x.s, .slice xo xl xc] 27 (0, 0)) := by rw [hW5]; exact c_new1 W3 _ _
  have hn5 : W5.heap[W3.heap.size + 1]? = some (.cells #[.int .i64 34, .int .i64 x.a, .int .i64 0, .int .i64 0, .string x.s, .slice none 0 0] 27 (0, 0)) := by rw [hW5]; exact c_new2 W3 _ _
  have hz5 : W5.heap.size = W3.heap.size + 2 := by rw [hW5]; simp
  obtain ⟨g12, hg12⟩ : ∃ g12, g12 = W3.heap.size := ⟨_, rfl⟩
  rw [← hW5, ← hg12]
  rw [← hg12] at hk5 hn5
  have hbox5 := c_kept hB5 (c_lt HBR3.out.2.1) HBR3.out.2.1
  have hres5 := c_kept hB5 (c_lt HBR3.out.1) HBR3.out.1
  have hout5 := c_kept hB5 (c_lt HBR3.out.2.2) HBR3.out.2.2
  have HB5 := Lib.hid (c_thr HB3.out hB5 HB3.out.size)
  have HT5 := Lib.hid (tin_kept HT3.out hB5)
  have HBR5 := Lib.hid (And.intro hres5 (And.intro hout5 (And.intro hk5 hn5)))
  have HZ5 := Lib.hid (show g12 = W3.heap.size ∧ W5.heap.size = g12 + 2 from by omega)
  clear b0 b1 b2 b3 b4 b5 r0 r1 r2 r3 r4 r5 q0 q1 q2 q3 q4 q5 hxl hrl t0 t1 t2 t3 t4 t5 u0 u1 u2 u3 u4 u5 htl k0 k1 k2 k3 k4 k5
  obtain ⟨⟨b0, b1, b2, b3, b4, b5⟩, -, hxl⟩ := c_six hbox5
  obtain ⟨⟨r0, r1, r2, r3, r4, r5⟩, ⟨q0, q1, q2, q3, q4, q5⟩, hrl⟩ := c_six hres5
  obtain ⟨⟨t0, t1, t2, t3, t4, t5⟩, ⟨u0, u1, u2, u3, u4, u5⟩, htl⟩ := c_six hout5
  obtain ⟨⟨k0, k1, k2, k3, k4, k5⟩, -, hkl⟩ := c_six hk5
  obtain ⟨⟨n0, n1, n2, n3, n4, n5⟩, ⟨v0, v1, v2, v3, v4, v5⟩, hnl⟩ := c_six hn5
  clear hW5 hB5 hk5 hn5 hz5 hg12 hbox5 hres5 hout5
  go_wp2
  refine bodyPost_ret (v := .tuple #[.agg #[.int .i64 62, .int .i64 y.a, .int .i64 0, .int .i64 y.m, .string ⟨#[]⟩, .slice none 0 0], .int .i64 10]) (by simp [results, Try.results40, go_sem, r0, r1, r2, r3, r4, r5]) rfl ?_
  exact ⟨rfl, 62, y.a, 0, y.m, ⟨#[]⟩, none, 0, 0, rfl, c_st6 HB5.out (by omega)⟩
set_option linter.unusedVariables false in
set_option maxRecDepth 100000 in
set_option maxHeartbeats 1000000 in
theorem prop_one (bb oo len lc i : Nat) (y : Tr) (kb ko : Nat) (yc d B : Nat) (w : World) (hB : B ≤ w.heap.size) (hbb : bb < w.heap.size) (hcc : NCells w bb (oo + i * 6) y (.slice (some ⟨kb, ko, none⟩) y.ks.length yc)) (ht : TIn w (fun b => b < B) y (.slice (some ⟨kb, ko, none⟩) y.ks.length yc)) (hlen : len ≤ 100000) (hi : i < len) (hd : d ≤ 900) (hks : y.ks.length ≤ 100000) (x : Tr) (xo : Option Addr) (xl xc : Nat) (hkb : kb < w.heap.size) (hkc : NCells w kb ko x (.slice xo xl xc)) (g39 : (y.op == 39) = true) (g39n : (y.op != 39) = false) (g4 : (y.n == 4) = false) (g0 : (y.n == 0) = false) (g3 : (y.n != 3) = false) (gl : decide ((y.ks.length : Int) < 1) = false) (gl2 : decide ((2 : Int) < (y.ks.length : Int)) = false) (hl0 : 0 < y.ks.length) (gx : (x.op != 31) = false) (g2 : ((y.ks.length : Int) == 2) = false) (h200 : ¬ 200 < d) (htx : TIn w (fun b => b < B) x (.slice xo xl xc)) (h201 : ¬ 200 < d + 1) : Calls Try.prog 40 #[.slice (some ⟨bb, oo, none⟩) len lc, .int .i64 i, .int .i64 d] w (OkPost w (Sha B w) (.mk 62 y.a 0 y.m noS [x, (.mk 34 x.a 0 0 x.s [])])) := by
  have gd : decide ((200 : Int) < (d : Int)) = false := decide_eq_false (by omega)
  have gd1 : decide ((200 : Int) < (d : Int) + 1) = false := decide_eq_false (by omega)
  have hi2 : (i : Int) < (len : Int) := by omega
  obtain ⟨c0, c1, c2, c3, c4, c5⟩ := hcc
  obtain ⟨W2, hW2⟩ : ∃ W2, W2 = (w.alloc (.cells #[.int .i64 0, .int .i64 0, .int .i64 0, .int .i64 0, .string ⟨#[]⟩, .slice none 0 0] 27)).alloc (.cells #[.int .i64 y.op, .int .i64 y.a, .int .i64 y.n, .int .i64 y.m, .string y.s, .slice (some ⟨kb, ko, none⟩) y.ks.length yc] 27) := ⟨_, rfl⟩
  have hB2 : Below w.heap.size w W2 := by rw [hW2]; exact c_box2 w _ _
  have hzW : w.heap.size + 2 ≤ W2.heap.size := by rw [hW2]; simp
  have hres : W2.heap[w.heap.size]? = some (.cells #[.int .i64 0, .int .i64 0, .int .i64 0, .int .i64 0, .string ⟨#[]⟩, .slice none 0 0] 27 (0, 0)) := by rw [hW2]; exact c_new1 w _ _
  have hbox : W2.heap[w.heap.size + 1]? = some (.cells #[.int .i64 y.op, .int .i64 y.a, .int .i64 y.n, .int .i64 y.m, .string y.s, .slice (some ⟨kb, ko, none⟩) y.ks.length yc] 27 (0, 0)) := by rw [hW2]; exact c_new2 w _ _
  obtain ⟨⟨b0, b1, b2, b3, b4, b5⟩, -, hxl⟩ := c_six hbox
  obtain ⟨⟨r0, r1, r2, r3, r4, r5⟩, ⟨q0, q1, q2, q3, q4, q5⟩, hrl⟩ := c_six hres
  have HW := Lib.hid hW2
  have HB := Lib.hid hB2
  have HZ := Lib.hid hzW
  have HBR := Lib.hid (And.intro hres hbox)
  have HT := Lib.hid (tin_kept ht hB2)
  clear hW2 hB2 hzW hbox hres ht
  go_enter Try.func40, Try.ntmps40
  go_upto_region 2 with fail
  rw [← HW.out]
  go_upto_region 7 with fail
  obtain ⟨W3, hW3⟩ : ∃ W3, W3 = W2.alloc (.cells #[.int .i64 62, .int .i64 y.a, .int .i64 0, .int .i64 y.m, .string ⟨#[]⟩, .slice none 0 0] 27) := ⟨_, rfl⟩
  have hB3 : Below W2.heap.size W2 W3 := by rw [hW3]; exact c_box W2 _
  have hout : W3.heap[W2.heap.size]? = some (.cells #[.int .i64 62, .int .i64 y.a, .int .i64 0, .int .i64 y.m, .string ⟨#[]⟩, .slice none 0 0] 27 (0, 0)) := by rw [hW3]; exact heap_alloc_new W2 _
  have hz3 : W3.heap.size = W2.heap.size + 1 := by rw [hW3]; simp
  obtain ⟨g9, hg9⟩ : ∃ g9, g9 = W2.heap.size := ⟨_, rfl⟩
  rw [← hW3, ← hg9]
  rw [← hg9] at hout
  have hbox3 := c_kept hB3 (c_lt HBR.out.2) HBR.out.2
  have hres3 := c_kept hB3 (c_lt HBR.out.1) HBR.out.1
  have HB3 := Lib.hid (c_thr HB.out hB3 HB.out.size)
  have HT3 := Lib.hid (tin_kept HT.out hB3)
  have HBR3 := Lib.hid (And.intro hres3 (And.intro hbox3 hout))
  have HZ3 := Lib.hid (show w.heap.size + 3 ≤ W3.heap.size ∧ g9 = W2.heap.size ∧ W3.heap.size = g9 + 1 ∧ w.heap.size + 2 ≤ g9 from by have := HZ.out; omega)
  clear b0 b1 b2 b3 b4 b5 r0 r1 r2 r3 r4 r5 q0 q1 q2 q3 q4 q5 hxl hrl
  obtain ⟨⟨b0, b1, b2, b3, b4, b5⟩, -, hxl⟩ := c_six hbox3
  obtain ⟨⟨r0, r1, r2, r3, r4, r5⟩, ⟨q0, q1, q2, q3, q4, q5⟩, hrl⟩ := c_six hres3
  obtain ⟨⟨t0, t1, t2, t3, t4, t5⟩, ⟨u0, u1, u2, u3, u4, u5⟩, htl⟩ := c_six hout
  clear hW3 hB3 hout hz3 hg9 hbox3 hres3
  have hl0i : (0 : Int) < (y.ks.length : Int) := by omega
  obtain ⟨k0, k1, k2, k3, k4, k5⟩ := ncells_kept (HB3.out.block kb hkb) hkc
  go_upto_region 15 with fail
  obtain ⟨W5, hW5⟩ : ∃ W5, W5 = (W3.alloc (.cells #[.int .i64 x.op, .int .i64 x.a, .int .i64 x.n, .int .i64 x.m, .string x.s, .slice xo xl xc] 27)).alloc (.cells #[.int .i64 34, .int .i64 x.a, .int .i64 0, .int .i64 0, .string x.s, .slice none 0 0] 27) := ⟨_, rfl⟩
  have hB5 : Below W3.heap.size W3 W5 := by rw [hW5]; exact c_box2 W3 _ _
  have hk5 : W5.heap[W3.heap.size]? = some (.cells #[.int .i64 x.op, .int .i64 x.a, .int .i64 x.n, .int .i64 x.m, .string x.s, .slice xo xl xc] 27 (0, 0)) := by rw [hW5]; exact c_new1 W3 _ _
  have hn5 : W5.heap[W3.heap.size + 1]? = some (.cells #[.int .i64 34, .int .i64 x.a, .int .i64 0, .int .i64 0, .string x.s, .slice none 0 0] 27 (0, 0)) := by rw [hW5]; exact c_new2 W3 _ _
  have hz5 : W5.heap.size = W3.heap.size + 2 := by rw [hW5]; simp
  obtain ⟨g12, hg12⟩ : ∃ g12, g12 = W3.heap.size := ⟨_, rfl⟩
  rw [← hW5, ← hg12]
  rw [← hg12] at hk5 hn5
  have hbox5 := c_kept hB5 (c_lt HBR3.out.2.1) HBR3.out.2.1
  have hres5 := c_kept hB5 (c_lt HBR3.out.1) HBR3.out.1
  have hout5 := c_kept hB5 (c_lt HBR3.out.2.2) HBR3.out.2.2
  have HB5 := Lib.hid (c_thr HB3.out hB5 HB3.out.size)
  have HT5 := Lib.hid (tin_kept HT3.out hB5)
  have HBR5 := Lib.hid (And.intro hres5 (And.intro hout5 (And.intro hk5 hn5)))
  have HZ5 := Lib.hid (show g12 = W3.heap.size ∧ W5.heap.size = g12 + 2 from by omega)
  clear b0 b1 b2 b3 b4 b5 r0 r1 r2 r3 r4 r5 q0 q1 q2 q3 q4 q5 hxl hrl t0 t1 t2 t3 t4 t5 u0 u1 u2 u3 u4 u5 htl k0 k1 k2 k3 k4 k5
  obtain ⟨⟨b0, b1, b2, b3, b4, b5⟩, -, hxl⟩ := c_six hbox5
  obtain ⟨⟨r0, r1, r2, r3, r4, r5⟩, ⟨q0, q1, q2, q3, q4, q5⟩, hrl⟩ := c_six hres5
  obtain ⟨⟨t0, t1, t2, t3, t4, t5⟩, ⟨u0, u1, u2, u3, u4, u5⟩, htl⟩ := c_six hout5
  obtain ⟨⟨k0, k1, k2, k3, k4, k5⟩, -, hkl⟩ := c_six hk5
  obtain ⟨⟨n0, n1, n2, n3, n4, n5⟩, ⟨v0, v1, v2, v3, v4, v5⟩, hnl⟩ := c_six hn5
  clear hW5 hB5 hk5 hn5 hz5 hg12 hbox5 hres5 hout5
  go_upto_region 22 with fail
  generalize hW6 : (W5.setCell ⟨g9, 5, none⟩ (.slice (some ⟨W5.heap.size, 0, none⟩) 2 2)).alloc (.cells #[.int .i64 x.op, .int .i64 x.a, .int .i64 x.n, .int .i64 x.m, .string x.s, .slice xo xl xc, .int .i64 34, .int .i64 x.a, .int .i64 0, .int .i64 0, .string x.s, .slice none 0 0] 27) = W6
  obtain ⟨e0, e1, e2, e3, e4⟩ := set_alloc_end hW6 HBR5.out.2.1
  have hne : w.heap.size ≠ g9 := by have := HZ3.out; omega
  have hr6 := (e2 w.heap.size (c_lt HBR5.out.1) hne).trans HBR5.out.1
  clear r0 r1 r2 r3 r4 r5 q0 q1 q2 q3 q4 q5 hrl t0 t1 t2 t3 t4 t5 u0 u1 u2 u3 u4 u5 htl
  obtain ⟨⟨r0, r1, r2, r3, r4, r5⟩, ⟨q0, q1, q2, q3, q4, q5⟩, hrl⟩ := c_six hr6
  obtain ⟨⟨t0, t1, t2, t3, t4, t5⟩, -, htl⟩ := c_six e0
  have HE6 := Lib.hid (And.intro e1 (And.intro e2 (And.intro e3 e4)))
  have HNE := Lib.hid hne
  clear hW6 e0 e1 e2 e3 e4 hr6 hne
  go_wp2
  refine bodyPost_ret (v := .tuple #[.agg #[.int .i64 62, .int .i64 y.a, .int .i64 0, .int .i64 y.m, .string ⟨#[]⟩, .slice (some ⟨W5.heap.size, 0, none⟩) 2 2], .int .i64 0]) (by simp [results, Try.results40, go_sem, r0, r1, r2, r3, r4, r5]) rfl ?_
  have hg5 : w.heap.size < W5.heap.size := by have := HZ3.out; have := HZ5.out; omega
  have hb6 : Below w.heap.size w W6 := HB5.out.trans (HE6.out.2.2.2 w.heap.size (by have := HZ3.out; omega))
  have hb7 := c_st6 (x0 := .int .i64 62) (x1 := .int .i64 y.a) (x2 := .int .i64 0) (x3 := .int .i64 y.m) (x4 := .string ⟨#[]⟩) (x5 := .slice (some ⟨W5.heap.size, 0, none⟩) 2 2) hb6 (Nat.le_refl _)
  have hk7 : ∀ b, b ≠ w.heap.size → ((((((W6.setCell ⟨w.heap.size, 0, none⟩ (.int .i64 62)).setCell ⟨w.heap.size, 1, none⟩ (.int .i64 y.a)).setCell ⟨w.heap.size, 2, none⟩ (.int .i64 0)).setCell ⟨w.heap.size, 3, none⟩ (.int .i64 y.m)).setCell ⟨w.heap.size, 4, none⟩ (.string ⟨#[]⟩)).setCell ⟨w.heap.size, 5, none⟩ (.slice (some ⟨W5.heap.size, 0, none⟩) 2 2)).heap[b]? = W6.heap[b]? := by
    intro b hn
    rw [x_ne _ _ _ _ _ hn, x_ne _ _ _ _ _ hn, x_ne _ _ _ _ _ hn, x_ne _ _ _ _ _ hn, x_ne _ _ _ _ _ hn, x_ne _ _ _ _ _ hn]
  refine ⟨_, _, _, rfl, tin_pair (x := x) (kx := .slice xo xl xc) (ky := .slice none 0 0) ((hk7 _ (by omega)).trans HE6.out.1) (.inr (by omega)) (tin_mono (tin_kept htx hb7) (fun b _ h => .inl h)) ?_ 62 y.a 0 y.m noS, hb7⟩
  exact tin_leaf
end Go.Proofs.Ytjnlifghobgkcaa
