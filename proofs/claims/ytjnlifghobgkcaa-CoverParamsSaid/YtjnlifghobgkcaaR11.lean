/-
  prop of the reference at this translation: a short property with a value.
-/
import Derived.Test.YtjnlifghobgkcaaR10
import Derived.BigRegion
import Derived.ChangeAlike
namespace Go.Proofs.Ytjnlifghobgkcaa
open Go.RowKit

theorem six_alloc_end {W7 W9 : World} {bw : Nat} {x0 x1 x2 x3 x4 x5 y0 y1 y2 y3 y4 y5 : Value} {C : Array Value} (hW : (((((((W7.setCell ⟨bw, 0, none⟩ x0).setCell ⟨bw, 1, none⟩ x1).setCell ⟨bw, 2, none⟩ x2).setCell ⟨bw, 3, none⟩ x3).setCell ⟨bw, 4, none⟩ x4).setCell ⟨bw, 5, none⟩ x5).alloc (.cells C 27)).drew = W9) (h : W7.heap[bw]? = some (.cells #[y0, y1, y2, y3, y4, y5] 27 (0, 0))) :
    W9.heap[bw]? = some (.cells #[x0, x1, x2, x3, x4, x5] 27 (0, 0)) ∧ W9.heap[W7.heap.size]? = some (.cells C 27 (0, 0)) ∧ (∀ b, b < W7.heap.size → b ≠ bw → W9.heap[b]? = W7.heap[b]?) ∧ W9.heap.size = W7.heap.size + 1 ∧ (∀ B, B ≤ bw → Below B W7 W9) := by
  have hb : bw < W7.heap.size := c_lt h
  have h5 := c_one 5 x5 (c_one 4 x4 (c_one 3 x3 (c_one 2 x2 (c_one 1 x1 (c_one 0 x0 h)))))
  have hz : ((((((W7.setCell ⟨bw, 0, none⟩ x0).setCell ⟨bw, 1, none⟩ x1).setCell ⟨bw, 2, none⟩ x2).setCell ⟨bw, 3, none⟩ x3).setCell ⟨bw, 4, none⟩ x4).setCell ⟨bw, 5, none⟩ x5).heap.size = W7.heap.size := by simp only [x_sz]
  have hn : ∀ c, c ≠ bw → ((((((W7.setCell ⟨bw, 0, none⟩ x0).setCell ⟨bw, 1, none⟩ x1).setCell ⟨bw, 2, none⟩ x2).setCell ⟨bw, 3, none⟩ x3).setCell ⟨bw, 4, none⟩ x4).setCell ⟨bw, 5, none⟩ x5).heap[c]? = W7.heap[c]? := by
    intro c hc
    rw [x_ne _ _ _ _ _ hc, x_ne _ _ _ _ _ hc, x_ne _ _ _ _ _ hc, x_ne _ _ _ _ _ hc, x_ne _ _ _ _ _ hc, x_ne _ _ _ _ _ hc]
  have hB : ∀ B, B ≤ bw → Below B W7 ((((((W7.setCell ⟨bw, 0, none⟩ x0).setCell ⟨bw, 1, none⟩ x1).setCell ⟨bw, 2, none⟩ x2).setCell ⟨bw, 3, none⟩ x3).setCell ⟨bw, 4, none⟩ x4).setCell ⟨bw, 5, none⟩ x5) := fun B hl => c_st6 (Below.refl B W7) hl
  generalize ((((((W7.setCell ⟨bw, 0, none⟩ x0).setCell ⟨bw, 1, none⟩ x1).setCell ⟨bw, 2, none⟩ x2).setCell ⟨bw, 3, none⟩ x3).setCell ⟨bw, 4, none⟩ x4).setCell ⟨bw, 5, none⟩ x5) = W8 at hW h5 hz hn hB
  subst hW
  simp only [x_drew]
  refine ⟨?_, ?_, ?_, ?_, ?_⟩
  · rw [Below.heap_alloc _ _ bw (by rw [hz]; exact hb)]
    exact h5.trans (by simp)
  · have := heap_alloc_new W8 (.cells C 27)
    rw [hz] at this
    exact this
  · intro b hb2 hne
    rw [Below.heap_alloc _ _ b (by rw [hz]; exact hb2)]
    exact hn b hne
  · rw [World.size_alloc, hz]
  · intro B hl
    exact c_thr (hB B hl) (c_box W8 _).drew (by rw [hz]; omega)
set_option linter.unusedVariables false in
set_option maxRecDepth 100000 in
set_option maxHeartbeats 1000000 in
theorem prop_twod (bb oo len lc i : Nat) (y : Tr) (kb ko : Nat) (yc d B : Nat) (w : World) (hB : B ≤ w.heap.size) (hbb : bb < w.heap.size) (hcc : NCells w bb (oo + i * 6) y (.slice (some ⟨kb, ko, none⟩) y.ks.length yc)) (ht : TIn w (fun b => b < B) y (.slice (some ⟨kb, ko, none⟩) y.ks.length yc)) (hlen : len ≤ 100000) (hi : i < len) (hd : d ≤ 900) (hks : y.ks.length ≤ 100000) (x : Tr) (xo : Option Addr) (xl xc : Nat) (hkb : kb < w.heap.size) (hkc : NCells w kb ko x (.slice xo xl xc)) (z : Tr) (zo : Option Addr) (zl zc : Nat) (hl1 : 1 < y.ks.length) (hkz : NCells w kb (ko + 6) z (.slice zo zl zc)) (g39 : (y.op == 39) = true) (g39n : (y.op != 39) = false) (g4 : (y.n == 4) = false) (g0 : (y.n == 0) = false) (g3 : (y.n != 3) = false) (gl : decide ((y.ks.length : Int) < 1) = false) (gl2 : decide ((2 : Int) < (y.ks.length : Int)) = false) (hl0 : 0 < y.ks.length) (gx : (x.op != 31) = false) (g2 : ((y.ks.length : Int) == 2) = true) (h200 : ¬ 200 < d) (h201 : 200 < d + 2) : Calls Try.prog 40 #[.slice (some ⟨bb, oo, none⟩) len lc, .int .i64 i, .int .i64 d] w (EAny w 10) := by
  have gd : decide ((200 : Int) < (d : Int)) = false := decide_eq_false (by omega)
  have gd1 : decide ((200 : Int) < (d : Int) + 2) = true := decide_eq_true (by omega)
  have hi2 : (i : Int) < (len : Int) := by omega
  obtain ⟨c0, c1, c2, c3, c4, c5⟩ := hcc
  obtain ⟨W2, hW2⟩ : ∃ W2, W2 = (w.alloc (.cells #[.int .i64 0, .int .i64 0, .int .i64 0, .int .i64 0, .string ⟨#[]⟩, .slice none 0 0] 27)).alloc (.cells #[.int .i64 y.op, .int .i64 y.a, .int .i64 y.n, .int .i64 y.m, .string y.s, .slice (some ⟨kb, ko, none⟩) y.ks.length yc] 27) := ⟨_, rfl⟩
  have hB2 : Below w.heap.size w W2 := by rw [hW2]; exact c_box2 w _ _
  have hzW : w.heap.size + 2 ≤ W2.heap.size := by rw [hW2]; simp
  have hres : W2.heap[w.heap.size]? = some (.cells #[.int .i64 0, .int .i64 0, .int .i64 0, .int .i64 0, .string ⟨#[]⟩, .slice none 0 0] 27 (0, 0)) := by rw [hW2]; exact c_new1 w _ _
  have hbox : W2.heap[w.heap.size + 1]? = some (.cells #[.int .i64 y.op, .int .i64 y.a, .int .i64 y.n, .int .i64 y.m, .string y.s, .slice (some ⟨kb, ko, none⟩) y.ks.length yc] 27 (0, 0)) := by rw [hW2]; exact c_new2 w _ _
  obtain ⟨⟨b0, b1, b2, b3, b4, b5⟩, -, hxl⟩ := c_six hbox
  obtain ⟨⟨r0, r1, r2, r3, r4, r5⟩, ⟨q0, q1, q2, q3, q4, q5⟩, hrl⟩ := c_six hres
  have HW := Lib.hid hW2
  have HB := Lib.hid hB2
  have HZ := Lib.hid hzW
  have HBR := Lib.hid (And.intro hres hbox)
  have HT := Lib.hid (tin_kept ht hB2)
  clear hW2 hB2 hzW hbox hres ht
  go_enter Try.func40, Try.ntmps40
  go_upto_region 2 with fail
  rw [← HW.out]
  go_upto_region 7 with fail
  obtain ⟨W3, hW3⟩ : ∃ W3, W3 = W2.alloc (.cells #[.int .i64 62, .int .i64 y.a, .int .i64 0, .int .i64 y.m, .string ⟨#[]⟩, .slice none 0 0] 27) := ⟨_, rfl⟩
  have hB3 : Below W2.heap.size W2 W3 := by rw [hW3]; exact c_box W2 _
  have hout : W3.heap[W2.heap.size]? = some (.cells #[.int .i64 62, .int .i64 y.a, .int .i64 0, .int .i64 y.m, .string ⟨#[]⟩, .slice none 0 0] 27 (0, 0)) := by rw [hW3]; exact heap_alloc_new W2 _
  have hz3 : W3.heap.size = W2.heap.size + 1 := by rw [hW3]; simp
  obtain ⟨g9, hg9⟩ : ∃ g9, g9 = W2.heap.size := ⟨_, rfl⟩
  rw [← hW3, ← hg9]
  rw [← hg9] at hout
  have hbox3 := c_kept hB3 (c_lt HBR.out.2) HBR.out.2
  have hres3 := c_kept hB3 (c_lt HBR.out.1) HBR.out.1
  have HB3 := Lib.hid (c_thr HB.out hB3 HB.out.size)
  have HT3 := Lib.hid (tin_kept HT.out hB3)
  have HBR3 := Lib.hid (And.intro hres3 (And.intro hbox3 hout))
  have HZ3 := Lib.hid (show w.heap.size + 3 ≤ W3.heap.size ∧ g9 = W2.heap.size ∧ W3.heap.size = g9 + 1 ∧ w.heap.size + 2 ≤ g9 from by have := HZ.out; omega)
  clear b0 b1 b2 b3 b4 b5 r0 r1 r2 r3 r4 r5 q0 q1 q2 q3 q4 q5 hxl hrl
  obtain ⟨⟨b0, b1, b2, b3, b4, b5⟩, -, hxl⟩ := c_six hbox3
  obtain ⟨⟨r0, r1, r2, r3, r4, r5⟩, ⟨q0, q1, q2, q3, q4, q5⟩, hrl⟩ := c_six hres3
  obtain ⟨⟨t0, t1, t2, t3, t4, t5⟩, ⟨u0, u1, u2, u3, u4, u5⟩, htl⟩ := c_six hout
  clear hW3 hB3 hout hz3 hg9 hbox3 hres3
  have hl0i : (0 : Int) < (y.ks.length : Int) := by omega
  obtain ⟨k0, k1, k2, k3, k4, k5⟩ := ncells_kept (HB3.out.block kb hkb) hkc
  go_upto_region 15 with fail
  obtain ⟨W5, hW5⟩ : ∃ W5, W5 = (W3.alloc (.cells #[.int .i64 x.op, .int .i64 x.a, .int .i64 x.n, .int .i64 x.m, .string x.s, .slice xo xl xc] 27)).alloc (.cells #[.int .i64 34, .int .i64 x.a, .int .i64 0, .int .i64 0, .string x.s, .slice none 0 0] 27) := ⟨_, rfl⟩
  have hB5 : Below W3.heap.size W3 W5 := by rw [hW5]; exact c_box2 W3 _ _
  have hk5 : W5.heap[W3.heap.size]? = some (.cells #[.int .i64 x.op, .int .i64 x.a, .int .i64 x.n, .int .i64 x.m, .string x.s, .slice xo xl xc] 27 (0, 0)) := by rw [hW5]; exact c_new1 W3 _ _
  have hn5 : W5.heap[W3.heap.size + 1]? = some (.cells #[.int .i64 34, .int .i64 x.a, .int .i64 0, .int .i64 0, .string x.s, .slice none 0 0] 27 (0, 0)) := by rw [hW5]; exact c_new2 W3 _ _
  have hz5 : W5.heap.size = W3.heap.size + 2 := by rw [hW5]; simp
  obtain ⟨g12, hg12⟩ : ∃ g12, g12 = W3.heap.size := ⟨_, rfl⟩
  rw [← hW5, ← hg12]
  rw [← hg12] at hk5 hn5
  have hbox5 := c_kept hB5 (c_lt HBR3.out.2.1) HBR3.out.2.1
  have hres5 := c_kept hB5 (c_lt HBR3.out.1) HBR3.out.1
  have hout5 := c_kept hB5 (c_lt HBR3.out.2.2) HBR3.out.2.2
  have HB5 := Lib.hid (c_thr HB3.out hB5 HB3.out.size)
  have HT5 := Lib.hid (tin_kept HT3.out hB5)
  have HBR5 := Lib.hid (And.intro hres5 (And.intro hout5 (And.intro hk5 hn5)))
  have HZ5 := Lib.hid (show g12 = W3.heap.size ∧ W5.heap.size = g12 + 2 from by omega)
  clear b0 b1 b2 b3 b4 b5 r0 r1 r2 r3 r4 r5 q0 q1 q2 q3 q4 q5 hxl hrl t0 t1 t2 t3 t4 t5 u0 u1 u2 u3 u4 u5 htl k0 k1 k2 k3 k4 k5
  obtain ⟨⟨b0, b1, b2, b3, b4, b5⟩, -, hxl⟩ := c_six hbox5
  obtain ⟨⟨r0, r1, r2, r3, r4, r5⟩, ⟨q0, q1, q2, q3, q4, q5⟩, hrl⟩ := c_six hres5
  obtain ⟨⟨t0, t1, t2, t3, t4, t5⟩, ⟨u0, u1, u2, u3, u4, u5⟩, htl⟩ := c_six hout5
  obtain ⟨⟨k0, k1, k2, k3, k4, k5⟩, -, hkl⟩ := c_six hk5
  obtain ⟨⟨n0, n1, n2, n3, n4, n5⟩, ⟨v0, v1, v2, v3, v4, v5⟩, hnl⟩ := c_six hn5
  clear hW5 hB5 hk5 hn5 hz5 hg12 hbox5 hres5 hout5
  have hl1i : (1 : Int) < (y.ks.length : Int) := by omega
  go_upto_region 17 with fail
  obtain ⟨z0, z1, z2, z3, z4, z5⟩ := ncells_kept (HB5.out.block kb hkb) hkz
  have HN5 := Lib.hid (show g12 + 1 < W5.heap.size from by have := HZ5.out; omega)
  go_region
  generalize hW8 : (((((((W5.setCell ⟨g12 + 1, 0, none⟩ (.int .i64 63)).setCell ⟨g12 + 1, 1, none⟩ (.int .i64 x.a)).setCell ⟨g12 + 1, 2, none⟩ (.int .i64 0)).setCell ⟨g12 + 1, 3, none⟩ (.int .i64 0)).setCell ⟨g12 + 1, 4, none⟩ (.string ⟨#[]⟩)).setCell ⟨g12 + 1, 5, none⟩ (.slice (some ⟨W5.heap.size, 0, none⟩) 2 2)).alloc (.cells #[.int .i64 34, .int .i64 x.a, .int .i64 0, .int .i64 0, .string x.s, .slice none 0 0, .int .i64 z.op, .int .i64 z.a, .int .i64 z.n, .int .i64 z.m, .string z.s, .slice zo zl zc] 27)).drew = W8
  obtain ⟨e0, e1, e2, e3, e4⟩ := six_alloc_end hW8 HBR5.out.2.2.2
  have hnr : w.heap.size ≠ g12 + 1 := by have := HZ3.out; have := HZ5.out; omega
  have hno : g9 ≠ g12 + 1 := by have := HZ3.out; have := HZ5.out; omega
  have hnk : g12 ≠ g12 + 1 := by omega
  have hr8 := (e2 _ (c_lt HBR5.out.1) hnr).trans HBR5.out.1
  have ho8 := (e2 _ (c_lt HBR5.out.2.1) hno).trans HBR5.out.2.1
  have hk8 := (e2 _ (c_lt HBR5.out.2.2.1) hnk).trans HBR5.out.2.2.1
  have HB8 := Lib.hid (HB5.out.trans (e4 w.heap.size (by have := HZ3.out; have := HZ5.out; omega)))
  have HBR8 := Lib.hid (And.intro hr8 (And.intro ho8 (And.intro hk8 (And.intro e0 e1))))
  have HZ8 := Lib.hid (show g12 = W3.heap.size ∧ W8.heap.size = g12 + 3 ∧ W5.heap.size = g12 + 2 from by have := HZ5.out; omega)
  clear r0 r1 r2 r3 r4 r5 q0 q1 q2 q3 q4 q5 hrl t0 t1 t2 t3 t4 t5 u0 u1 u2 u3 u4 u5 htl k0 k1 k2 k3 k4 k5 n0 n1 n2 n3 n4 n5 v0 v1 v2 v3 v4 v5 hnl hkl b0 b1 b2 b3 b4 b5 hxl z0 z1 z2 z3 z4 z5
  obtain ⟨⟨r0, r1, r2, r3, r4, r5⟩, ⟨q0, q1, q2, q3, q4, q5⟩, hrl⟩ := c_six hr8
  obtain ⟨⟨t0, t1, t2, t3, t4, t5⟩, ⟨u0, u1, u2, u3, u4, u5⟩, htl⟩ := c_six ho8
  obtain ⟨⟨k0, k1, k2, k3, k4, k5⟩, -, hkl⟩ := c_six hk8
  obtain ⟨⟨n0, n1, n2, n3, n4, n5⟩, ⟨v0, v1, v2, v3, v4, v5⟩, hnl⟩ := c_six e0
  clear hW8 e0 e1 e2 e3 e4 hr8 ho8 hk8 hnr hno hnk
  go_wp2
  refine bodyPost_ret (v := .tuple #[.agg #[.int .i64 62, .int .i64 y.a, .int .i64 0, .int .i64 y.m, .string ⟨#[]⟩, .slice none 0 0], .int .i64 10]) (by simp [results, Try.results40, go_sem, r0, r1, r2, r3, r4, r5]) rfl ?_
  exact ⟨rfl, 62, y.a, 0, y.m, ⟨#[]⟩, none, 0, 0, rfl, c_st6 HB8.out (by omega)⟩
set_option linter.unusedVariables false in
set_option maxRecDepth 100000 in
set_option maxHeartbeats 1000000 in
theorem prop_two (bb oo len lc i : Nat) (y : Tr) (kb ko : Nat) (yc d B : Nat) (w : World) (hB : B ≤ w.heap.size) (hbb : bb < w.heap.size) (hcc : NCells w bb (oo + i * 6) y (.slice (some ⟨kb, ko, none⟩) y.ks.length yc)) (ht : TIn w (fun b => b < B) y (.slice (some ⟨kb, ko, none⟩) y.ks.length yc)) (hlen : len ≤ 100000) (hi : i < len) (hd : d ≤ 900) (hks : y.ks.length ≤ 100000) (x : Tr) (xo : Option Addr) (xl xc : Nat) (hkb : kb < w.heap.size) (hkc : NCells w kb ko x (.slice xo xl xc)) (z : Tr) (zo : Option Addr) (zl zc : Nat) (hl1 : 1 < y.ks.length) (hkz : NCells w kb (ko + 6) z (.slice zo zl zc)) (g39 : (y.op == 39) = true) (g39n : (y.op != 39) = false) (g4 : (y.n == 4) = false) (g0 : (y.n == 0) = false) (g3 : (y.n != 3) = false) (gl : decide ((y.ks.length : Int) < 1) = false) (gl2 : decide ((2 : Int) < (y.ks.length : Int)) = false) (hl0 : 0 < y.ks.length) (gx : (x.op != 31) = false) (g2 : ((y.ks.length : Int) == 2) = true) (h200 : ¬ 200 < d) (htx : TIn w (fun b => b < B) x (.slice xo xl xc)) (htz : TIn w (fun b => b < B) z (.slice zo zl zc)) (h201 : ¬ 200 < d + 2) : Calls Try.prog 40 #[.slice (some ⟨bb, oo, none⟩) len lc, .int .i64 i, .int .i64 d] w (OkPost w (Sha B w) (.mk 62 y.a 0 y.m noS [x, (.mk 63 x.a 0 0 noS [.mk 34 x.a 0 0 x.s [], z])])) := by
  have gd : decide ((200 : Int) < (d : Int)) = false := decide_eq_false (by omega)
  have gd1 : decide ((200 : Int) < (d : Int) + 2) = false := decide_eq_false (by omega)
  have hi2 : (i : Int) < (len : Int) := by omega
  obtain ⟨c0, c1, c2, c3, c4, c5⟩ := hcc
  obtain ⟨W2, hW2⟩ : ∃ W2, W2 = (w.alloc (.cells #[.int .i64 0, .int .i64 0, .int .i64 0, .int .i64 0, .string ⟨#[]⟩, .slice none 0 0] 27)).alloc (.cells #[.int .i64 y.op, .int .i64 y.a, .int .i64 y.n, .int .i64 y.m, .string y.s, .slice (some ⟨kb, ko, none⟩) y.ks.length yc] 27) := ⟨_, rfl⟩
  have hB2 : Below w.heap.size w W2 := by rw [hW2]; exact c_box2 w _ _
  have hzW : w.heap.size + 2 ≤ W2.heap.size := by rw [hW2]; simp
  have hres : W2.heap[w.heap.size]? = some (.cells #[.int .i64 0, .int .i64 0, .int .i64 0, .int .i64 0, .string ⟨#[]⟩, .slice none 0 0] 27 (0, 0)) := by rw [hW2]; exact c_new1 w _ _
  have hbox : W2.heap[w.heap.size + 1]? = some (.cells #[.int .i64 y.op, .int .i64 y.a, .int .i64 y.n, .int .i64 y.m, .string y.s, .slice (some ⟨kb, ko, none⟩) y.ks.length yc] 27 (0, 0)) := by rw [hW2]; exact c_new2 w _ _
  obtain ⟨⟨b0, b1, b2, b3, b4, b5⟩, -, hxl⟩ := c_six hbox
  obtain ⟨⟨r0, r1, r2, r3, r4, r5⟩, ⟨q0, q1, q2, q3, q4, q5⟩, hrl⟩ := c_six hres
  have HW := Lib.hid hW2
  have HB := Lib.hid hB2
  have HZ := Lib.hid hzW
  have HBR := Lib.hid (And.intro hres hbox)
  have HT := Lib.hid (tin_kept ht hB2)
  clear hW2 hB2 hzW hbox hres ht
  go_enter Try.func40, Try.ntmps40
  go_upto_region 2 with fail
  rw [← HW.out]
  go_upto_region 7 with fail
  obtain ⟨W3, hW3⟩ : ∃ W3, W3 = W2.alloc (.cells #[.int .i64 62, .int .i64 y.a, .int .i64 0, .int .i64 y.m, .string ⟨#[]⟩, .slice none 0 0] 27) := ⟨_, rfl⟩
  have hB3 : Below W2.heap.size W2 W3 := by rw [hW3]; exact c_box W2 _
  have hout : W3.heap[W2.heap.size]? = some (.cells #[.int .i64 62, .int .i64 y.a, .int .i64 0, .int .i64 y.m, .string ⟨#[]⟩, .slice none 0 0] 27 (0, 0)) := by rw [hW3]; exact heap_alloc_new W2 _
  have hz3 : W3.heap.size = W2.heap.size + 1 := by rw [hW3]; simp
  obtain ⟨g9, hg9⟩ : ∃ g9, g9 = W2.heap.size := ⟨_, rfl⟩
  rw [← hW3, ← hg9]
  rw [← hg9] at hout
  have hbox3 := c_kept hB3 (c_lt HBR.out.2) HBR.out.2
  have hres3 := c_kept hB3 (c_lt HBR.out.1) HBR.out.1
  have HB3 := Lib.hid (c_thr HB.out hB3 HB.out.size)
  have HT3 := Lib.hid (tin_kept HT.out hB3)
  have HBR3 := Lib.hid (And.intro hres3 (And.intro hbox3 hout))
  have HZ3 := Lib.hid (show w.heap.size + 3 ≤ W3.heap.size ∧ g9 = W2.heap.size ∧ W3.heap.size = g9 + 1 ∧ w.heap.size + 2 ≤ g9 from by have := HZ.out; omega)
  clear b0 b1 b2 b3 b4 b5 r0 r1 r2 r3 r4 r5 q0 q1 q2 q3 q4 q5 hxl hrl
  obtain ⟨⟨b0, b1, b2, b3, b4, b5⟩, -, hxl⟩ := c_six hbox3
  obtain ⟨⟨r0, r1, r2, r3, r4, r5⟩, ⟨q0, q1, q2, q3, q4, q5⟩, hrl⟩ := c_six hres3
  obtain ⟨⟨t0, t1, t2, t3, t4, t5⟩, ⟨u0, u1, u2, u3, u4, u5⟩, htl⟩ := c_six hout
  clear hW3 hB3 hout hz3 hg9 hbox3 hres3
  have hl0i : (0 : Int) < (y.ks.length : Int) := by omega
  obtain ⟨k0, k1, k2, k3, k4, k5⟩ := ncells_kept (HB3.out.block kb hkb) hkc
  go_upto_region 15 with fail
  obtain ⟨W5, hW5⟩ : ∃ W5, W5 = (W3.alloc (.cells #[.int .i64 x.op, .int .i64 x.a, .int .i64 x.n, .int .i64 x.m, .string x.s, .slice xo xl xc] 27)).alloc (.cells #[.int .i64 34, .int .i64 x.a, .int .i64 0, .int .i64 0, .string x.s, .slice none 0 0] 27) := ⟨_, rfl⟩
  have hB5 : Below W3.heap.size W3 W5 := by rw [hW5]; exact c_box2 W3 _ _
  have hk5 : W5.heap[W3.heap.size]? = some (.cells #[.int .i64 x.op, .int .i64 x.a, .int .i64 x.n, .int .i64 x.m, .string x.s, .slice xo xl xc] 27 (0, 0)) := by rw [hW5]; exact c_new1 W3 _ _
  have hn5 : W5.heap[W3.heap.size + 1]? = some (.cells #[.int .i64 34, .int .i64 x.a, .int .i64 0, .int .i64 0, .string x.s, .slice none 0 0] 27 (0, 0)) := by rw [hW5]; exact c_new2 W3 _ _
  have hz5 : W5.heap.size = W3.heap.size + 2 := by rw [hW5]; simp
  obtain ⟨g12, hg12⟩ : ∃ g12, g12 = W3.heap.size := ⟨_, rfl⟩
  rw [← hW5, ← hg12]
  rw [← hg12] at hk5 hn5
  have hbox5 := c_kept hB5 (c_lt HBR3.out.2.1) HBR3.out.2.1
  have hres5 := c_kept hB5 (c_lt HBR3.out.1) HBR3.out.1
  have hout5 := c_kept hB5 (c_lt HBR3.out.2.2) HBR3.out.2.2
  have HB5 := Lib.hid (c_thr HB3.out hB5 HB3.out.size)
  have HT5 := Lib.hid (tin_kept HT3.out hB5)
  have HBR5 := Lib.hid (And.intro hres5 (And.intro hout5 (And.intro hk5 hn5)))
  have HZ5 := Lib.hid (show g12 = W3.heap.size ∧ W5.heap.size = g12 + 2 from by omega)
  clear b0 b1 b2 b3 b4 b5 r0 r1 r2 r3 r4 r5 q0 q1 q2 q3 q4 q5 hxl hrl t0 t1 t2 t3 t4 t5 u0 u1 u2 u3 u4 u5 htl k0 k1 k2 k3 k4 k5
  obtain ⟨⟨b0, b1, b2, b3, b4, b5⟩, -, hxl⟩ := c_six hbox5
  obtain ⟨⟨r0, r1, r2, r3, r4, r5⟩, ⟨q0, q1, q2, q3, q4, q5⟩, hrl⟩ := c_six hres5
  obtain ⟨⟨t0, t1, t2, t3, t4, t5⟩, ⟨u0, u1, u2, u3, u4, u5⟩, htl⟩ := c_six hout5
  obtain ⟨⟨k0, k1, k2, k3, k4, k5⟩, -, hkl⟩ := c_six hk5
  obtain ⟨⟨n0, n1, n2, n3, n4, n5⟩, ⟨v0, v1, v2, v3, v4, v5⟩, hnl⟩ := c_six hn5
  clear hW5 hB5 hk5 hn5 hz5 hg12 hbox5 hres5 hout5
  have hl1i : (1 : Int) < (y.ks.length : Int) := by omega
  go_upto_region 17 with fail
  obtain ⟨z0, z1, z2, z3, z4, z5⟩ := ncells_kept (HB5.out.block kb hkb) hkz
  have HN5 := Lib.hid (show g12 + 1 < W5.heap.size from by have := HZ5.out; omega)
  go_region
  generalize hW8 : (((((((W5.setCell ⟨g12 + 1, 0, none⟩ (.int .i64 63)).setCell ⟨g12 + 1, 1, none⟩ (.int .i64 x.a)).setCell ⟨g12 + 1, 2, none⟩ (.int .i64 0)).setCell ⟨g12 + 1, 3, none⟩ (.int .i64 0)).setCell ⟨g12 + 1, 4, none⟩ (.string ⟨#[]⟩)).setCell ⟨g12 + 1, 5, none⟩ (.slice (some ⟨W5.heap.size, 0, none⟩) 2 2)).alloc (.cells #[.int .i64 34, .int .i64 x.a, .int .i64 0, .int .i64 0, .string x.s, .slice none 0 0, .int .i64 z.op, .int .i64 z.a, .int .i64 z.n, .int .i64 z.m, .string z.s, .slice zo zl zc] 27)).drew = W8
  obtain ⟨e0, e1, e2, e3, e4⟩ := six_alloc_end hW8 HBR5.out.2.2.2
  have hnr : w.heap.size ≠ g12 + 1 := by have := HZ3.out; have := HZ5.out; omega
  have hno : g9 ≠ g12 + 1 := by have := HZ3.out; have := HZ5.out; omega
  have hnk : g12 ≠ g12 + 1 := by omega
  have hr8 := (e2 _ (c_lt HBR5.out.1) hnr).trans HBR5.out.1
  have ho8 := (e2 _ (c_lt HBR5.out.2.1) hno).trans HBR5.out.2.1
  have hk8 := (e2 _ (c_lt HBR5.out.2.2.1) hnk).trans HBR5.out.2.2.1
  have HB8 := Lib.hid (HB5.out.trans (e4 w.heap.size (by have := HZ3.out; have := HZ5.out; omega)))
  have HBR8 := Lib.hid (And.intro hr8 (And.intro ho8 (And.intro hk8 (And.intro e0 e1))))
  have HZ8 := Lib.hid (show g12 = W3.heap.size ∧ W8.heap.size = g12 + 3 ∧ W5.heap.size = g12 + 2 from by have := HZ5.out; omega)
  clear r0 r1 r2 r3 r4 r5 q0 q1 q2 q3 q4 q5 hrl t0 t1 t2 t3 t4 t5 u0 u1 u2 u3 u4 u5 htl k0 k1 k2 k3 k4 k5 n0 n1 n2 n3 n4 n5 v0 v1 v2 v3 v4 v5 hnl hkl b0 b1 b2 b3 b4 b5 hxl z0 z1 z2 z3 z4 z5
  obtain ⟨⟨r0, r1, r2, r3, r4, r5⟩, ⟨q0, q1, q2, q3, q4, q5⟩, hrl⟩ := c_six hr8
  obtain ⟨⟨t0, t1, t2, t3, t4, t5⟩, ⟨u0, u1, u2, u3, u4, u5⟩, htl⟩ := c_six ho8
  obtain ⟨⟨k0, k1, k2, k3, k4, k5⟩, -, hkl⟩ := c_six hk8
  obtain ⟨⟨n0, n1, n2, n3, n4, n5⟩, ⟨v0, v1, v2, v3, v4, v5⟩, hnl⟩ := c_six e0
  clear hW8 e0 e1 e2 e3 e4 hr8 ho8 hk8 hnr hno hnk
  go_upto_region 22 with fail
  generalize hW9 : (W8.setCell ⟨g9, 5, none⟩ (.slice (some ⟨W8.heap.size, 0, none⟩) 2 2)).alloc (.cells #[.int .i64 x.op, .int .i64 x.a, .int .i64 x.n, .int .i64 x.m, .string x.s, .slice xo xl xc, .int .i64 63, .int .i64 x.a, .int .i64 0, .int .i64 0, .string ⟨#[]⟩, .slice (some ⟨W5.heap.size, 0, none⟩) 2 2] 27) = W9
  obtain ⟨e0, e1, e2, e3, e4⟩ := set_alloc_end hW9 HBR8.out.2.1
  have hne : w.heap.size ≠ g9 := by have := HZ3.out; omega
  have hr6 := (e2 w.heap.size (c_lt HBR8.out.1) hne).trans HBR8.out.1
  clear r0 r1 r2 r3 r4 r5 q0 q1 q2 q3 q4 q5 hrl t0 t1 t2 t3 t4 t5 u0 u1 u2 u3 u4 u5 htl
  obtain ⟨⟨r0, r1, r2, r3, r4, r5⟩, ⟨q0, q1, q2, q3, q4, q5⟩, hrl⟩ := c_six hr6
  obtain ⟨⟨t0, t1, t2, t3, t4, t5⟩, -, htl⟩ := c_six e0
  have HE9 := Lib.hid (And.intro e1 (And.intro e2 (And.intro e3 e4)))
  have HNE := Lib.hid hne
  clear hW9 e0 e1 e2 e3 e4 hr6 hne
  go_wp2
  refine bodyPost_ret (v := .tuple #[.agg #[.int .i64 62, .int .i64 y.a, .int .i64 0, .int .i64 y.m, .string ⟨#[]⟩, .slice (some ⟨W8.heap.size, 0, none⟩) 2 2], .int .i64 0]) (by simp [results, Try.results40, go_sem, r0, r1, r2, r3, r4, r5]) rfl ?_
  have hg5 : w.heap.size < W8.heap.size := by have := HZ3.out; have := HZ8.out; omega
  have hb6 : Below w.heap.size w W9 := HB8.out.trans (HE9.out.2.2.2 w.heap.size (by have := HZ3.out; omega))
  have hb7 := c_st6 (x0 := .int .i64 62) (x1 := .int .i64 y.a) (x2 := .int .i64 0) (x3 := .int .i64 y.m) (x4 := .string ⟨#[]⟩) (x5 := .slice (some ⟨W8.heap.size, 0, none⟩) 2 2) hb6 (Nat.le_refl _)
  have hk7 : ∀ b, b ≠ w.heap.size → ((((((W9.setCell ⟨w.heap.size, 0, none⟩ (.int .i64 62)).setCell ⟨w.heap.size, 1, none⟩ (.int .i64 y.a)).setCell ⟨w.heap.size, 2, none⟩ (.int .i64 0)).setCell ⟨w.heap.size, 3, none⟩ (.int .i64 y.m)).setCell ⟨w.heap.size, 4, none⟩ (.string ⟨#[]⟩)).setCell ⟨w.heap.size, 5, none⟩ (.slice (some ⟨W8.heap.size, 0, none⟩) 2 2)).heap[b]? = W9.heap[b]? := by
    intro b hn
    rw [x_ne _ _ _ _ _ hn, x_ne _ _ _ _ _ hn, x_ne _ _ _ _ _ hn, x_ne _ _ _ _ _ hn, x_ne _ _ _ _ _ hn, x_ne _ _ _ _ _ hn]
  refine ⟨_, _, _, rfl, tin_pair (x := x) (kx := .slice xo xl xc) (ky := .slice (some ⟨W5.heap.size, 0, none⟩) 2 2) ((hk7 _ (by omega)).trans HE9.out.1) (.inr (by omega)) (tin_mono (tin_kept htx hb7) (fun b _ h => .inl h)) ?_ 62 y.a 0 y.m noS, hb7⟩
  refine tin_pair (x := .mk 34 x.a 0 0 x.s []) (kx := .slice none 0 0) (ky := .slice zo zl zc) ((hk7 _ (by have := HZ8.out; have := HZ3.out; omega)).trans ((HE9.out.2.1 _ (by have := HZ8.out; omega) (by have := HZ8.out; have := HZ3.out; omega)).trans HBR8.out.2.2.2.2)) (.inr (by have := HZ8.out; have := HZ3.out; omega)) tin_leaf (tin_mono (tin_kept htz hb7) (fun b _ h => .inl h)) 63 x.a 0 0 noS
end Go.Proofs.Ytjnlifghobgkcaa
