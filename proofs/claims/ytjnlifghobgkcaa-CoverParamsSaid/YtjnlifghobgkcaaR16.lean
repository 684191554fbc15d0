/-
  element of the reference at this translation: an assignment.
-/
import Derived.Test.YtjnlifghobgkcaaR15
import Derived.BigRegion
import Derived.ChangeAlike
namespace Go.Proofs.Ytjnlifghobgkcaa
open Go.RowKit

set_option linter.unusedVariables false in
set_option maxRecDepth 100000 in
set_option maxHeartbeats 1000000 in
theorem elem_adeep (y : Tr) (kb ko : Nat) (yc d B : Nat) (w : World) (hB : B ≤ w.heap.size) (ht : TIn w (fun b => b < B) y (.slice (some ⟨kb, ko, none⟩) y.ks.length yc)) (hks : y.ks.length ≤ 100000) (hd : d ≤ 1000) (x : Tr) (xo : Option Addr) (xc : Nat) (hkb : kb < w.heap.size) (hkc : NCells w kb ko x (.slice xo x.ks.length xc)) (hl2 : y.ks.length = 2) (g46 : (y.op == 46) = true) (gs : y.s.toList = [61]) (h200 : ¬ 200 < d) (hp : patB y = false) (h201 : 200 < d + 1) : Calls Try.prog 24 #[.agg #[.int .i64 y.op, .int .i64 y.a, .int .i64 y.n, .int .i64 y.m, .string y.s, .slice (some ⟨kb, ko, none⟩) y.ks.length yc], .int .i64 d, .bool true] w (EAny w 10) := by
  have gd : decide ((200 : Int) < (d : Int)) = false := decide_eq_false (by omega)
  have HM := Lib.hid (fun W => rpattern_any y (some ⟨kb, ko, none⟩) y.ks.length yc W)
  rw [hp] at HM
  clear hp
  have gl : ((y.ks.length : Int) == 2) = true := by rw [hl2]; rfl
  have hl0 : (0 : Int) < (y.ks.length : Int) := by omega
  have hl1 : (1 : Int) < (y.ks.length : Int) := by omega
  clear hl2
  have gd1 : decide ((200 : Int) < (d : Int) + 1) = true := decide_eq_true (by omega)
  obtain ⟨W2, hW2⟩ : ∃ W2, W2 = (w.alloc (.cells #[.int .i64 y.op, .int .i64 y.a, .int .i64 y.n, .int .i64 y.m, .string y.s, .slice (some ⟨kb, ko, none⟩) y.ks.length yc] 27)).alloc (.cells #[.int .i64 0, .int .i64 0, .int .i64 0, .int .i64 0, .string ⟨#[]⟩, .slice none 0 0] 27) := ⟨_, rfl⟩
  have hB2 : Below w.heap.size w W2 := by rw [hW2]; exact c_box2 w _ _
  have hzW : W2.heap.size = w.heap.size + 2 := by rw [hW2]; simp
  have hbox : W2.heap[w.heap.size]? = some (.cells #[.int .i64 y.op, .int .i64 y.a, .int .i64 y.n, .int .i64 y.m, .string y.s, .slice (some ⟨kb, ko, none⟩) y.ks.length yc] 27 (0, 0)) := by rw [hW2]; exact c_new1 w _ _
  have hres : W2.heap[w.heap.size + 1]? = some (.cells #[.int .i64 0, .int .i64 0, .int .i64 0, .int .i64 0, .string ⟨#[]⟩, .slice none 0 0] 27 (0, 0)) := by rw [hW2]; exact c_new2 w _ _
  obtain ⟨⟨b0, b1, b2, b3, b4, b5⟩, -, hxl⟩ := c_six hbox
  obtain ⟨⟨r0, r1, r2, r3, r4, r5⟩, ⟨q0, q1, q2, q3, q4, q5⟩, hrl⟩ := c_six hres
  have HW := Lib.hid hW2
  have HB := Lib.hid hB2
  have HZ := Lib.hid hzW
  have HBR := Lib.hid (And.intro hbox hres)
  have HT := Lib.hid (tin_kept ht hB2)
  clear hW2 hB2 hzW hbox hres ht
  go_enter Try.func24, Try.ntmps24
  go_upto_region 1 with fail
  rw [← HW.out]
  go_wp2_with fail
  refine (HM.out _).mono ?_
  rintro e W5 ⟨rfl, hB5⟩
  have hbox5 := c_kept hB5 (c_lt HBR.out.1) HBR.out.1
  have hres5 := c_kept hB5 (c_lt HBR.out.2) HBR.out.2
  clear b0 b1 b2 b3 b4 b5 hxl r0 r1 r2 r3 r4 r5 q0 q1 q2 q3 q4 q5 hrl
  obtain ⟨⟨b0, b1, b2, b3, b4, b5⟩, -, hxl⟩ := c_six hbox5
  obtain ⟨⟨r0, r1, r2, r3, r4, r5⟩, ⟨q0, q1, q2, q3, q4, q5⟩, hrl⟩ := c_six hres5
  have HB5 := Lib.hid (c_thr HB.out hB5 HB.out.size)
  have HT5 := Lib.hid (tin_kept HT.out hB5)
  have HZ5 := Lib.hid (show w.heap.size + 2 ≤ W5.heap.size from by have := HZ.out; have := hB5.size; omega)
  have HBR5 := Lib.hid (And.intro hbox5 hres5)
  clear hB5 hbox5 hres5
  go_wp2
  refine bodyPost_ret (v := .tuple #[.agg #[.int .i64 0, .int .i64 0, .int .i64 0, .int .i64 0, .string ⟨#[]⟩, .slice none 0 0], .int .i64 10]) (by simp [results, Try.results24, go_sem, r0, r1, r2, r3, r4, r5]) rfl ?_
  exact ⟨rfl, 0, 0, 0, 0, ⟨#[]⟩, none, 0, 0, rfl, c_st6 HB5.out (by omega)⟩
set_option linter.unusedVariables false in
set_option maxRecDepth 100000 in
set_option maxHeartbeats 1000000 in
theorem elem_atgt (y : Tr) (kb ko : Nat) (yc d B : Nat) (w : World) (hB : B ≤ w.heap.size) (ht : TIn w (fun b => b < B) y (.slice (some ⟨kb, ko, none⟩) y.ks.length yc)) (hks : y.ks.length ≤ 100000) (hd : d ≤ 1000) (x : Tr) (xo : Option Addr) (xc : Nat) (hkb : kb < w.heap.size) (hkc : NCells w kb ko x (.slice xo x.ks.length xc)) (hl2 : y.ks.length = 2) (g46 : (y.op == 46) = true) (gs : y.s.toList = [61]) (h200 : ¬ 200 < d) (hp : patB y = false) (h201 : ¬ 200 < d + 1) (hx : patB x = false) : Calls Try.prog 24 #[.agg #[.int .i64 y.op, .int .i64 y.a, .int .i64 y.n, .int .i64 y.m, .string y.s, .slice (some ⟨kb, ko, none⟩) y.ks.length yc], .int .i64 d, .bool true] w (EAny w 24) := by
  have gd : decide ((200 : Int) < (d : Int)) = false := decide_eq_false (by omega)
  have HM := Lib.hid (fun W => rpattern_any y (some ⟨kb, ko, none⟩) y.ks.length yc W)
  rw [hp] at HM
  clear hp
  have gl : ((y.ks.length : Int) == 2) = true := by rw [hl2]; rfl
  have hl0 : (0 : Int) < (y.ks.length : Int) := by omega
  have hl1 : (1 : Int) < (y.ks.length : Int) := by omega
  clear hl2
  have gd1 : decide ((200 : Int) < (d : Int) + 1) = false := decide_eq_false (by omega)
  have HX := Lib.hid (fun W => rpattern_any x xo x.ks.length xc W)
  rw [hx] at HX
  clear hx
  obtain ⟨W2, hW2⟩ : ∃ W2, W2 = (w.alloc (.cells #[.int .i64 y.op, .int .i64 y.a, .int .i64 y.n, .int .i64 y.m, .string y.s, .slice (some ⟨kb, ko, none⟩) y.ks.length yc] 27)).alloc (.cells #[.int .i64 0, .int .i64 0, .int .i64 0, .int .i64 0, .string ⟨#[]⟩, .slice none 0 0] 27) := ⟨_, rfl⟩
  have hB2 : Below w.heap.size w W2 := by rw [hW2]; exact c_box2 w _ _
  have hzW : W2.heap.size = w.heap.size + 2 := by rw [hW2]; simp
  have hbox : W2.heap[w.heap.size]? = some (.cells #[.int .i64 y.op, .int .i64 y.a, .int .i64 y.n, .int .i64 y.m, .string y.s, .slice (some ⟨kb, ko, none⟩) y.ks.length yc] 27 (0, 0)) := by rw [hW2]; exact c_new1 w _ _
  have hres : W2.heap[w.heap.size + 1]? = some (.cells #[.int .i64 0, .int .i64 0, .int .i64 0, .int .i64 0, .string ⟨#[]⟩, .slice none 0 0] 27 (0, 0)) := by rw [hW2]; exact c_new2 w _ _
  obtain ⟨⟨b0, b1, b2, b3, b4, b5⟩, -, hxl⟩ := c_six hbox
  obtain ⟨⟨r0, r1, r2, r3, r4, r5⟩, ⟨q0, q1, q2, q3, q4, q5⟩, hrl⟩ := c_six hres
  have HW := Lib.hid hW2
  have HB := Lib.hid hB2
  have HZ := Lib.hid hzW
  have HBR := Lib.hid (And.intro hbox hres)
  have HT := Lib.hid (tin_kept ht hB2)
  clear hW2 hB2 hzW hbox hres ht
  go_enter Try.func24, Try.ntmps24
  go_upto_region 1 with fail
  rw [← HW.out]
  go_wp2_with fail
  refine (HM.out _).mono ?_
  rintro e W5 ⟨rfl, hB5⟩
  have hbox5 := c_kept hB5 (c_lt HBR.out.1) HBR.out.1
  have hres5 := c_kept hB5 (c_lt HBR.out.2) HBR.out.2
  clear b0 b1 b2 b3 b4 b5 hxl r0 r1 r2 r3 r4 r5 q0 q1 q2 q3 q4 q5 hrl
  obtain ⟨⟨b0, b1, b2, b3, b4, b5⟩, -, hxl⟩ := c_six hbox5
  obtain ⟨⟨r0, r1, r2, r3, r4, r5⟩, ⟨q0, q1, q2, q3, q4, q5⟩, hrl⟩ := c_six hres5
  have HB5 := Lib.hid (c_thr HB.out hB5 HB.out.size)
  have HT5 := Lib.hid (tin_kept HT.out hB5)
  have HZ5 := Lib.hid (show w.heap.size + 2 ≤ W5.heap.size from by have := HZ.out; have := hB5.size; omega)
  have HBR5 := Lib.hid (And.intro hbox5 hres5)
  clear hB5 hbox5 hres5
  obtain ⟨k0, k1, k2, k3, k4, k5⟩ := ncells_kept (HB5.out.block kb hkb) hkc
  go_upto_region 8 with fail
  go_wp2_with fail
  refine (HX.out _).mono ?_
  rintro e W6 ⟨rfl, hB6⟩
  have hbox6 := c_kept hB6 (c_lt HBR5.out.1) HBR5.out.1
  have hres6 := c_kept hB6 (c_lt HBR5.out.2) HBR5.out.2
  clear b0 b1 b2 b3 b4 b5 hxl r0 r1 r2 r3 r4 r5 q0 q1 q2 q3 q4 q5 hrl k0 k1 k2 k3 k4 k5
  obtain ⟨⟨b0, b1, b2, b3, b4, b5⟩, -, hxl⟩ := c_six hbox6
  obtain ⟨⟨r0, r1, r2, r3, r4, r5⟩, ⟨q0, q1, q2, q3, q4, q5⟩, hrl⟩ := c_six hres6
  have HB6 := Lib.hid (c_thr HB5.out hB6 HB5.out.size)
  have HZ6 := Lib.hid (Nat.le_trans HZ5.out hB6.size)
  have HBR6 := Lib.hid (And.intro hbox6 hres6)
  clear hB6 hbox6 hres6
  go_wp2
  refine bodyPost_ret (v := .tuple #[.agg #[.int .i64 0, .int .i64 0, .int .i64 0, .int .i64 0, .string ⟨#[]⟩, .slice none 0 0], .int .i64 24]) (by simp [results, Try.results24, go_sem, r0, r1, r2, r3, r4, r5]) rfl ?_
  exact ⟨rfl, 0, 0, 0, 0, ⟨#[]⟩, none, 0, 0, rfl, c_st6 HB6.out (by omega)⟩
set_option linter.unusedVariables false in
set_option maxRecDepth 100000 in
set_option maxHeartbeats 1000000 in
theorem elem_asg (y : Tr) (kb ko : Nat) (yc d B : Nat) (w : World) (hB : B ≤ w.heap.size) (ht : TIn w (fun b => b < B) y (.slice (some ⟨kb, ko, none⟩) y.ks.length yc)) (hks : y.ks.length ≤ 100000) (hd : d ≤ 1000) (x : Tr) (xo : Option Addr) (xc : Nat) (hkb : kb < w.heap.size) (hkc : NCells w kb ko x (.slice xo x.ks.length xc)) (hl2 : y.ks.length = 2) (g46 : (y.op == 46) = true) (gs : y.s.toList = [61]) (h200 : ¬ 200 < d) (hp : patB y = false) (h201 : ¬ 200 < d + 1) (hx : patB x = true) (z : Tr) (zo : Option Addr) (zl zc : Nat) (hkz : NCells w kb (ko + 6) z (.slice zo zl zc)) (htx : TIn w (fun b => b < B) x (.slice xo x.ks.length xc)) (htz : TIn w (fun b => b < B) z (.slice zo zl zc)) : Calls Try.prog 24 #[.agg #[.int .i64 y.op, .int .i64 y.a, .int .i64 y.n, .int .i64 y.m, .string y.s, .slice (some ⟨kb, ko, none⟩) y.ks.length yc], .int .i64 d, .bool true] w (QPost w (Sha B w) (.ok (.mk 63 y.a 0 0 noS [x, z]))) := by
  have gd : decide ((200 : Int) < (d : Int)) = false := decide_eq_false (by omega)
  have HM := Lib.hid (fun W => rpattern_any y (some ⟨kb, ko, none⟩) y.ks.length yc W)
  rw [hp] at HM
  clear hp
  have gl : ((y.ks.length : Int) == 2) = true := by rw [hl2]; rfl
  have hl0 : (0 : Int) < (y.ks.length : Int) := by omega
  have hl1 : (1 : Int) < (y.ks.length : Int) := by omega
  clear hl2
  have gd1 : decide ((200 : Int) < (d : Int) + 1) = false := decide_eq_false (by omega)
  have HX := Lib.hid (fun W => rpattern_any x xo x.ks.length xc W)
  rw [hx] at HX
  clear hx
  obtain ⟨W2, hW2⟩ : ∃ W2, W2 = (w.alloc (.cells #[.int .i64 y.op, .int .i64 y.a, .int .i64 y.n, .int .i64 y.m, .string y.s, .slice (some ⟨kb, ko, none⟩) y.ks.length yc] 27)).alloc (.cells #[.int .i64 0, .int .i64 0, .int .i64 0, .int .i64 0, .string ⟨#[]⟩, .slice none 0 0] 27) := ⟨_, rfl⟩
  have hB2 : Below w.heap.size w W2 := by rw [hW2]; exact c_box2 w _ _
  have hzW : W2.heap.size = w.heap.size + 2 := by rw [hW2]; simp
  have hbox : W2.heap[w.heap.size]? = some (.cells #[.int .i64 y.op, .int .i64 y.a, .int .i64 y.n, .int .i64 y.m, .string y.s, .slice (some ⟨kb, ko, none⟩) y.ks.length yc] 27 (0, 0)) := by rw [hW2]; exact c_new1 w _ _
  have hres : W2.heap[w.heap.size + 1]? = some (.cells #[.int .i64 0, .int .i64 0, .int .i64 0, .int .i64 0, .string ⟨#[]⟩, .slice none 0 0] 27 (0, 0)) := by rw [hW2]; exact c_new2 w _ _
  obtain ⟨⟨b0, b1, b2, b3, b4, b5⟩, -, hxl⟩ := c_six hbox
  obtain ⟨⟨r0, r1, r2, r3, r4, r5⟩, ⟨q0, q1, q2, q3, q4, q5⟩, hrl⟩ := c_six hres
  have HW := Lib.hid hW2
  have HB := Lib.hid hB2
  have HZ := Lib.hid hzW
  have HBR := Lib.hid (And.intro hbox hres)
  have HT := Lib.hid (tin_kept ht hB2)
  clear hW2 hB2 hzW hbox hres ht
  go_enter Try.func24, Try.ntmps24
  go_upto_region 1 with fail
  rw [← HW.out]
  go_wp2_with fail
  refine (HM.out _).mono ?_
  rintro e W5 ⟨rfl, hB5⟩
  have hbox5 := c_kept hB5 (c_lt HBR.out.1) HBR.out.1
  have hres5 := c_kept hB5 (c_lt HBR.out.2) HBR.out.2
  clear b0 b1 b2 b3 b4 b5 hxl r0 r1 r2 r3 r4 r5 q0 q1 q2 q3 q4 q5 hrl
  obtain ⟨⟨b0, b1, b2, b3, b4, b5⟩, -, hxl⟩ := c_six hbox5
  obtain ⟨⟨r0, r1, r2, r3, r4, r5⟩, ⟨q0, q1, q2, q3, q4, q5⟩, hrl⟩ := c_six hres5
  have HB5 := Lib.hid (c_thr HB.out hB5 HB.out.size)
  have HT5 := Lib.hid (tin_kept HT.out hB5)
  have HZ5 := Lib.hid (show w.heap.size + 2 ≤ W5.heap.size from by have := HZ.out; have := hB5.size; omega)
  have HBR5 := Lib.hid (And.intro hbox5 hres5)
  clear hB5 hbox5 hres5
  obtain ⟨k0, k1, k2, k3, k4, k5⟩ := ncells_kept (HB5.out.block kb hkb) hkc
  go_upto_region 8 with fail
  go_wp2_with fail
  refine (HX.out _).mono ?_
  rintro e W6 ⟨rfl, hB6⟩
  have hbox6 := c_kept hB6 (c_lt HBR5.out.1) HBR5.out.1
  have hres6 := c_kept hB6 (c_lt HBR5.out.2) HBR5.out.2
  clear b0 b1 b2 b3 b4 b5 hxl r0 r1 r2 r3 r4 r5 q0 q1 q2 q3 q4 q5 hrl k0 k1 k2 k3 k4 k5
  obtain ⟨⟨b0, b1, b2, b3, b4, b5⟩, -, hxl⟩ := c_six hbox6
  obtain ⟨⟨r0, r1, r2, r3, r4, r5⟩, ⟨q0, q1, q2, q3, q4, q5⟩, hrl⟩ := c_six hres6
  have HB6 := Lib.hid (c_thr HB5.out hB6 HB5.out.size)
  have HZ6 := Lib.hid (Nat.le_trans HZ5.out hB6.size)
  have HBR6 := Lib.hid (And.intro hbox6 hres6)
  clear hB6 hbox6 hres6
  obtain ⟨k0, k1, k2, k3, k4, k5⟩ := ncells_kept (HB6.out.block kb hkb) hkc
  obtain ⟨z0, z1, z2, z3, z4, z5⟩ := ncells_kept (HB6.out.block kb hkb) hkz
  go_upto_region 10 with fail
  go_region
  generalize hW9 : (((((((W6.setCell ⟨w.heap.size + 1, 0, none⟩ (.int .i64 63)).setCell ⟨w.heap.size + 1, 1, none⟩ (.int .i64 y.a)).setCell ⟨w.heap.size + 1, 2, none⟩ (.int .i64 0)).setCell ⟨w.heap.size + 1, 3, none⟩ (.int .i64 0)).setCell ⟨w.heap.size + 1, 4, none⟩ (.string ⟨#[]⟩)).setCell ⟨w.heap.size + 1, 5, none⟩ (.slice (some ⟨W6.heap.size, 0, none⟩) 2 2)).alloc (.cells #[.int .i64 x.op, .int .i64 x.a, .int .i64 x.n, .int .i64 x.m, .string x.s, .slice xo x.ks.length xc, .int .i64 z.op, .int .i64 z.a, .int .i64 z.n, .int .i64 z.m, .string z.s, .slice zo zl zc] 27)).drew = W9
  obtain ⟨e0, e1, e2, e3, e4⟩ := six_alloc_end hW9 HBR6.out.2
  clear b0 b1 b2 b3 b4 b5 hxl r0 r1 r2 r3 r4 r5 q0 q1 q2 q3 q4 q5 hrl k0 k1 k2 k3 k4 k5 z0 z1 z2 z3 z4 z5
  obtain ⟨⟨r0, r1, r2, r3, r4, r5⟩, -, hrl⟩ := c_six e0
  have HE9 := Lib.hid (And.intro e1 (And.intro e2 (And.intro e3 e4)))
  clear hW9 e0 e1 e2 e3 e4
  go_wp2
  refine bodyPost_ret (v := .tuple #[.agg #[.int .i64 63, .int .i64 y.a, .int .i64 0, .int .i64 0, .string ⟨#[]⟩, .slice (some ⟨W6.heap.size, 0, none⟩) 2 2], .int .i64 0]) (by simp [results, Try.results24, go_sem, r0, r1, r2, r3, r4, r5]) rfl ?_
  have hb9 : Below w.heap.size w W9 := HB6.out.trans (HE9.out.2.2.2 w.heap.size (by omega))
  exact ⟨_, _, _, rfl, tin_pair (x := x) (y := z) (kx := .slice xo x.ks.length xc) (ky := .slice zo zl zc) HE9.out.1 (.inr (by have := HZ6.out; omega)) (tin_mono (tin_kept htx hb9) (fun b _ h => .inl h)) (tin_mono (tin_kept htz hb9) (fun b _ h => .inl h)) 63 y.a 0 0 noS, hb9⟩
end Go.Proofs.Ytjnlifghobgkcaa
