/-
  element of the reference at this translation: its refusals, and a pattern.
-/
import Derived.Test.YtjnlifghobgkcaaR14
namespace Go.Proofs.Ytjnlifghobgkcaa
open Go.RowKit

set_option linter.unusedVariables false in
set_option maxRecDepth 100000 in
set_option maxHeartbeats 1000000 in
theorem elem_deep (y : Tr) (yo : Option Addr) (yc d B : Nat) (w : World) (hB : B ≤ w.heap.size) (ht : TIn w (fun b => b < B) y (.slice yo y.ks.length yc)) (hks : y.ks.length ≤ 100000) (hd : d ≤ 1000) (m : Bool) (h200 : 200 < d) : Calls Try.prog 24 #[.agg #[.int .i64 y.op, .int .i64 y.a, .int .i64 y.n, .int .i64 y.m, .string y.s, .slice yo y.ks.length yc], .int .i64 d, .bool m] w (EAny w 10) := by
  have gd : decide ((200 : Int) < (d : Int)) = true := decide_eq_true (by omega)
  obtain ⟨W2, hW2⟩ : ∃ W2, W2 = (w.alloc (.cells #[.int .i64 y.op, .int .i64 y.a, .int .i64 y.n, .int .i64 y.m, .string y.s, .slice yo y.ks.length yc] 27)).alloc (.cells #[.int .i64 0, .int .i64 0, .int .i64 0, .int .i64 0, .string ⟨#[]⟩, .slice none 0 0] 27) := ⟨_, rfl⟩
  have hB2 : Below w.heap.size w W2 := by rw [hW2]; exact c_box2 w _ _
  have hzW : W2.heap.size = w.heap.size + 2 := by rw [hW2]; simp
  have hbox : W2.heap[w.heap.size]? = some (.cells #[.int .i64 y.op, .int .i64 y.a, .int .i64 y.n, .int .i64 y.m, .string y.s, .slice yo y.ks.length yc] 27 (0, 0)) := by rw [hW2]; exact c_new1 w _ _
  have hres : W2.heap[w.heap.size + 1]? = some (.cells #[.int .i64 0, .int .i64 0, .int .i64 0, .int .i64 0, .string ⟨#[]⟩, .slice none 0 0] 27 (0, 0)) := by rw [hW2]; exact c_new2 w _ _
  obtain ⟨⟨b0, b1, b2, b3, b4, b5⟩, -, hxl⟩ := c_six hbox
  obtain ⟨⟨r0, r1, r2, r3, r4, r5⟩, ⟨q0, q1, q2, q3, q4, q5⟩, hrl⟩ := c_six hres
  have HW := Lib.hid hW2
  have HB := Lib.hid hB2
  have HZ := Lib.hid hzW
  have HBR := Lib.hid (And.intro hbox hres)
  have HT := Lib.hid (tin_kept ht hB2)
  clear hW2 hB2 hzW hbox hres ht
  go_enter Try.func24, Try.ntmps24
  go_upto_region 1 with fail
  rw [← HW.out]
  go_wp2
  refine bodyPost_ret (v := .tuple #[.agg #[.int .i64 0, .int .i64 0, .int .i64 0, .int .i64 0, .string ⟨#[]⟩, .slice none 0 0], .int .i64 10]) (by simp [results, Try.results24, go_sem, r0, r1, r2, r3, r4, r5]) rfl ?_
  exact ⟨rfl, 0, 0, 0, 0, ⟨#[]⟩, none, 0, 0, rfl, c_st6 HB.out (by omega)⟩
set_option linter.unusedVariables false in
set_option maxRecDepth 100000 in
set_option maxHeartbeats 1000000 in
theorem elem_pat (y : Tr) (yo : Option Addr) (yc d B : Nat) (w : World) (hB : B ≤ w.heap.size) (ht : TIn w (fun b => b < B) y (.slice yo y.ks.length yc)) (hks : y.ks.length ≤ 100000) (hd : d ≤ 1000) (m : Bool) (h200 : ¬ 200 < d) (hp : patB y = true) : Calls Try.prog 24 #[.agg #[.int .i64 y.op, .int .i64 y.a, .int .i64 y.n, .int .i64 y.m, .string y.s, .slice yo y.ks.length yc], .int .i64 d, .bool m] w (QPost w (Sha B w) (.ok y)) := by
  have gd : decide ((200 : Int) < (d : Int)) = false := decide_eq_false (by omega)
  have HM := Lib.hid (fun W => rpattern_any y yo y.ks.length yc W)
  rw [hp] at HM
  clear hp
  obtain ⟨W2, hW2⟩ : ∃ W2, W2 = (w.alloc (.cells #[.int .i64 y.op, .int .i64 y.a, .int .i64 y.n, .int .i64 y.m, .string y.s, .slice yo y.ks.length yc] 27)).alloc (.cells #[.int .i64 0, .int .i64 0, .int .i64 0, .int .i64 0, .string ⟨#[]⟩, .slice none 0 0] 27) := ⟨_, rfl⟩
  have hB2 : Below w.heap.size w W2 := by rw [hW2]; exact c_box2 w _ _
  have hzW : W2.heap.size = w.heap.size + 2 := by rw [hW2]; simp
  have hbox : W2.heap[w.heap.size]? = some (.cells #[.int .i64 y.op, .int .i64 y.a, .int .i64 y.n, .int .i64 y.m, .string y.s, .slice yo y.ks.length yc] 27 (0, 0)) := by rw [hW2]; exact c_new1 w _ _
  have hres : W2.heap[w.heap.size + 1]? = some (.cells #[.int .i64 0, .int .i64 0, .int .i64 0, .int .i64 0, .string ⟨#[]⟩, .slice none 0 0] 27 (0, 0)) := by rw [hW2]; exact c_new2 w _ _
  obtain ⟨⟨b0, b1, b2, b3, b4, b5⟩, -, hxl⟩ := c_six hbox
  obtain ⟨⟨r0, r1, r2, r3, r4, r5⟩, ⟨q0, q1, q2, q3, q4, q5⟩, hrl⟩ := c_six hres
  have HW := Lib.hid hW2
  have HB := Lib.hid hB2
  have HZ := Lib.hid hzW
  have HBR := Lib.hid (And.intro hbox hres)
  have HT := Lib.hid (tin_kept ht hB2)
  clear hW2 hB2 hzW hbox hres ht
  go_enter Try.func24, Try.ntmps24
  go_upto_region 1 with fail
  rw [← HW.out]
  go_wp2_with fail
  refine (HM.out _).mono ?_
  rintro e W5 ⟨rfl, hB5⟩
  have hbox5 := c_kept hB5 (c_lt HBR.out.1) HBR.out.1
  have hres5 := c_kept hB5 (c_lt HBR.out.2) HBR.out.2
  clear b0 b1 b2 b3 b4 b5 hxl r0 r1 r2 r3 r4 r5 q0 q1 q2 q3 q4 q5 hrl
  obtain ⟨⟨b0, b1, b2, b3, b4, b5⟩, -, hxl⟩ := c_six hbox5
  obtain ⟨⟨r0, r1, r2, r3, r4, r5⟩, ⟨q0, q1, q2, q3, q4, q5⟩, hrl⟩ := c_six hres5
  have HB5 := Lib.hid (c_thr HB.out hB5 HB.out.size)
  have HT5 := Lib.hid (tin_kept HT.out hB5)
  have HZ5 := Lib.hid (show w.heap.size + 2 ≤ W5.heap.size from by have := HZ.out; have := hB5.size; omega)
  have HBR5 := Lib.hid (And.intro hbox5 hres5)
  clear hB5 hbox5 hres5
  go_wp2
  refine bodyPost_ret (v := .tuple #[.agg #[.int .i64 y.op, .int .i64 y.a, .int .i64 y.n, .int .i64 y.m, .string y.s, .slice yo y.ks.length yc], .int .i64 0]) (by simp [results, Try.results24, go_sem, r0, r1, r2, r3, r4, r5]) rfl ?_
  exact ⟨yo, _, yc, rfl, tin_mono (tin_grown HT5.out (st6_grown W5 (w.heap.size + 1) 0 _ _ _ _ _ _) (fun b _ hs e => by simp at e; omega)) (fun b _ hs => .inl hs), c_st6 HB5.out (by omega)⟩
set_option linter.unusedVariables false in
set_option maxRecDepth 100000 in
set_option maxHeartbeats 1000000 in
theorem elem_bad1 (y : Tr) (yo : Option Addr) (yc d B : Nat) (w : World) (hB : B ≤ w.heap.size) (ht : TIn w (fun b => b < B) y (.slice yo y.ks.length yc)) (hks : y.ks.length ≤ 100000) (hd : d ≤ 1000) (m : Bool) (g46 : (y.op == 46) = false) (g37 : (y.op != 37) = true) (g38 : (y.op != 38) = true) (h200 : ¬ 200 < d) (hp : patB y = false) : Calls Try.prog 24 #[.agg #[.int .i64 y.op, .int .i64 y.a, .int .i64 y.n, .int .i64 y.m, .string y.s, .slice yo y.ks.length yc], .int .i64 d, .bool m] w (EAny w 24) := by
  have gd : decide ((200 : Int) < (d : Int)) = false := decide_eq_false (by omega)
  have HM := Lib.hid (fun W => rpattern_any y yo y.ks.length yc W)
  rw [hp] at HM
  clear hp
  obtain ⟨W2, hW2⟩ : ∃ W2, W2 = (w.alloc (.cells #[.int .i64 y.op, .int .i64 y.a, .int .i64 y.n, .int .i64 y.m, .string y.s, .slice yo y.ks.length yc] 27)).alloc (.cells #[.int .i64 0, .int .i64 0, .int .i64 0, .int .i64 0, .string ⟨#[]⟩, .slice none 0 0] 27) := ⟨_, rfl⟩
  have hB2 : Below w.heap.size w W2 := by rw [hW2]; exact c_box2 w _ _
  have hzW : W2.heap.size = w.heap.size + 2 := by rw [hW2]; simp
  have hbox : W2.heap[w.heap.size]? = some (.cells #[.int .i64 y.op, .int .i64 y.a, .int .i64 y.n, .int .i64 y.m, .string y.s, .slice yo y.ks.length yc] 27 (0, 0)) := by rw [hW2]; exact c_new1 w _ _
  have hres : W2.heap[w.heap.size + 1]? = some (.cells #[.int .i64 0, .int .i64 0, .int .i64 0, .int .i64 0, .string ⟨#[]⟩, .slice none 0 0] 27 (0, 0)) := by rw [hW2]; exact c_new2 w _ _
  obtain ⟨⟨b0, b1, b2, b3, b4, b5⟩, -, hxl⟩ := c_six hbox
  obtain ⟨⟨r0, r1, r2, r3, r4, r5⟩, ⟨q0, q1, q2, q3, q4, q5⟩, hrl⟩ := c_six hres
  have HW := Lib.hid hW2
  have HB := Lib.hid hB2
  have HZ := Lib.hid hzW
  have HBR := Lib.hid (And.intro hbox hres)
  have HT := Lib.hid (tin_kept ht hB2)
  clear hW2 hB2 hzW hbox hres ht
  go_enter Try.func24, Try.ntmps24
  go_upto_region 1 with fail
  rw [← HW.out]
  go_wp2_with fail
  refine (HM.out _).mono ?_
  rintro e W5 ⟨rfl, hB5⟩
  have hbox5 := c_kept hB5 (c_lt HBR.out.1) HBR.out.1
  have hres5 := c_kept hB5 (c_lt HBR.out.2) HBR.out.2
  clear b0 b1 b2 b3 b4 b5 hxl r0 r1 r2 r3 r4 r5 q0 q1 q2 q3 q4 q5 hrl
  obtain ⟨⟨b0, b1, b2, b3, b4, b5⟩, -, hxl⟩ := c_six hbox5
  obtain ⟨⟨r0, r1, r2, r3, r4, r5⟩, ⟨q0, q1, q2, q3, q4, q5⟩, hrl⟩ := c_six hres5
  have HB5 := Lib.hid (c_thr HB.out hB5 HB.out.size)
  have HT5 := Lib.hid (tin_kept HT.out hB5)
  have HZ5 := Lib.hid (show w.heap.size + 2 ≤ W5.heap.size from by have := HZ.out; have := hB5.size; omega)
  have HBR5 := Lib.hid (And.intro hbox5 hres5)
  clear hB5 hbox5 hres5
  go_wp2
  refine bodyPost_ret (v := .tuple #[.agg #[.int .i64 0, .int .i64 0, .int .i64 0, .int .i64 0, .string ⟨#[]⟩, .slice none 0 0], .int .i64 24]) (by simp [results, Try.results24, go_sem, r0, r1, r2, r3, r4, r5]) rfl ?_
  exact ⟨rfl, 0, 0, 0, 0, ⟨#[]⟩, none, 0, 0, rfl, c_st6 HB5.out (by omega)⟩
set_option linter.unusedVariables false in
set_option maxRecDepth 100000 in
set_option maxHeartbeats 1000000 in
theorem elem_bad2 (y : Tr) (yo : Option Addr) (yc d B : Nat) (w : World) (hB : B ≤ w.heap.size) (ht : TIn w (fun b => b < B) y (.slice yo y.ks.length yc)) (hks : y.ks.length ≤ 100000) (hd : d ≤ 1000) (g46 : (y.op == 46) = true) (g37 : (y.op != 37) = true) (g38 : (y.op != 38) = true) (h200 : ¬ 200 < d) (hp : patB y = false) : Calls Try.prog 24 #[.agg #[.int .i64 y.op, .int .i64 y.a, .int .i64 y.n, .int .i64 y.m, .string y.s, .slice yo y.ks.length yc], .int .i64 d, .bool false] w (EAny w 24) := by
  have gd : decide ((200 : Int) < (d : Int)) = false := decide_eq_false (by omega)
  have HM := Lib.hid (fun W => rpattern_any y yo y.ks.length yc W)
  rw [hp] at HM
  clear hp
  obtain ⟨W2, hW2⟩ : ∃ W2, W2 = (w.alloc (.cells #[.int .i64 y.op, .int .i64 y.a, .int .i64 y.n, .int .i64 y.m, .string y.s, .slice yo y.ks.length yc] 27)).alloc (.cells #[.int .i64 0, .int .i64 0, .int .i64 0, .int .i64 0, .string ⟨#[]⟩, .slice none 0 0] 27) := ⟨_, rfl⟩
  have hB2 : Below w.heap.size w W2 := by rw [hW2]; exact c_box2 w _ _
  have hzW : W2.heap.size = w.heap.size + 2 := by rw [hW2]; simp
  have hbox : W2.heap[w.heap.size]? = some (.cells #[.int .i64 y.op, .int .i64 y.a, .int .i64 y.n, .int .i64 y.m, .string y.s, .slice yo y.ks.length yc] 27 (0, 0)) := by rw [hW2]; exact c_new1 w _ _
  have hres : W2.heap[w.heap.size + 1]? = some (.cells #[.int .i64 0, .int .i64 0, .int .i64 0, .int .i64 0, .string ⟨#[]⟩, .slice none 0 0] 27 (0, 0)) := by rw [hW2]; exact c_new2 w _ _
  obtain ⟨⟨b0, b1, b2, b3, b4, b5⟩, -, hxl⟩ := c_six hbox
  obtain ⟨⟨r0, r1, r2, r3, r4, r5⟩, ⟨q0, q1, q2, q3, q4, q5⟩, hrl⟩ := c_six hres
  have HW := Lib.hid hW2
  have HB := Lib.hid hB2
  have HZ := Lib.hid hzW
  have HBR := Lib.hid (And.intro hbox hres)
  have HT := Lib.hid (tin_kept ht hB2)
  clear hW2 hB2 hzW hbox hres ht
  go_enter Try.func24, Try.ntmps24
  go_upto_region 1 with fail
  rw [← HW.out]
  go_wp2_with fail
  refine (HM.out _).mono ?_
  rintro e W5 ⟨rfl, hB5⟩
  have hbox5 := c_kept hB5 (c_lt HBR.out.1) HBR.out.1
  have hres5 := c_kept hB5 (c_lt HBR.out.2) HBR.out.2
  clear b0 b1 b2 b3 b4 b5 hxl r0 r1 r2 r3 r4 r5 q0 q1 q2 q3 q4 q5 hrl
  obtain ⟨⟨b0, b1, b2, b3, b4, b5⟩, -, hxl⟩ := c_six hbox5
  obtain ⟨⟨r0, r1, r2, r3, r4, r5⟩, ⟨q0, q1, q2, q3, q4, q5⟩, hrl⟩ := c_six hres5
  have HB5 := Lib.hid (c_thr HB.out hB5 HB.out.size)
  have HT5 := Lib.hid (tin_kept HT.out hB5)
  have HZ5 := Lib.hid (show w.heap.size + 2 ≤ W5.heap.size from by have := HZ.out; have := hB5.size; omega)
  have HBR5 := Lib.hid (And.intro hbox5 hres5)
  clear hB5 hbox5 hres5
  go_wp2
  refine bodyPost_ret (v := .tuple #[.agg #[.int .i64 0, .int .i64 0, .int .i64 0, .int .i64 0, .string ⟨#[]⟩, .slice none 0 0], .int .i64 24]) (by simp [results, Try.results24, go_sem, r0, r1, r2, r3, r4, r5]) rfl ?_
  exact ⟨rfl, 0, 0, 0, 0, ⟨#[]⟩, none, 0, 0, rfl, c_st6 HB5.out (by omega)⟩
set_option linter.unusedVariables false in
set_option maxRecDepth 100000 in
set_option maxHeartbeats 1000000 in
theorem elem_bad3 (y : Tr) (yo : Option Addr) (yc d B : Nat) (w : World) (hB : B ≤ w.heap.size) (ht : TIn w (fun b => b < B) y (.slice yo y.ks.length yc)) (hks : y.ks.length ≤ 100000) (hd : d ≤ 1000) (g46 : (y.op == 46) = true) (gs : ¬ y.s.toList = [61]) (g37 : (y.op != 37) = true) (g38 : (y.op != 38) = true) (h200 : ¬ 200 < d) (hp : patB y = false) : Calls Try.prog 24 #[.agg #[.int .i64 y.op, .int .i64 y.a, .int .i64 y.n, .int .i64 y.m, .string y.s, .slice yo y.ks.length yc], .int .i64 d, .bool true] w (EAny w 24) := by
  have gd : decide ((200 : Int) < (d : Int)) = false := decide_eq_false (by omega)
  have HM := Lib.hid (fun W => rpattern_any y yo y.ks.length yc W)
  rw [hp] at HM
  clear hp
  obtain ⟨W2, hW2⟩ : ∃ W2, W2 = (w.alloc (.cells #[.int .i64 y.op, .int .i64 y.a, .int .i64 y.n, .int .i64 y.m, .string y.s, .slice yo y.ks.length yc] 27)).alloc (.cells #[.int .i64 0, .int .i64 0, .int .i64 0, .int .i64 0, .string ⟨#[]⟩, .slice none 0 0] 27) := ⟨_, rfl⟩
  have hB2 : Below w.heap.size w W2 := by rw [hW2]; exact c_box2 w _ _
  have hzW : W2.heap.size = w.heap.size + 2 := by rw [hW2]; simp
  have hbox : W2.heap[w.heap.size]? = some (.cells #[.int .i64 y.op, .int .i64 y.a, .int .i64 y.n, .int .i64 y.m, .string y.s, .slice yo y.ks.length yc] 27 (0, 0)) := by rw [hW2]; exact c_new1 w _ _
  have hres : W2.heap[w.heap.size + 1]? = some (.cells #[.int .i64 0, .int .i64 0, .int .i64 0, .int .i64 0, .string ⟨#[]⟩, .slice none 0 0] 27 (0, 0)) := by rw [hW2]; exact c_new2 w _ _
  obtain ⟨⟨b0, b1, b2, b3, b4, b5⟩, -, hxl⟩ := c_six hbox
  obtain ⟨⟨r0, r1, r2, r3, r4, r5⟩, ⟨q0, q1, q2, q3, q4, q5⟩, hrl⟩ := c_six hres
  have HW := Lib.hid hW2
  have HB := Lib.hid hB2
  have HZ := Lib.hid hzW
  have HBR := Lib.hid (And.intro hbox hres)
  have HT := Lib.hid (tin_kept ht hB2)
  clear hW2 hB2 hzW hbox hres ht
  go_enter Try.func24, Try.ntmps24
  go_upto_region 1 with fail
  rw [← HW.out]
  go_wp2_with fail
  refine (HM.out _).mono ?_
  rintro e W5 ⟨rfl, hB5⟩
  have hbox5 := c_kept hB5 (c_lt HBR.out.1) HBR.out.1
  have hres5 := c_kept hB5 (c_lt HBR.out.2) HBR.out.2
  clear b0 b1 b2 b3 b4 b5 hxl r0 r1 r2 r3 r4 r5 q0 q1 q2 q3 q4 q5 hrl
  obtain ⟨⟨b0, b1, b2, b3, b4, b5⟩, -, hxl⟩ := c_six hbox5
  obtain ⟨⟨r0, r1, r2, r3, r4, r5⟩, ⟨q0, q1, q2, q3, q4, q5⟩, hrl⟩ := c_six hres5
  have HB5 := Lib.hid (c_thr HB.out hB5 HB.out.size)
  have HT5 := Lib.hid (tin_kept HT.out hB5)
  have HZ5 := Lib.hid (show w.heap.size + 2 ≤ W5.heap.size from by have := HZ.out; have := hB5.size; omega)
  have HBR5 := Lib.hid (And.intro hbox5 hres5)
  clear hB5 hbox5 hres5
  go_wp2
  refine bodyPost_ret (v := .tuple #[.agg #[.int .i64 0, .int .i64 0, .int .i64 0, .int .i64 0, .string ⟨#[]⟩, .slice none 0 0], .int .i64 24]) (by simp [results, Try.results24, go_sem, r0, r1, r2, r3, r4, r5]) rfl ?_
  exact ⟨rfl, 0, 0, 0, 0, ⟨#[]⟩, none, 0, 0, rfl, c_st6 HB5.out (by omega)⟩
set_option linter.unusedVariables false in
set_option maxRecDepth 100000 in
set_option maxHeartbeats 1000000 in
theorem elem_bad4 (y : Tr) (yo : Option Addr) (yc d B : Nat) (w : World) (hB : B ≤ w.heap.size) (ht : TIn w (fun b => b < B) y (.slice yo y.ks.length yc)) (hks : y.ks.length ≤ 100000) (hd : d ≤ 1000) (g46 : (y.op == 46) = true) (gs : y.s.toList = [61]) (gl : ((y.ks.length : Int) == 2) = false) (g37 : (y.op != 37) = true) (g38 : (y.op != 38) = true) (h200 : ¬ 200 < d) (hp : patB y = false) : Calls Try.prog 24 #[.agg #[.int .i64 y.op, .int .i64 y.a, .int .i64 y.n, .int .i64 y.m, .string y.s, .slice yo y.ks.length yc], .int .i64 d, .bool true] w (EAny w 24) := by
  have gd : decide ((200 : Int) < (d : Int)) = false := decide_eq_false (by omega)
  have HM := Lib.hid (fun W => rpattern_any y yo y.ks.length yc W)
  rw [hp] at HM
  clear hp
  obtain ⟨W2, hW2⟩ : ∃ W2, W2 = (w.alloc (.cells #[.int .i64 y.op, .int .i64 y.a, .int .i64 y.n, .int .i64 y.m, .string y.s, .slice yo y.ks.length yc] 27)).alloc (.cells #[.int .i64 0, .int .i64 0, .int .i64 0, .int .i64 0, .string ⟨#[]⟩, .slice none 0 0] 27) := ⟨_, rfl⟩
  have hB2 : Below w.heap.size w W2 := by rw [hW2]; exact c_box2 w _ _
  have hzW : W2.heap.size = w.heap.size + 2 := by rw [hW2]; simp
  have hbox : W2.heap[w.heap.size]? = some (.cells #[.int .i64 y.op, .int .i64 y.a, .int .i64 y.n, .int .i64 y.m, .string y.s, .slice yo y.ks.length yc] 27 (0, 0)) := by rw [hW2]; exact c_new1 w _ _
  have hres : W2.heap[w.heap.size + 1]? = some (.cells #[.int .i64 0, .int .i64 0, .int .i64 0, .int .i64 0, .string ⟨#[]⟩, .slice none 0 0] 27 (0, 0)) := by rw [hW2]; exact c_new2 w _ _
  obtain ⟨⟨b0, b1, b2, b3, b4, b5⟩, -, hxl⟩ := c_six hbox
  obtain ⟨⟨r0, r1, r2, r3, r4, r5⟩, ⟨q0, q1, q2, q3, q4, q5⟩, hrl⟩ := c_six hres
  have HW := Lib.hid hW2
  have HB := Lib.hid hB2
  have HZ := Lib.hid hzW
  have HBR := Lib.hid (And.intro hbox hres)
  have HT := Lib.hid (tin_kept ht hB2)
  clear hW2 hB2 hzW hbox hres ht
  go_enter Try.func24, Try.ntmps24
  go_upto_region 1 with fail
  rw [← HW.out]
  go_wp2_with fail
  refine (HM.out _).mono ?_
  rintro e W5 ⟨rfl, hB5⟩
  have hbox5 := c_kept hB5 (c_lt HBR.out.1) HBR.out.1
  have hres5 := c_kept hB5 (c_lt HBR.out.2) HBR.out.2
  clear b0 b1 b2 b3 b4 b5 hxl r0 r1 r2 r3 r4 r5 q0 q1 q2 q3 q4 q5 hrl
  obtain ⟨⟨b0, b1, b2, b3, b4, b5⟩, -, hxl⟩ := c_six hbox5
  obtain ⟨⟨r0, r1, r2, r3, r4, r5⟩, ⟨q0, q1, q2, q3, q4, q5⟩, hrl⟩ := c_six hres5
  have HB5 := Lib.hid (c_thr HB.out hB5 HB.out.size)
  have HT5 := Lib.hid (tin_kept HT.out hB5)
  have HZ5 := Lib.hid (show w.heap.size + 2 ≤ W5.heap.size from by have := HZ.out; have := hB5.size; omega)
  have HBR5 := Lib.hid (And.intro hbox5 hres5)
  clear hB5 hbox5 hres5
  go_wp2
  refine bodyPost_ret (v := .tuple #[.agg #[.int .i64 0, .int .i64 0, .int .i64 0, .int .i64 0, .string ⟨#[]⟩, .slice none 0 0], .int .i64 24]) (by simp [results, Try.results24, go_sem, r0, r1, r2, r3, r4, r5]) rfl ?_
  exact ⟨rfl, 0, 0, 0, 0, ⟨#[]⟩, none, 0, 0, rfl, c_st6 HB5.out (by omega)⟩
end Go.Proofs.Ytjnlifghobgkcaa
