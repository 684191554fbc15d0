/-
  prop of the reference at this translation: its refusals.
-/
import Derived.Test.YtjnlifghobgkcaaR7
namespace Go.Proofs.Ytjnlifghobgkcaa
open Go.RowKit

set_option linter.unusedVariables false in
set_option maxRecDepth 100000 in
set_option maxHeartbeats 1000000 in
theorem prop_deep1 (bb oo len lc i : Nat) (y : Tr) (yo : Option Addr) (yc d B : Nat) (w : World) (hB : B ≤ w.heap.size) (hbb : bb < w.heap.size) (hcc : NCells w bb (oo + i * 6) y (.slice yo y.ks.length yc)) (ht : TIn w (fun b => b < B) y (.slice yo y.ks.length yc)) (hlen : len ≤ 100000) (hi : i < len) (hd : d ≤ 900) (hks : y.ks.length ≤ 100000) (g39 : (y.op == 39) = false) (h200 : 200 < d) : Calls Try.prog 40 #[.slice (some ⟨bb, oo, none⟩) len lc, .int .i64 i, .int .i64 d] w (EAny w 10) := by
  have gd : decide ((200 : Int) < (d : Int)) = true := decide_eq_true (by omega)
  have hi2 : (i : Int) < (len : Int) := by omega
  obtain ⟨c0, c1, c2, c3, c4, c5⟩ := hcc
  obtain ⟨W2, hW2⟩ : ∃ W2, W2 = (w.alloc (.cells #[.int .i64 0, .int .i64 0, .int .i64 0, .int .i64 0, .string ⟨#[]⟩, .slice none 0 0] 27)).alloc (.cells #[.int .i64 y.op, .int .i64 y.a, .int .i64 y.n, .int .i64 y.m, .string y.s, .slice yo y.ks.length yc] 27) := ⟨_, rfl⟩
  have hB2 : Below w.heap.size w W2 := by rw [hW2]; exact c_box2 w _ _
  have hzW : w.heap.size + 2 ≤ W2.heap.size := by rw [hW2]; simp
  have hres : W2.heap[w.heap.size]? = some (.cells #[.int .i64 0, .int .i64 0, .int .i64 0, .int .i64 0, .string ⟨#[]⟩, .slice none 0 0] 27 (0, 0)) := by rw [hW2]; exact c_new1 w _ _
  have hbox : W2.heap[w.heap.size + 1]? = some (.cells #[.int .i64 y.op, .int .i64 y.a, .int .i64 y.n, .int .i64 y.m, .string y.s, .slice yo y.ks.length yc] 27 (0, 0)) := by rw [hW2]; exact c_new2 w _ _
  obtain ⟨⟨b0, b1, b2, b3, b4, b5⟩, -, hxl⟩ := c_six hbox
  obtain ⟨⟨r0, r1, r2, r3, r4, r5⟩, ⟨q0, q1, q2, q3, q4, q5⟩, hrl⟩ := c_six hres
  have HW := Lib.hid hW2
  have HB := Lib.hid hB2
  have HZ := Lib.hid hzW
  have HBR := Lib.hid (And.intro hres hbox)
  have HT := Lib.hid (tin_kept ht hB2)
  clear hW2 hB2 hzW hbox hres ht
  go_enter Try.func40, Try.ntmps40
  go_upto_region 2 with fail
  rw [← HW.out]
  go_wp2
  refine bodyPost_ret (v := .tuple #[.agg #[.int .i64 0, .int .i64 0, .int .i64 0, .int .i64 0, .string ⟨#[]⟩, .slice none 0 0], .int .i64 10]) (by simp [results, Try.results40, go_sem, r0, r1, r2, r3, r4, r5]) rfl ?_
  exact ⟨rfl, 0, 0, 0, 0, ⟨#[]⟩, none, 0, 0, rfl, c_st6 HB.out (by omega)⟩
set_option linter.unusedVariables false in
set_option maxRecDepth 100000 in
set_option maxHeartbeats 1000000 in
theorem prop_deep2 (bb oo len lc i : Nat) (y : Tr) (yo : Option Addr) (yc d B : Nat) (w : World) (hB : B ≤ w.heap.size) (hbb : bb < w.heap.size) (hcc : NCells w bb (oo + i * 6) y (.slice yo y.ks.length yc)) (ht : TIn w (fun b => b < B) y (.slice yo y.ks.length yc)) (hlen : len ≤ 100000) (hi : i < len) (hd : d ≤ 900) (hks : y.ks.length ≤ 100000) (g39 : (y.op == 39) = true) (g4 : (y.n == 4) = false) (h200 : 200 < d) : Calls Try.prog 40 #[.slice (some ⟨bb, oo, none⟩) len lc, .int .i64 i, .int .i64 d] w (EAny w 10) := by
  have gd : decide ((200 : Int) < (d : Int)) = true := decide_eq_true (by omega)
  have hi2 : (i : Int) < (len : Int) := by omega
  obtain ⟨c0, c1, c2, c3, c4, c5⟩ := hcc
  obtain ⟨W2, hW2⟩ : ∃ W2, W2 = (w.alloc (.cells #[.int .i64 0, .int .i64 0, .int .i64 0, .int .i64 0, .string ⟨#[]⟩, .slice none 0 0] 27)).alloc (.cells #[.int .i64 y.op, .int .i64 y.a, .int .i64 y.n, .int .i64 y.m, .string y.s, .slice yo y.ks.length yc] 27) := ⟨_, rfl⟩
  have hB2 : Below w.heap.size w W2 := by rw [hW2]; exact c_box2 w _ _
  have hzW : w.heap.size + 2 ≤ W2.heap.size := by rw [hW2]; simp
  have hres : W2.heap[w.heap.size]? = some (.cells #[.int .i64 0, .int .i64 0, .int .i64 0, .int .i64 0, .string ⟨#[]⟩, .slice none 0 0] 27 (0, 0)) := by rw [hW2]; exact c_new1 w _ _
  have hbox : W2.heap[w.heap.size + 1]? = some (.cells #[.int .i64 y.op, .int .i64 y.a, .int .i64 y.n, .int .i64 y.m, .string y.s, .slice yo y.ks.length yc] 27 (0, 0)) := by rw [hW2]; exact c_new2 w _ _
  obtain ⟨⟨b0, b1, b2, b3, b4, b5⟩, -, hxl⟩ := c_six hbox
  obtain ⟨⟨r0, r1, r2, r3, r4, r5⟩, ⟨q0, q1, q2, q3, q4, q5⟩, hrl⟩ := c_six hres
  have HW := Lib.hid hW2
  have HB := Lib.hid hB2
  have HZ := Lib.hid hzW
  have HBR := Lib.hid (And.intro hres hbox)
  have HT := Lib.hid (tin_kept ht hB2)
  clear hW2 hB2 hzW hbox hres ht
  go_enter Try.func40, Try.ntmps40
  go_upto_region 2 with fail
  rw [← HW.out]
  go_wp2
  refine bodyPost_ret (v := .tuple #[.agg #[.int .i64 0, .int .i64 0, .int .i64 0, .int .i64 0, .string ⟨#[]⟩, .slice none 0 0], .int .i64 10]) (by simp [results, Try.results40, go_sem, r0, r1, r2, r3, r4, r5]) rfl ?_
  exact ⟨rfl, 0, 0, 0, 0, ⟨#[]⟩, none, 0, 0, rfl, c_st6 HB.out (by omega)⟩
set_option linter.unusedVariables false in
set_option maxRecDepth 100000 in
set_option maxHeartbeats 1000000 in
theorem prop_bad1 (bb oo len lc i : Nat) (y : Tr) (yo : Option Addr) (yc d B : Nat) (w : World) (hB : B ≤ w.heap.size) (hbb : bb < w.heap.size) (hcc : NCells w bb (oo + i * 6) y (.slice yo y.ks.length yc)) (ht : TIn w (fun b => b < B) y (.slice yo y.ks.length yc)) (hlen : len ≤ 100000) (hi : i < len) (hd : d ≤ 900) (hks : y.ks.length ≤ 100000) (g39 : (y.op == 39) = false) (g39n : (y.op != 39) = true) (h200 : ¬ 200 < d) : Calls Try.prog 40 #[.slice (some ⟨bb, oo, none⟩) len lc, .int .i64 i, .int .i64 d] w (EAny w 24) := by
  have gd : decide ((200 : Int) < (d : Int)) = false := decide_eq_false (by omega)
  have hi2 : (i : Int) < (len : Int) := by omega
  obtain ⟨c0, c1, c2, c3, c4, c5⟩ := hcc
  obtain ⟨W2, hW2⟩ : ∃ W2, W2 = (w.alloc (.cells #[.int .i64 0, .int .i64 0, .int .i64 0, .int .i64 0, .string ⟨#[]⟩, .slice none 0 0] 27)).alloc (.cells #[.int .i64 y.op, .int .i64 y.a, .int .i64 y.n, .int .i64 y.m, .string y.s, .slice yo y.ks.length yc] 27) := ⟨_, rfl⟩
  have hB2 : Below w.heap.size w W2 := by rw [hW2]; exact c_box2 w _ _
  have hzW : w.heap.size + 2 ≤ W2.heap.size := by rw [hW2]; simp
  have hres : W2.heap[w.heap.size]? = some (.cells #[.int .i64 0, .int .i64 0, .int .i64 0, .int .i64 0, .string ⟨#[]⟩, .slice none 0 0] 27 (0, 0)) := by rw [hW2]; exact c_new1 w _ _
  have hbox : W2.heap[w.heap.size + 1]? = some (.cells #[.int .i64 y.op, .int .i64 y.a, .int .i64 y.n, .int .i64 y.m, .string y.s, .slice yo y.ks.length yc] 27 (0, 0)) := by rw [hW2]; exact c_new2 w _ _
  obtain ⟨⟨b0, b1, b2, b3, b4, b5⟩, -, hxl⟩ := c_six hbox
  obtain ⟨⟨r0, r1, r2, r3, r4, r5⟩, ⟨q0, q1, q2, q3, q4, q5⟩, hrl⟩ := c_six hres
  have HW := Lib.hid hW2
  have HB := Lib.hid hB2
  have HZ := Lib.hid hzW
  have HBR := Lib.hid (And.intro hres hbox)
  have HT := Lib.hid (tin_kept ht hB2)
  clear hW2 hB2 hzW hbox hres ht
  go_enter Try.func40, Try.ntmps40
  go_upto_region 2 with fail
  rw [← HW.out]
  go_upto_region 7 with fail
  obtain ⟨W3, hW3⟩ : ∃ W3, W3 = W2.alloc (.cells #[.int .i64 62, .int .i64 y.a, .int .i64 0, .int .i64 y.m, .string ⟨#[]⟩, .slice none 0 0] 27) := ⟨_, rfl⟩
  have hB3 : Below W2.heap.size W2 W3 := by rw [hW3]; exact c_box W2 _
  have hout : W3.heap[W2.heap.size]? = some (.cells #[.int .i64 62, .int .i64 y.a, .int .i64 0, .int .i64 y.m, .string ⟨#[]⟩, .slice none 0 0] 27 (0, 0)) := by rw [hW3]; exact heap_alloc_new W2 _
  have hz3 : W3.heap.size = W2.heap.size + 1 := by rw [hW3]; simp
  obtain ⟨g9, hg9⟩ : ∃ g9, g9 = W2.heap.size := ⟨_, rfl⟩
  rw [← hW3, ← hg9]
  rw [← hg9] at hout
  have hbox3 := c_kept hB3 (c_lt HBR.out.2) HBR.out.2
  have hres3 := c_kept hB3 (c_lt HBR.out.1) HBR.out.1
  have HB3 := Lib.hid (c_thr HB.out hB3 HB.out.size)
  have HT3 := Lib.hid (tin_kept HT.out hB3)
  have HBR3 := Lib.hid (And.intro hres3 (And.intro hbox3 hout))
  have HZ3 := Lib.hid (show w.heap.size + 3 ≤ W3.heap.size ∧ g9 = W2.heap.size ∧ W3.heap.size = g9 + 1 ∧ w.heap.size + 2 ≤ g9 from by have := HZ.out; omega)
  clear b0 b1 b2 b3 b4 b5 r0 r1 r2 r3 r4 r5 q0 q1 q2 q3 q4 q5 hxl hrl
  obtain ⟨⟨b0, b1, b2, b3, b4, b5⟩, -, hxl⟩ := c_six hbox3
  obtain ⟨⟨r0, r1, r2, r3, r4, r5⟩, ⟨q0, q1, q2, q3, q4, q5⟩, hrl⟩ := c_six hres3
  obtain ⟨⟨t0, t1, t2, t3, t4, t5⟩, ⟨u0, u1, u2, u3, u4, u5⟩, htl⟩ := c_six hout
  clear hW3 hB3 hout hz3 hg9 hbox3 hres3
  go_wp2
  refine bodyPost_ret (v := .tuple #[.agg #[.int .i64 62, .int .i64 y.a, .int .i64 0, .int .i64 y.m, .string ⟨#[]⟩, .slice none 0 0], .int .i64 24]) (by simp [results, Try.results40, go_sem, r0, r1, r2, r3, r4, r5]) rfl ?_
  exact ⟨rfl, 62, y.a, 0, y.m, ⟨#[]⟩, none, 0, 0, rfl, c_st6 HB3.out (by omega)⟩
set_option linter.unusedVariables false in
set_option maxRecDepth 100000 in
set_option maxHeartbeats 1000000 in
theorem prop_bad2 (bb oo len lc i : Nat) (y : Tr) (yo : Option Addr) (yc d B : Nat) (w : World) (hB : B ≤ w.heap.size) (hbb : bb < w.heap.size) (hcc : NCells w bb (oo + i * 6) y (.slice yo y.ks.length yc)) (ht : TIn w (fun b => b < B) y (.slice yo y.ks.length yc)) (hlen : len ≤ 100000) (hi : i < len) (hd : d ≤ 900) (hks : y.ks.length ≤ 100000) (g39 : (y.op == 39) = true) (g39n : (y.op != 39) = false) (g4 : (y.n == 4) = false) (g0 : (y.n == 0) = false) (g3 : (y.n != 3) = true) (h200 : ¬ 200 < d) : Calls Try.prog 40 #[.slice (some ⟨bb, oo, none⟩) len lc, .int .i64 i, .int .i64 d] w (EAny w 24) := by
  have gd : decide ((200 : Int) < (d : Int)) = false := decide_eq_false (by omega)
  have hi2 : (i : Int) < (len : Int) := by omega
  obtain ⟨c0, c1, c2, c3, c4, c5⟩ := hcc
  obtain ⟨W2, hW2⟩ : ∃ W2, W2 = (w.alloc (.cells #[.int .i64 0, .int .i64 0, .int .i64 0, .int .i64 0, .string ⟨#[]⟩, .slice none 0 0] 27)).alloc (.cells #[.int .i64 y.op, .int .i64 y.a, .int .i64 y.n, .int .i64 y.m, .string y.s, .slice yo y.ks.length yc] 27) := ⟨_, rfl⟩
  have hB2 : Below w.heap.size w W2 := by rw [hW2]; exact c_box2 w _ _
  have hzW : w.heap.size + 2 ≤ W2.heap.size := by rw [hW2]; simp
  have hres : W2.heap[w.heap.size]? = some (.cells #[.int .i64 0, .int .i64 0, .int .i64 0, .int .i64 0, .string ⟨#[]⟩, .slice none 0 0] 27 (0, 0)) := by rw [hW2]; exact c_new1 w _ _
  have hbox : W2.heap[w.heap.size + 1]? = some (.cells #[.int .i64 y.op, .int .i64 y.a, .int .i64 y.n, .int .i64 y.m, .string y.s, .slice yo y.ks.length yc] 27 (0, 0)) := by rw [hW2]; exact c_new2 w _ _
  obtain ⟨⟨b0, b1, b2, b3, b4, b5⟩, -, hxl⟩ := c_six hbox
  obtain ⟨⟨r0, r1, r2, r3, r4, r5⟩, ⟨q0, q1, q2, q3, q4, q5⟩, hrl⟩ := c_six hres
  have HW := Lib.hid hW2
  have HB := Lib.hid hB2
  have HZ := Lib.hid hzW
  have HBR := Lib.hid (And.intro hres hbox)
  have HT := Lib.hid (tin_kept ht hB2)
  clear hW2 hB2 hzW hbox hres ht
  go_enter Try.func40, Try.ntmps40
  go_upto_region 2 with fail
  rw [← HW.out]
  go_upto_region 7 with fail
  obtain ⟨W3, hW3⟩ : ∃ W3, W3 = W2.alloc (.cells #[.int .i64 62, .int .i64 y.a, .int .i64 0, .int .i64 y.m, .string ⟨#[]⟩, .slice none 0 0] 27) := ⟨_, rfl⟩
  have hB3 : Below W2.heap.size W2 W3 := by rw [hW3]; exact c_box W2 _
  have hout : W3.heap[W2.heap.size]? = some (.cells #[.int .i64 62, .int .i64 y.a, .int .i64 0, .int .i64 y.m, .string ⟨#[]⟩, .slice none 0 0] 27 (0, 0)) := by rw [hW3]; exact heap_alloc_new W2 _
  have hz3 : W3.heap.size = W2.heap.size + 1 := by rw [hW3]; simp
  obtain ⟨g9, hg9⟩ : ∃ g9, g9 = W2.heap.size := ⟨_, rfl⟩
  rw [← hW3, ← hg9]
  rw [← hg9] at hout
  have hbox3 := c_kept hB3 (c_lt HBR.out.2) HBR.out.2
  have hres3 := c_kept hB3 (c_lt HBR.out.1) HBR.out.1
  have HB3 := Lib.hid (c_thr HB.out hB3 HB.out.size)
  have HT3 := Lib.hid (tin_kept HT.out hB3)
  have HBR3 := Lib.hid (And.intro hres3 (And.intro hbox3 hout))
  have HZ3 := Lib.hid (show w.heap.size + 3 ≤ W3.heap.size ∧ g9 = W2.heap.size ∧ W3.heap.size = g9 + 1 ∧ w.heap.size + 2 ≤ g9 from by have := HZ.out; omega)
  clear b0 b1 b2 b3 b4 b5 r0 r1 r2 r3 r4 r5 q0 q1 q2 q3 q4 q5 hxl hrl
  obtain ⟨⟨b0, b1, b2, b3, b4, b5⟩, -, hxl⟩ := c_six hbox3
  obtain ⟨⟨r0, r1, r2, r3, r4, r5⟩, ⟨q0, q1, q2, q3, q4, q5⟩, hrl⟩ := c_six hres3
  obtain ⟨⟨t0, t1, t2, t3, t4, t5⟩, ⟨u0, u1, u2, u3, u4, u5⟩, htl⟩ := c_six hout
  clear hW3 hB3 hout hz3 hg9 hbox3 hres3
  go_wp2
  refine bodyPost_ret (v := .tuple #[.agg #[.int .i64 62, .int .i64 y.a, .int .i64 0, .int .i64 y.m, .string ⟨#[]⟩, .slice none 0 0], .int .i64 24]) (by simp [results, Try.results40, go_sem, r0, r1, r2, r3, r4, r5]) rfl ?_
  exact ⟨rfl, 62, y.a, 0, y.m, ⟨#[]⟩, none, 0, 0, rfl, c_st6 HB3.out (by omega)⟩
set_option linter.unusedVariables false in
set_option maxRecDepth 100000 in
set_option maxHeartbeats 1000000 in
theorem prop_bad3 (bb oo len lc i : Nat) (y : Tr) (yo : Option Addr) (yc d B : Nat) (w : World) (hB : B ≤ w.heap.size) (hbb : bb < w.heap.size) (hcc : NCells w bb (oo + i * 6) y (.slice yo y.ks.length yc)) (ht : TIn w (fun b => b < B) y (.slice yo y.ks.length yc)) (hlen : len ≤ 100000) (hi : i < len) (hd : d ≤ 900) (hks : y.ks.length ≤ 100000) (g39 : (y.op == 39) = true) (g39n : (y.op != 39) = false) (g4 : (y.n == 4) = false) (g0 : (y.n == 0) = true) (g3 : (y.n != 3) = true) (gl : ((y.ks.length : Int) == 2) = false) (h200 : ¬ 200 < d) : Calls Try.prog 40 #[.slice (some ⟨bb, oo, none⟩) len lc, .int .i64 i, .int .i64 d] w (EAny w 24) := by
  have gd : decide ((200 : Int) < (d : Int)) = false := decide_eq_false (by omega)
  have hi2 : (i : Int) < (len : Int) := by omega
  obtain ⟨c0, c1, c2, c3, c4, c5⟩ := hcc
  obtain ⟨W2, hW2⟩ : ∃ W2, W2 = (w.alloc (.cells #[.int .i64 0, .int .i64 0, .int .i64 0, .int .i64 0, .string ⟨#[]⟩, .slice none 0 0] 27)).alloc (.cells #[.int .i64 y.op, .int .i64 y.a, .int .i64 y.n, .int .i64 y.m, .string y.s, .slice yo y.ks.length yc] 27) := ⟨_, rfl⟩
  have hB2 : Below w.heap.size w W2 := by rw [hW2]; exact c_box2 w _ _
  have hzW : w.heap.size + 2 ≤ W2.heap.size := by rw [hW2]; simp
  have hres : W2.heap[w.heap.size]? = some (.cells #[.int .i64 0, .int .i64 0, .int .i64 0, .int .i64 0, .string ⟨#[]⟩, .slice none 0 0] 27 (0, 0)) := by rw [hW2]; exact c_new1 w _ _
  have hbox : W2.heap[w.heap.size + 1]? = some (.cells #[.int .i64 y.op, .int .i64 y.a, .int .i64 y.n, .int .i64 y.m, .string y.s, .slice yo y.ks.length yc] 27 (0, 0)) := by rw [hW2]; exact c_new2 w _ _
  obtain ⟨⟨b0, b1, b2, b3, b4, b5⟩, -, hxl⟩ := c_six hbox
  obtain ⟨⟨r0, r1, r2, r3, r4, r5⟩, ⟨q0, q1, q2, q3, q4, q5⟩, hrl⟩ := c_six hres
  have HW := Lib.hid hW2
  have HB := Lib.hid hB2
  have HZ := Lib.hid hzW
  have HBR := Lib.hid (And.intro hres hbox)
  have HT := Lib.hid (tin_kept ht hB2)
  clear hW2 hB2 hzW hbox hres ht
  go_enter Try.func40, Try.ntmps40
  go_upto_region 2 with fail
  rw [← HW.out]
  go_upto_region 7 with fail
  obtain ⟨W3, hW3⟩ : ∃ W3, W3 = W2.alloc (.cells #[.int .i64 62, .int .i64 y.a, .int .i64 0, .int .i64 y.m, .string ⟨#[]⟩, .slice none 0 0] 27) := ⟨_, rfl⟩
  have hB3 : Below W2.heap.size W2 W3 := by rw [hW3]; exact c_box W2 _
  have hout : W3.heap[W2.heap.size]? = some (.cells #[.int .i64 62, .int .i64 y.a, .int .i64 0, .int .i64 y.m, .string ⟨#[]⟩, .slice none 0 0] 27 (0, 0)) := by rw [hW3]; exact heap_alloc_new W2 _
  have hz3 : W3.heap.size = W2.heap.size + 1 := by rw [hW3]; simp
  obtain ⟨g9, hg9⟩ : ∃ g9, g9 = W2.heap.size := ⟨_, rfl⟩
  rw [← hW3, ← hg9]
  rw [← hg9] at hout
  have hbox3 := c_kept hB3 (c_lt HBR.out.2) HBR.out.2
  have hres3 := c_kept hB3 (c_lt HBR.out.1) HBR.out.1
  have HB3 := Lib.hid (c_thr HB.out hB3 HB.out.size)
  have HT3 := Lib.hid (tin_kept HT.out hB3)
  have HBR3 := Lib.hid (And.intro hres3 (And.intro hbox3 hout))
  have HZ3 := Lib.hid (show w.heap.size + 3 ≤ W3.heap.size ∧ g9 = W2.heap.size ∧ W3.heap.size = g9 + 1 ∧ w.heap.size + 2 ≤ g9 from by have := HZ.out; omega)
  clear b0 b1 b2 b3 b4 b5 r0 r1 r2 r3 r4 r5 q0 q1 q2 q3 q4 q5 hxl hrl
  obtain ⟨⟨b0, b1, b2, b3, b4, b5⟩, -, hxl⟩ := c_six hbox3
  obtain ⟨⟨r0, r1, r2, r3, r4, r5⟩, ⟨q0, q1, q2, q3, q4, q5⟩, hrl⟩ := c_six hres3
  obtain ⟨⟨t0, t1, t2, t3, t4, t5⟩, ⟨u0, u1, u2, u3, u4, u5⟩, htl⟩ := c_six hout
  clear hW3 hB3 hout hz3 hg9 hbox3 hres3
  go_wp2
  refine bodyPost_ret (v := .tuple #[.agg #[.int .i64 62, .int .i64 y.a, .int .i64 0, .int .i64 y.m, .string ⟨#[]⟩, .slice none 0 0], .int .i64 24]) (by simp [results, Try.results40, go_sem, r0, r1, r2, r3, r4, r5]) rfl ?_
  exact ⟨rfl, 62, y.a, 0, y.m, ⟨#[]⟩, none, 0, 0, rfl, c_st6 HB3.out (by omega)⟩
set_option linter.unusedVariables false in
set_option maxRecDepth 100000 in
set_option maxHeartbeats 1000000 in
theorem prop_bad4 (bb oo len lc i : Nat) (y : Tr) (yo : Option Addr) (yc d B : Nat) (w : World) (hB : B ≤ w.heap.size) (hbb : bb < w.heap.size) (hcc : NCells w bb (oo + i * 6) y (.slice yo y.ks.length yc)) (ht : TIn w (fun b => b < B) y (.slice yo y.ks.length yc)) (hlen : len ≤ 100000) (hi : i < len) (hd : d ≤ 900) (hks : y.ks.length ≤ 100000) (g39 : (y.op == 39) = true) (g39n : (y.op != 39) = false) (g4 : (y.n == 4) = false) (g0 : (y.n == 0) = false) (g3 : (y.n != 3) = false) (gl : decide ((y.ks.length : Int) < 1) = true) (h200 : ¬ 200 < d) : Calls Try.prog 40 #[.slice (some ⟨bb, oo, none⟩) len lc, .int .i64 i, .int .i64 d] w (EAny w 24) := by
  have gd : decide ((200 : Int) < (d : Int)) = false := decide_eq_false (by omega)
  have hi2 : (i : Int) < (len : Int) := by omega
  obtain ⟨c0, c1, c2, c3, c4, c5⟩ := hcc
  obtain ⟨W2, hW2⟩ : ∃ W2, W2 = (w.alloc (.cells #[.int .i64 0, .int .i64 0, .int .i64 0, .int .i64 0, .string ⟨#[]⟩, .slice none 0 0] 27)).alloc (.cells #[.int .i64 y.op, .int .i64 y.a, .int .i64 y.n, .int .i64 y.m, .string y.s, .slice yo y.ks.length yc] 27) := ⟨_, rfl⟩
  have hB2 : Below w.heap.size w W2 := by rw [hW2]; exact c_box2 w _ _
  have hzW : w.heap.size + 2 ≤ W2.heap.size := by rw [hW2]; simp
  have hres : W2.heap[w.heap.size]? = some (.cells #[.int .i64 0, .int .i64 0, .int .i64 0, .int .i64 0, .string ⟨#[]⟩, .slice none 0 0] 27 (0, 0)) := by rw [hW2]; exact c_new1 w _ _
  have hbox : W2.heap[w.heap.size + 1]? = some (.cells #[.int .i64 y.op, .int .i64 y.a, .int .i64 y.n, .int .i64 y.m, .string y.s, .slice yo y.ks.length yc] 27 (0, 0)) := by rw [hW2]; exact c_new2 w _ _
  obtain ⟨⟨b0, b1, b2, b3, b4, b5⟩, -, hxl⟩ := c_six hbox
  obtain ⟨⟨r0, r1, r2, r3, r4, r5⟩, ⟨q0, q1, q2, q3, q4, q5⟩, hrl⟩ := c_six hres
  have HW := Lib.hid hW2
  have HB := Lib.hid hB2
  have HZ := Lib.hid hzW
  have HBR := Lib.hid (And.intro hres hbox)
  have HT := Lib.hid (tin_kept ht hB2)
  clear hW2 hB2 hzW hbox hres ht
  go_enter Try.func40, Try.ntmps40
  go_upto_region 2 with fail
  rw [← HW.out]
  go_upto_region 7 with fail
  obtain ⟨W3, hW3⟩ : ∃ W3, W3 = W2.alloc (.cells #[.int .i64 62, .int .i64 y.a, .int .i64 0, .int .i64 y.m, .string ⟨#[]⟩, .slice none 0 0] 27) := ⟨_, rfl⟩
  have hB3 : Below W2.heap.size W2 W3 := by rw [hW3]; exact c_box W2 _
  have hout : W3.heap[W2.heap.size]? = some (.cells #[.int .i64 62, .int .i64 y.a, .int .i64 0, .int .i64 y.m, .string ⟨#[]⟩, .slice none 0 0] 27 (0, 0)) := by rw [hW3]; exact heap_alloc_new W2 _
  have hz3 : W3.heap.size = W2.heap.size + 1 := by rw [hW3]; simp
  obtain ⟨g9, hg9⟩ : ∃ g9, g9 = W2.heap.size := ⟨_, rfl⟩
  rw [← hW3, ← hg9]
  rw [← hg9] at hout
  have hbox3 := c_kept hB3 (c_lt HBR.out.2) HBR.out.2
  have hres3 := c_kept hB3 (c_lt HBR.out.1) HBR.out.1
  have HB3 := Lib.hid (c_thr HB.out hB3 HB.out.size)
  have HT3 := Lib.hid (tin_kept HT.out hB3)
  have HBR3 := Lib.hid (And.intro hres3 (And.intro hbox3 hout))
  have HZ3 := Lib.hid (show w.heap.size + 3 ≤ W3.heap.size ∧ g9 = W2.heap.size ∧ W3.heap.size = g9 + 1 ∧ w.heap.size + 2 ≤ g9 from by have := HZ.out; omega)
  clear b0 b1 b2 b3 b4 b5 r0 r1 r2 r3 r4 r5 q0 q1 q2 q3 q4 q5 hxl hrl
  obtain ⟨⟨b0, b1, b2, b3, b4, b5⟩, -, hxl⟩ := c_six hbox3
  obtain ⟨⟨r0, r1, r2, r3, r4, r5⟩, ⟨q0, q1, q2, q3, q4, q5⟩, hrl⟩ := c_six hres3
  obtain ⟨⟨t0, t1, t2, t3, t4, t5⟩, ⟨u0, u1, u2, u3, u4, u5⟩, htl⟩ := c_six hout
  clear hW3 hB3 hout hz3 hg9 hbox3 hres3
  go_wp2
  refine bodyPost_ret (v := .tuple #[.agg #[.int .i64 62, .int .i64 y.a, .int .i64 0, .int .i64 y.m, .string ⟨#[]⟩, .slice none 0 0], .int .i64 24]) (by simp [results, Try.results40, go_sem, r0, r1, r2, r3, r4, r5]) rfl ?_
  exact ⟨rfl, 62, y.a, 0, y.m, ⟨#[]⟩, none, 0, 0, rfl, c_st6 HB3.out (by omega)⟩
set_option linter.unusedVariables false in
set_option maxRecDepth 100000 in
set_option maxHeartbeats 1000000 in
theorem prop_bad5 (bb oo len lc i : Nat) (y : Tr) (yo : Option Addr) (yc d B : Nat) (w : World) (hB : B ≤ w.heap.size) (hbb : bb < w.heap.size) (hcc : NCells w bb (oo + i * 6) y (.slice yo y.ks.length yc)) (ht : TIn w (fun b => b < B) y (.slice yo y.ks.length yc)) (hlen : len ≤ 100000) (hi : i < len) (hd : d ≤ 900) (hks : y.ks.length ≤ 100000) (g39 : (y.op == 39) = true) (g39n : (y.op != 39) = false) (g4 : (y.n == 4) = false) (g0 : (y.n == 0) = false) (g3 : (y.n != 3) = false) (gl : decide ((y.ks.length : Int) < 1) = false) (gl2 : decide ((2 : Int) < (y.ks.length : Int)) = true) (h200 : ¬ 200 < d) : Calls Try.prog 40 #[.slice (some ⟨bb, oo, none⟩) len lc, .int .i64 i, .int .i64 d] w (EAny w 24) := by
  have gd : decide ((200 : Int) < (d : Int)) = false := decide_eq_false (by omega)
  have hi2 : (i : Int) < (len : Int) := by omega
  obtain ⟨c0, c1, c2, c3, c4, c5⟩ := hcc
  obtain ⟨W2, hW2⟩ : ∃ W2, W2 = (w.alloc (.cells #[.int .i64 0, .int .i64 0, .int .i64 0, .int .i64 0, .string ⟨#[]⟩, .slice none 0 0] 27)).alloc (.cells #[.int .i64 y.op, .int .i64 y.a, .int .i64 y.n, .int .i64 y.m, .string y.s, .slice yo y.ks.length yc] 27) := ⟨_, rfl⟩
  have hB2 : Below w.heap.size w W2 := by rw [hW2]; exact c_box2 w _ _
  have hzW : w.heap.size + 2 ≤ W2.heap.size := by rw [hW2]; simp
  have hres : W2.heap[w.heap.size]? = some (.cells #[.int .i64 0, .int .i64 0, .int .i64 0, .int .i64 0, .string ⟨#[]⟩, .slice none 0 0] 27 (0, 0)) := by rw [hW2]; exact c_new1 w _ _
  have hbox : W2.heap[w.heap.size + 1]? = some (.cells #[.int .i64 y.op, .int .i64 y.a, .int .i64 y.n, .int .i64 y.m, .string y.s, .slice yo y.ks.length yc] 27 (0, 0)) := by rw [hW2]; exact c_new2 w _ _
  obtain ⟨⟨b0, b1, b2, b3, b4, b5⟩, -, hxl⟩ := c_six hbox
  obtain ⟨⟨r0, r1, r2, r3, r4, r5⟩, ⟨q0, q1, q2, q3, q4, q5⟩, hrl⟩ := c_six hres
  have HW := Lib.hid hW2
  have HB := Lib.hid hB2
  have HZ := Lib.hid hzW
  have HBR := Lib.hid (And.intro hres hbox)
  have HT := Lib.hid (tin_kept ht hB2)
  clear hW2 hB2 hzW hbox hres ht
  go_enter Try.func40, Try.ntmps40
  go_upto_region 2 with fail
  rw [← HW.out]
  go_upto_region 7 with fail
  obtain ⟨W3, hW3⟩ : ∃ W3, W3 = W2.alloc (.cells #[.int .i64 62, .int .i64 y.a, .int .i64 0, .int .i64 y.m, .string ⟨#[]⟩, .slice none 0 0] 27) := ⟨_, rfl⟩
  have hB3 : Below W2.heap.size W2 W3 := by rw [hW3]; exact c_box W2 _
  have hout : W3.heap[W2.heap.size]? = some (.cells #[.int .i64 62, .int .i64 y.a, .int .i64 0, .int .i64 y.m, .string ⟨#[]⟩, .slice none 0 0] 27 (0, 0)) := by rw [hW3]; exact heap_alloc_new W2 _
  have hz3 : W3.heap.size = W2.heap.size + 1 := by rw [hW3]; simp
  obtain ⟨g9, hg9⟩ : ∃ g9, g9 = W2.heap.size := ⟨_, rfl⟩
  rw [← hW3, ← hg9]
  rw [← hg9] at hout
  have hbox3 := c_kept hB3 (c_lt HBR.out.2) HBR.out.2
  have hres3 := c_kept hB3 (c_lt HBR.out.1) HBR.out.1
  have HB3 := Lib.hid (c_thr HB.out hB3 HB.out.size)
  have HT3 := Lib.hid (tin_kept HT.out hB3)
  have HBR3 := Lib.hid (And.intro hres3 (And.intro hbox3 hout))
  have HZ3 := Lib.hid (show w.heap.size + 3 ≤ W3.heap.size ∧ g9 = W2.heap.size ∧ W3.heap.size = g9 + 1 ∧ w.heap.size + 2 ≤ g9 from by have := HZ.out; omega)
  clear b0 b1 b2 b3 b4 b5 r0 r1 r2 r3 r4 r5 q0 q1 q2 q3 q4 q5 hxl hrl
  obtain ⟨⟨b0, b1, b2, b3, b4, b5⟩, -, hxl⟩ := c_six hbox3
  obtain ⟨⟨r0, r1, r2, r3, r4, r5⟩, ⟨q0, q1, q2, q3, q4, q5⟩, hrl⟩ := c_six hres3
  obtain ⟨⟨t0, t1, t2, t3, t4, t5⟩, ⟨u0, u1, u2, u3, u4, u5⟩, htl⟩ := c_six hout
  clear hW3 hB3 hout hz3 hg9 hbox3 hres3
  go_wp2
  refine bodyPost_ret (v := .tuple #[.agg #[.int .i64 62, .int .i64 y.a, .int .i64 0, .int .i64 y.m, .string ⟨#[]⟩, .slice none 0 0], .int .i64 24]) (by simp [results, Try.results40, go_sem, r0, r1, r2, r3, r4, r5]) rfl ?_
  exact ⟨rfl, 62, y.a, 0, y.m, ⟨#[]⟩, none, 0, 0, rfl, c_st6 HB3.out (by omega)⟩
end Go.Proofs.Ytjnlifghobgkcaa
