/-
  names of the reference at this translation: its parts.
-/
import Derived.Test.YtjnlifghobgkcaaE2
namespace Go.Proofs.Ytjnlifghobgkcaa
open Go.RowKit

set_option linter.unusedVariables false in
set_option maxRecDepth 100000 in
set_option maxHeartbeats 1000000 in
theorem nm_a (t : Tr) (ao : Option Addr) (cap : Nat) (w : World) (hks : t.ks.length ≤ 100000) (ht : TIn w All t (.slice ao t.ks.length cap)) (g51 : (t.op == 51) = true)  : Calls Try.prog 29 #[.agg #[.int .i64 t.op, .int .i64 t.a, .int .i64 t.n, .int .i64 t.m, .string t.s, .slice ao t.ks.length cap]] w (BPost w false) := by
  obtain ⟨W1, hW1⟩ : ∃ W1, W1 = w.alloc (.cells #[.int .i64 t.op, .int .i64 t.a, .int .i64 t.n, .int .i64 t.m, .string t.s, .slice ao t.ks.length cap] 27) := ⟨_, rfl⟩
  have hB1 : Below w.heap.size w W1 := by rw [hW1]; exact c_box w _
  have hbox : W1.heap[w.heap.size]? = some (.cells #[.int .i64 t.op, .int .i64 t.a, .int .i64 t.n, .int .i64 t.m, .string t.s, .slice ao t.ks.length cap] 27 (0, 0)) := by rw [hW1]; exact heap_alloc_new w _
  have hz1 : W1.heap.size = w.heap.size + 1 := by rw [hW1]; simp
  have HW := Lib.hid hW1
  have HX := Lib.hid (And.intro hB1 hbox)
  obtain ⟨⟨b0, b1, b2, b3, b4, b5⟩, -, hxl⟩ := c_six hbox
  clear ht hW1 hB1 hbox hz1
  try clear hl
  go_enter Try.func29, Try.ntmps29
  go_upto_region 1 with fail
  rw [← HW.out]
  go_wp2
  go_ret
  exact ⟨rfl, HX.out.1⟩
set_option linter.unusedVariables false in
set_option maxRecDepth 100000 in
set_option maxHeartbeats 1000000 in
theorem nm_b (t : Tr) (ao : Option Addr) (cap : Nat) (w : World) (hks : t.ks.length ≤ 100000) (ht : TIn w All t (.slice ao t.ks.length cap)) (g51 : (t.op == 51) = false) (g52 : (t.op == 52) = true)  : Calls Try.prog 29 #[.agg #[.int .i64 t.op, .int .i64 t.a, .int .i64 t.n, .int .i64 t.m, .string t.s, .slice ao t.ks.length cap]] w (BPost w false) := by
  obtain ⟨W1, hW1⟩ : ∃ W1, W1 = w.alloc (.cells #[.int .i64 t.op, .int .i64 t.a, .int .i64 t.n, .int .i64 t.m, .string t.s, .slice ao t.ks.length cap] 27) := ⟨_, rfl⟩
  have hB1 : Below w.heap.size w W1 := by rw [hW1]; exact c_box w _
  have hbox : W1.heap[w.heap.size]? = some (.cells #[.int .i64 t.op, .int .i64 t.a, .int .i64 t.n, .int .i64 t.m, .string t.s, .slice ao t.ks.length cap] 27 (0, 0)) := by rw [hW1]; exact heap_alloc_new w _
  have hz1 : W1.heap.size = w.heap.size + 1 := by rw [hW1]; simp
  have HW := Lib.hid hW1
  have HX := Lib.hid (And.intro hB1 hbox)
  obtain ⟨⟨b0, b1, b2, b3, b4, b5⟩, -, hxl⟩ := c_six hbox
  clear ht hW1 hB1 hbox hz1
  try clear hl
  go_enter Try.func29, Try.ntmps29
  go_upto_region 1 with fail
  rw [← HW.out]
  go_wp2
  go_ret
  exact ⟨rfl, HX.out.1⟩
set_option linter.unusedVariables false in
set_option maxRecDepth 100000 in
set_option maxHeartbeats 1000000 in
theorem nm_c (t : Tr) (ao : Option Addr) (cap : Nat) (w : World) (hks : t.ks.length ≤ 100000) (ht : TIn w All t (.slice ao t.ks.length cap)) (g51 : (t.op == 51) = false) (g52 : (t.op == 52) = false) (g62 : (t.op == 62) = true) (hl : t.ks.length < 2) : Calls Try.prog 29 #[.agg #[.int .i64 t.op, .int .i64 t.a, .int .i64 t.n, .int .i64 t.m, .string t.s, .slice ao t.ks.length cap]] w (BPost w true) := by
  have gl : decide ((t.ks.length : Int) < 2) = true := decide_eq_true (by omega)
  obtain ⟨W1, hW1⟩ : ∃ W1, W1 = w.alloc (.cells #[.int .i64 t.op, .int .i64 t.a, .int .i64 t.n, .int .i64 t.m, .string t.s, .slice ao t.ks.length cap] 27) := ⟨_, rfl⟩
  have hB1 : Below w.heap.size w W1 := by rw [hW1]; exact c_box w _
  have hbox : W1.heap[w.heap.size]? = some (.cells #[.int .i64 t.op, .int .i64 t.a, .int .i64 t.n, .int .i64 t.m, .string t.s, .slice ao t.ks.length cap] 27 (0, 0)) := by rw [hW1]; exact heap_alloc_new w _
  have hz1 : W1.heap.size = w.heap.size + 1 := by rw [hW1]; simp
  have HW := Lib.hid hW1
  have HX := Lib.hid (And.intro hB1 hbox)
  obtain ⟨⟨b0, b1, b2, b3, b4, b5⟩, -, hxl⟩ := c_six hbox
  clear ht hW1 hB1 hbox hz1
  try clear hl
  go_enter Try.func29, Try.ntmps29
  go_upto_region 1 with fail
  rw [← HW.out]
  go_wp2
  go_ret
  exact ⟨rfl, HX.out.1⟩
set_option linter.unusedVariables false in
set_option maxRecDepth 100000 in
set_option maxHeartbeats 1000000 in
theorem nm_d (t : Tr) (ao : Option Addr) (cap : Nat) (w : World) (hks : t.ks.length ≤ 100000) (ht : TIn w All t (.slice ao t.ks.length cap)) (g51 : (t.op == 51) = false) (g52 : (t.op == 52) = false) (g62 : (t.op == 62) = false) (g63 : (t.op == 63) = true) (hl : t.ks.length = 0) : Calls Try.prog 29 #[.agg #[.int .i64 t.op, .int .i64 t.a, .int .i64 t.n, .int .i64 t.m, .string t.s, .slice ao t.ks.length cap]] w (BPost w true) := by
  have gl : ((t.ks.length : Int) == 0) = true := by rw [hl]; rfl
  have gl2 : decide (t.ks = []) = true := by simp [List.eq_nil_of_length_eq_zero hl]
  obtain ⟨W1, hW1⟩ : ∃ W1, W1 = w.alloc (.cells #[.int .i64 t.op, .int .i64 t.a, .int .i64 t.n, .int .i64 t.m, .string t.s, .slice ao t.ks.length cap] 27) := ⟨_, rfl⟩
  have hB1 : Below w.heap.size w W1 := by rw [hW1]; exact c_box w _
  have hbox : W1.heap[w.heap.size]? = some (.cells #[.int .i64 t.op, .int .i64 t.a, .int .i64 t.n, .int .i64 t.m, .string t.s, .slice ao t.ks.length cap] 27 (0, 0)) := by rw [hW1]; exact heap_alloc_new w _
  have hz1 : W1.heap.size = w.heap.size + 1 := by rw [hW1]; simp
  have HW := Lib.hid hW1
  have HX := Lib.hid (And.intro hB1 hbox)
  obtain ⟨⟨b0, b1, b2, b3, b4, b5⟩, -, hxl⟩ := c_six hbox
  clear ht hW1 hB1 hbox hz1
  try clear hl
  go_enter Try.func29, Try.ntmps29
  go_upto_region 1 with fail
  rw [← HW.out]
  go_wp2
  go_ret
  exact ⟨rfl, HX.out.1⟩
set_option linter.unusedVariables false in
set_option maxRecDepth 100000 in
set_option maxHeartbeats 1000000 in
theorem nm_e (t : Tr) (ao : Option Addr) (cap : Nat) (w : World) (hks : t.ks.length ≤ 100000) (ht : TIn w All t (.slice ao t.ks.length cap)) (g51 : (t.op == 51) = false) (g52 : (t.op == 52) = false) (g62 : (t.op == 62) = false) (g63 : (t.op == 63) = false) (g64 : (t.op == 64) = true) (hl : t.ks.length = 0) : Calls Try.prog 29 #[.agg #[.int .i64 t.op, .int .i64 t.a, .int .i64 t.n, .int .i64 t.m, .string t.s, .slice ao t.ks.length cap]] w (BPost w true) := by
  have gl : ((t.ks.length : Int) == 0) = true := by rw [hl]; rfl
  have gl2 : decide (t.ks = []) = true := by simp [List.eq_nil_of_length_eq_zero hl]
  obtain ⟨W1, hW1⟩ : ∃ W1, W1 = w.alloc (.cells #[.int .i64 t.op, .int .i64 t.a, .int .i64 t.n, .int .i64 t.m, .string t.s, .slice ao t.ks.length cap] 27) := ⟨_, rfl⟩
  have hB1 : Below w.heap.size w W1 := by rw [hW1]; exact c_box w _
  have hbox : W1.heap[w.heap.size]? = some (.cells #[.int .i64 t.op, .int .i64 t.a, .int .i64 t.n, .int .i64 t.m, .string t.s, .slice ao t.ks.length cap] 27 (0, 0)) := by rw [hW1]; exact heap_alloc_new w _
  have hz1 : W1.heap.size = w.heap.size + 1 := by rw [hW1]; simp
  have HW := Lib.hid hW1
  have HX := Lib.hid (And.intro hB1 hbox)
  obtain ⟨⟨b0, b1, b2, b3, b4, b5⟩, -, hxl⟩ := c_six hbox
  clear ht hW1 hB1 hbox hz1
  try clear hl
  go_enter Try.func29, Try.ntmps29
  go_upto_region 1 with fail
  rw [← HW.out]
  go_wp2
  go_ret
  exact ⟨rfl, HX.out.1⟩
set_option linter.unusedVariables false in
set_option maxRecDepth 100000 in
set_option maxHeartbeats 1000000 in
theorem nm_f (t : Tr) (ao : Option Addr) (cap : Nat) (w : World) (hks : t.ks.length ≤ 100000) (ht : TIn w All t (.slice ao t.ks.length cap)) (g51 : (t.op == 51) = false) (g52 : (t.op == 52) = false) (g62 : (t.op == 62) = false) (g63 : (t.op == 63) = false) (g64 : (t.op == 64) = false) (g60 : (t.op == 60) = false) (g61 : (t.op == 61) = false)  : Calls Try.prog 29 #[.agg #[.int .i64 t.op, .int .i64 t.a, .int .i64 t.n, .int .i64 t.m, .string t.s, .slice ao t.ks.length cap]] w (BPost w true) := by
  obtain ⟨W1, hW1⟩ : ∃ W1, W1 = w.alloc (.cells #[.int .i64 t.op, .int .i64 t.a, .int .i64 t.n, .int .i64 t.m, .string t.s, .slice ao t.ks.length cap] 27) := ⟨_, rfl⟩
  have hB1 : Below w.heap.size w W1 := by rw [hW1]; exact c_box w _
  have hbox : W1.heap[w.heap.size]? = some (.cells #[.int .i64 t.op, .int .i64 t.a, .int .i64 t.n, .int .i64 t.m, .string t.s, .slice ao t.ks.length cap] 27 (0, 0)) := by rw [hW1]; exact heap_alloc_new w _
  have hz1 : W1.heap.size = w.heap.size + 1 := by rw [hW1]; simp
  have HW := Lib.hid hW1
  have HX := Lib.hid (And.intro hB1 hbox)
  obtain ⟨⟨b0, b1, b2, b3, b4, b5⟩, -, hxl⟩ := c_six hbox
  clear ht hW1 hB1 hbox hz1
  try clear hl
  go_enter Try.func29, Try.ntmps29
  go_upto_region 1 with fail
  rw [← HW.out]
  go_wp2
  go_ret
  exact ⟨rfl, HX.out.1⟩
set_option linter.unusedVariables false in
set_option maxRecDepth 100000 in
set_option maxHeartbeats 1000000 in
theorem nm_g (P : Tr → Bool) (t : Tr) (ao : Option Addr) (cap : Nat) (w : World) (hks : t.ks.length ≤ 100000) (ht : TIn w All t (.slice ao t.ks.length cap)) (g51 : (t.op == 51) = false) (g52 : (t.op == 52) = false) (g62 : (t.op == 62) = true)  (x : Tr) (hx : t.ks[1]? = some x) (HI : Hid (∀ (i : Nat) (x : Tr), t.ks[i]? = some x → ∀ (ao : Option Addr) (cap : Nat) (W : World), TIn W All x (.slice ao x.ks.length cap) → Calls Try.prog 29 #[.agg #[.int .i64 x.op, .int .i64 x.a, .int .i64 x.n, .int .i64 x.m, .string x.s, .slice ao x.ks.length cap]] W (BPost W (P x)))) : Calls Try.prog 29 #[.agg #[.int .i64 t.op, .int .i64 t.a, .int .i64 t.n, .int .i64 t.m, .string t.s, .slice ao t.ks.length cap]] w (BPost w (P x)) := by
  obtain ⟨bb, oo, xo, xl, xc, rfl, hbb, -, hcc, hyt⟩ := kidS ht hx
  obtain rfl := tin_len hyt
  have hl1 := (List.getElem?_eq_some_iff.1 hx).1
  have gl : decide ((t.ks.length : Int) < 2) = false := decide_eq_false (by omega)
  obtain ⟨W1, hW1⟩ : ∃ W1, W1 = w.alloc (.cells #[.int .i64 t.op, .int .i64 t.a, .int .i64 t.n, .int .i64 t.m, .string t.s, .slice (some ⟨bb, oo, none⟩) t.ks.length cap] 27) := ⟨_, rfl⟩
  have hB1 : Below w.heap.size w W1 := by rw [hW1]; exact c_box w _
  have hbox : W1.heap[w.heap.size]? = some (.cells #[.int .i64 t.op, .int .i64 t.a, .int .i64 t.n, .int .i64 t.m, .string t.s, .slice (some ⟨bb, oo, none⟩) t.ks.length cap] 27 (0, 0)) := by rw [hW1]; exact heap_alloc_new w _
  have hz1 : W1.heap.size = w.heap.size + 1 := by rw [hW1]; simp
  have HW := Lib.hid hW1
  have HX := Lib.hid (And.intro hB1 hbox)
  have hbb1 : bb < W1.heap.size := by omega
  obtain ⟨⟨b0, b1, b2, b3, b4, b5⟩, -, hxl⟩ := c_six hbox
  obtain ⟨c0, c1, c2, c3, c4, c5⟩ := ncells_kept (hB1.block bb hbb) hcc
  try simp only [Nat.zero_mul, Nat.add_zero] at c0 c1 c2 c3 c4 c5
  have HM := Lib.hid (HI.out 1 x hx xo xc W1 (tin_kept hyt hB1))
  have hl2 : (1 : Int) < (t.ks.length : Int) := by omega
  obtain ⟨c, hc⟩ : ∃ c, c = P x := ⟨_, rfl⟩
  rw [← hc] at HM ⊢
  clear ht hW1 hB1 hbox hyt hcc hx HI hz1 hc
  go_enter Try.func29, Try.ntmps29
  go_upto_region 1 with fail
  rw [← HW.out]
  go_wp2_with fail
  refine HM.out.mono ?_
  rintro e w4 ⟨rfl, hB4⟩
  have HB4 := Lib.hid (c_thr HX.out.1 hB4 HX.out.1.size)
  clear hB4
  go_wp2
  go_ret
  exact ⟨rfl, HB4.out⟩
set_option linter.unusedVariables false in
set_option maxRecDepth 100000 in
set_option maxHeartbeats 1000000 in
theorem nm_h (P : Tr → Bool) (t : Tr) (ao : Option Addr) (cap : Nat) (w : World) (hks : t.ks.length ≤ 100000) (ht : TIn w All t (.slice ao t.ks.length cap)) (g51 : (t.op == 51) = false) (g52 : (t.op == 52) = false) (g62 : (t.op == 62) = false) (g63 : (t.op == 63) = true)  (x : Tr) (hx : t.ks[0]? = some x) (HI : Hid (∀ (i : Nat) (x : Tr), t.ks[i]? = some x → ∀ (ao : Option Addr) (cap : Nat) (W : World), TIn W All x (.slice ao x.ks.length cap) → Calls Try.prog 29 #[.agg #[.int .i64 x.op, .int .i64 x.a, .int .i64 x.n, .int .i64 x.m, .string x.s, .slice ao x.ks.length cap]] W (BPost W (P x)))) : Calls Try.prog 29 #[.agg #[.int .i64 t.op, .int .i64 t.a, .int .i64 t.n, .int .i64 t.m, .string t.s, .slice ao t.ks.length cap]] w (BPost w (P x)) := by
  obtain ⟨bb, oo, xo, xl, xc, rfl, hbb, -, hcc, hyt⟩ := kidS ht hx
  obtain rfl := tin_len hyt
  have hl1 := (List.getElem?_eq_some_iff.1 hx).1
  have gl : ((t.ks.length : Int) == 0) = false := by simp only [beq_eq_false_iff_ne]; omega
  obtain ⟨W1, hW1⟩ : ∃ W1, W1 = w.alloc (.cells #[.int .i64 t.op, .int .i64 t.a, .int .i64 t.n, .int .i64 t.m, .string t.s, .slice (some ⟨bb, oo, none⟩) t.ks.length cap] 27) := ⟨_, rfl⟩
  have hB1 : Below w.heap.size w W1 := by rw [hW1]; exact c_box w _
  have hbox : W1.heap[w.heap.size]? = some (.cells #[.int .i64 t.op, .int .i64 t.a, .int .i64 t.n, .int .i64 t.m, .string t.s, .slice (some ⟨bb, oo, none⟩) t.ks.length cap] 27 (0, 0)) := by rw [hW1]; exact heap_alloc_new w _
  have hz1 : W1.heap.size = w.heap.size + 1 := by rw [hW1]; simp
  have HW := Lib.hid hW1
  have HX := Lib.hid (And.intro hB1 hbox)
  have hbb1 : bb < W1.heap.size := by omega
  obtain ⟨⟨b0, b1, b2, b3, b4, b5⟩, -, hxl⟩ := c_six hbox
  obtain ⟨c0, c1, c2, c3, c4, c5⟩ := ncells_kept (hB1.block bb hbb) hcc
  try simp only [Nat.zero_mul, Nat.add_zero] at c0 c1 c2 c3 c4 c5
  have HM := Lib.hid (HI.out 0 x hx xo xc W1 (tin_kept hyt hB1))
  have hl2 : (0 : Int) < (t.ks.length : Int) := by omega
  obtain ⟨c, hc⟩ : ∃ c, c = P x := ⟨_, rfl⟩
  rw [← hc] at HM ⊢
  clear ht hW1 hB1 hbox hyt hcc hx HI hz1 hc
  go_enter Try.func29, Try.ntmps29
  go_upto_region 1 with fail
  rw [← HW.out]
  go_wp2_with fail
  refine HM.out.mono ?_
  rintro e w4 ⟨rfl, hB4⟩
  have HB4 := Lib.hid (c_thr HX.out.1 hB4 HX.out.1.size)
  clear hB4
  go_wp2
  go_ret
  exact ⟨rfl, HB4.out⟩
set_option linter.unusedVariables false in
set_option maxRecDepth 100000 in
set_option maxHeartbeats 1000000 in
theorem nm_i (P : Tr → Bool) (t : Tr) (ao : Option Addr) (cap : Nat) (w : World) (hks : t.ks.length ≤ 100000) (ht : TIn w All t (.slice ao t.ks.length cap)) (g51 : (t.op == 51) = false) (g52 : (t.op == 52) = false) (g62 : (t.op == 62) = false) (g63 : (t.op == 63) = false) (g64 : (t.op == 64) = true)  (x : Tr) (hx : t.ks[0]? = some x) (HI : Hid (∀ (i : Nat) (x : Tr), t.ks[i]? = some x → ∀ (ao : Option Addr) (cap : Nat) (W : World), TIn W All x (.slice ao x.ks.length cap) → Calls Try.prog 29 #[.agg #[.int .i64 x.op, .int .i64 x.a, .int .i64 x.n, .int .i64 x.m, .string x.s, .slice ao x.ks.length cap]] W (BPost W (P x)))) : Calls Try.prog 29 #[.agg #[.int .i64 t.op, .int .i64 t.a, .int .i64 t.n, .int .i64 t.m, .string t.s, .slice ao t.ks.length cap]] w (BPost w (P x)) := by
  obtain ⟨bb, oo, xo, xl, xc, rfl, hbb, -, hcc, hyt⟩ := kidS ht hx
  obtain rfl := tin_len hyt
  have hl1 := (List.getElem?_eq_some_iff.1 hx).1
  have gl : ((t.ks.length : Int) == 0) = false := by simp only [beq_eq_false_iff_ne]; omega
  obtain ⟨W1, hW1⟩ : ∃ W1, W1 = w.alloc (.cells #[.int .i64 t.op, .int .i64 t.a, .int .i64 t.n, .int .i64 t.m, .string t.s, .slice (some ⟨bb, oo, none⟩) t.ks.length cap] 27) := ⟨_, rfl⟩
  have hB1 : Below w.heap.size w W1 := by rw [hW1]; exact c_box w _
  have hbox : W1.heap[w.heap.size]? = some (.cells #[.int .i64 t.op, .int .i64 t.a, .int .i64 t.n, .int .i64 t.m, .string t.s, .slice (some ⟨bb, oo, none⟩) t.ks.length cap] 27 (0, 0)) := by rw [hW1]; exact heap_alloc_new w _
  have hz1 : W1.heap.size = w.heap.size + 1 := by rw [hW1]; simp
  have HW := Lib.hid hW1
  have HX := Lib.hid (And.intro hB1 hbox)
  have hbb1 : bb < W1.heap.size := by omega
  obtain ⟨⟨b0, b1, b2, b3, b4, b5⟩, -, hxl⟩ := c_six hbox
  obtain ⟨c0, c1, c2, c3, c4, c5⟩ := ncells_kept (hB1.block bb hbb) hcc
  try simp only [Nat.zero_mul, Nat.add_zero] at c0 c1 c2 c3 c4 c5
  have HM := Lib.hid (HI.out 0 x hx xo xc W1 (tin_kept hyt hB1))
  have hl2 : (0 : Int) < (t.ks.length : Int) := by omega
  obtain ⟨c, hc⟩ : ∃ c, c = P x := ⟨_, rfl⟩
  rw [← hc] at HM ⊢
  clear ht hW1 hB1 hbox hyt hcc hx HI hz1 hc
  go_enter Try.func29, Try.ntmps29
  go_upto_region 1 with fail
  rw [← HW.out]
  go_wp2_with fail
  refine HM.out.mono ?_
  rintro e w4 ⟨rfl, hB4⟩
  have HB4 := Lib.hid (c_thr HX.out.1 hB4 HX.out.1.size)
  clear hB4
  go_wp2
  go_ret
  exact ⟨rfl, HB4.out⟩
structure RelM (w : World) (tl : List Tr) (P : Tr → Bool) (i : Value) (wr : World) : Prop where
  ex : ∃ k : Nat, i = .int .i64 k ∧ k ≤ tl.length ∧ (tl.take k).all P = true
  bel : Below w.heap.size w wr
set_option linter.unusedVariables false in
set_option maxRecDepth 100000 in
set_option maxHeartbeats 1000000 in
theorem nm_j (P : Tr → Bool) (t : Tr) (ao : Option Addr) (cap : Nat) (w : World) (hks : t.ks.length ≤ 100000) (ht : TIn w All t (.slice ao t.ks.length cap)) (g51 : (t.op == 51) = false) (g52 : (t.op == 52) = false) (g62 : (t.op == 62) = false) (g63 : (t.op == 63) = false) (g64 : (t.op == 64) = false) (g60 : (t.op == 60) = true)  (HI : Hid (∀ (i : Nat) (x : Tr), t.ks[i]? = some x → ∀ (ao : Option Addr) (cap : Nat) (W : World), TIn W All x (.slice ao x.ks.length cap) → Calls Try.prog 29 #[.agg #[.int .i64 x.op, .int .i64 x.a, .int .i64 x.n, .int .i64 x.m, .string x.s, .slice ao x.ks.length cap]] W (BPost W (P x)))) : Calls Try.prog 29 #[.agg #[.int .i64 t.op, .int .i64 t.a, .int .i64 t.n, .int .i64 t.m, .string t.s, .slice ao t.ks.length cap]] w (BPost w (t.ks.all P)) := by
  obtain ⟨W1, hW1⟩ : ∃ W1, W1 = w.alloc (.cells #[.int .i64 t.op, .int .i64 t.a, .int .i64 t.n, .int .i64 t.m, .string t.s, .slice ao t.ks.length cap] 27) := ⟨_, rfl⟩
  have hB1 : Below w.heap.size w W1 := by rw [hW1]; exact c_box w _
  have hbox : W1.heap[w.heap.size]? = some (.cells #[.int .i64 t.op, .int .i64 t.a, .int .i64 t.n, .int .i64 t.m, .string t.s, .slice ao t.ks.length cap] 27 (0, 0)) := by rw [hW1]; exact heap_alloc_new w _
  have hz1 : W1.heap.size = w.heap.size + 1 := by rw [hW1]; simp
  have HW := Lib.hid hW1
  have HX := Lib.hid (And.intro hB1 hbox)
  have HT := Lib.hid (tin_kept ht hB1)
  obtain ⟨⟨b0, b1, b2, b3, b4, b5⟩, -, hxl⟩ := c_six hbox
  obtain ⟨len, hle⟩ : ∃ len, len = t.ks.length := ⟨_, rfl⟩
  have HN := Lib.hid hle
  rw [← hle] at hks HT HX HW b5 ⊢
  obtain ⟨c, hc⟩ : ∃ c, c = t.ks.all P := ⟨_, rfl⟩
  have HC := Lib.hid hc
  rw [← hc]
  have HV : Hid (RelM W1 t.ks P (.int .i64 0) W1) := Lib.hid ⟨⟨0, rfl, Nat.zero_le _, by simp⟩, Below.refl _ _⟩
  clear ht hW1 hB1 hbox hz1 hle hc
  go_enter Try.func29, Try.ntmps29
  go_upto_region 1 with fail
  rw [← HW.out]
  go_wp2
  clear b0 b1 b2 b3 b4 b5
  go_loopw [3] (fun i wr => RelM W1 t.ks P i wr) (fun i _ => len - (intOf i).toNat)
  case atStart => exact HV.out
  case round =>
    clear HV
    obtain ⟨⟨k, rfl, hk, hall⟩, hB⟩ := hrel
    rw [← HN.out] at hk
    obtain ⟨⟨b0, b1, b2, b3, b4, b5⟩, -, hbl⟩ := c_six (c_kept hB (c_lt HX.out.2) HX.out.2)
    by_cases hkn : k < len
    · have g1 : decide ((k : Int) < (len : Int)) = true := decide_eq_true (by omega)
      have k1 : (k : Int) < (len : Int) := by omega
      obtain ⟨y, hy⟩ : ∃ y, t.ks[k]? = some y := ⟨_, List.getElem?_eq_getElem (by rw [← HN.out]; exact hkn)⟩
      obtain ⟨bb, oo, xo, xl, xc, rfl, hbb, -, hcc, hyt⟩ := kidS HT.out hy
      obtain rfl := tin_len hyt
      have hbr : bb < wr.heap.size := Nat.lt_of_lt_of_le hbb hB.size
      obtain ⟨c0, c1, c2, c3, c4, c5⟩ := ncells_kept (hB.block bb hbb) hcc
      have HM := Lib.hid (HI.out k y hy xo xc wr (tin_kept hyt hB))
      have HR := Lib.hid (And.intro hall (And.intro hy hB))
      obtain ⟨q, hq⟩ : ∃ q, q = P y := ⟨_, rfl⟩
      rw [← hq] at HM
      have HQ := Lib.hid hq
      clear hall hy hB hcc hyt hq
      go_wp2_with fail
      refine HM.out.mono ?_
      rintro e w4 ⟨rfl, hB4⟩
      have HB4 := Lib.hid (c_thr HR.out.2.2 hB4 HR.out.2.2.size)
      clear hB4 b0 b1 b2 b3 b4 b5 c0 c1 c2 c3 c4 c5
      cases q with
      | false =>
        have hf : c = false := by
          rw [HC.out, Bool.eq_false_iff]
          intro h
          have h2 := List.all_eq_true.1 h y (List.mem_of_getElem? HR.out.2.1)
          rw [← HQ.out] at h2
          cases h2
        have HF := Lib.hid hf
        clear hf
        go_wp2
        go_ret
        refine ⟨?_, c_thr HX.out.1 HB4.out HX.out.1.size⟩
        rw [HF.out]
        rfl
      | true =>
        have HST : Hid (RelM W1 t.ks P (.int .i64 ((k : Int) + 1)) w4) := Lib.hid ⟨⟨k + 1, by simp, by rw [← HN.out]; exact hkn, by rw [List.take_add_one, HR.out.2.1, List.all_append, HR.out.1]; simp [← HQ.out]⟩, HB4.out⟩
        go_wp2
        first
          | (go_roundw
             case rel => exact HST.out
             case measure => simp [intOf]; omega)
          | exact ⟨HST.out, by simp [intOf]; omega⟩
    · have g1 : decide ((k : Int) < (len : Int)) = false := decide_eq_false (by omega)
      rw [List.take_of_length_le (by rw [← HN.out]; omega), ← HC.out] at hall
      have HF := Lib.hid hall
      have HB := Lib.hid hB
      clear hB hall hk
      go_wp2
      go_ret
      refine ⟨?_, c_thr HX.out.1 HB.out HX.out.1.size⟩
      rw [HF.out]
      rfl
set_option linter.unusedVariables false in
set_option maxRecDepth 100000 in
set_option maxHeartbeats 1000000 in
theorem nm_k (P : Tr → Bool) (t : Tr) (ao : Option Addr) (cap : Nat) (w : World) (hks : t.ks.length ≤ 100000) (ht : TIn w All t (.slice ao t.ks.length cap)) (g51 : (t.op == 51) = false) (g52 : (t.op == 52) = false) (g62 : (t.op == 62) = false) (g63 : (t.op == 63) = false) (g64 : (t.op == 64) = false) (g60 : (t.op == 60) = false) (g61 : (t.op == 61) = true)  (HI : Hid (∀ (i : Nat) (x : Tr), t.ks[i]? = some x → ∀ (ao : Option Addr) (cap : Nat) (W : World), TIn W All x (.slice ao x.ks.length cap) → Calls Try.prog 29 #[.agg #[.int .i64 x.op, .int .i64 x.a, .int .i64 x.n, .int .i64 x.m, .string x.s, .slice ao x.ks.length cap]] W (BPost W (P x)))) : Calls Try.prog 29 #[.agg #[.int .i64 t.op, .int .i64 t.a, .int .i64 t.n, .int .i64 t.m, .string t.s, .slice ao t.ks.length cap]] w (BPost w (t.ks.all P)) := by
  obtain ⟨W1, hW1⟩ : ∃ W1, W1 = w.alloc (.cells #[.int .i64 t.op, .int .i64 t.a, .int .i64 t.n, .int .i64 t.m, .string t.s, .slice ao t.ks.length cap] 27) := ⟨_, rfl⟩
  have hB1 : Below w.heap.size w W1 := by rw [hW1]; exact c_box w _
  have hbox : W1.heap[w.heap.size]? = some (.cells #[.int .i64 t.op, .int .i64 t.a, .int .i64 t.n, .int .i64 t.m, .string t.s, .slice ao t.ks.length cap] 27 (0, 0)) := by rw [hW1]; exact heap_alloc_new w _
  have hz1 : W1.heap.size = w.heap.size + 1 := by rw [hW1]; simp
  have HW := Lib.hid hW1
  have HX := Lib.hid (And.intro hB1 hbox)
  have HT := Lib.hid (tin_kept ht hB1)
  obtain ⟨⟨b0, b1, b2, b3, b4, b5⟩, -, hxl⟩ := c_six hbox
  obtain ⟨len, hle⟩ : ∃ len, len = t.ks.length := ⟨_, rfl⟩
  have HN := Lib.hid hle
  rw [← hle] at hks HT HX HW b5 ⊢
  obtain ⟨c, hc⟩ : ∃ c, c = t.ks.all P := ⟨_, rfl⟩
  have HC := Lib.hid hc
  rw [← hc]
  have HV : Hid (RelM W1 t.ks P (.int .i64 0) W1) := Lib.hid ⟨⟨0, rfl, Nat.zero_le _, by simp⟩, Below.refl _ _⟩
  clear ht hW1 hB1 hbox hz1 hle hc
  go_enter Try.func29, Try.ntmps29
  go_upto_region 1 with fail
  rw [← HW.out]
  go_wp2
  clear b0 b1 b2 b3 b4 b5
  go_loopw [3] (fun i wr => RelM W1 t.ks P i wr) (fun i _ => len - (intOf i).toNat)
  case atStart => exact HV.out
  case round =>
    clear HV
    obtain ⟨⟨k, rfl, hk, hall⟩, hB⟩ := hrel
    rw [← HN.out] at hk
    obtain ⟨⟨b0, b1, b2, b3, b4, b5⟩, -, hbl⟩ := c_six (c_kept hB (c_lt HX.out.2) HX.out.2)
    by_cases hkn : k < len
    · have g1 : decide ((k : Int) < (len : Int)) = true := decide_eq_true (by omega)
      have k1 : (k : Int) < (len : Int) := by omega
      obtain ⟨y, hy⟩ : ∃ y, t.ks[k]? = some y := ⟨_, List.getElem?_eq_getElem (by rw [← HN.out]; exact hkn)⟩
      obtain ⟨bb, oo, xo, xl, xc, rfl, hbb, -, hcc, hyt⟩ := kidS HT.out hy
      obtain rfl := tin_len hyt
      have hbr : bb < wr.heap.size := Nat.lt_of_lt_of_le hbb hB.size
      obtain ⟨c0, c1, c2, c3, c4, c5⟩ := ncells_kept (hB.block bb hbb) hcc
      have HM := Lib.hid (HI.out k y hy xo xc wr (tin_kept hyt hB))
      have HR := Lib.hid (And.intro hall (And.intro hy hB))
      obtain ⟨q, hq⟩ : ∃ q, q = P y := ⟨_, rfl⟩
      rw [← hq] at HM
      have HQ := Lib.hid hq
      clear hall hy hB hcc hyt hq
      go_wp2_with fail
      refine HM.out.mono ?_
      rintro e w4 ⟨rfl, hB4⟩
      have HB4 := Lib.hid (c_thr HR.out.2.2 hB4 HR.out.2.2.size)
      clear hB4 b0 b1 b2 b3 b4 b5 c0 c1 c2 c3 c4 c5
      cases q with
      | false =>
        have hf : c = false := by
          rw [HC.out, Bool.eq_false_iff]
          intro h
          have h2 := List.all_eq_true.1 h y (List.mem_of_getElem? HR.out.2.1)
          rw [← HQ.out] at h2
          cases h2
        have HF := Lib.hid hf
        clear hf
        go_wp2
        go_ret
        refine ⟨?_, c_thr HX.out.1 HB4.out HX.out.1.size⟩
        rw [HF.out]
        rfl
      | true =>
        have HST : Hid (RelM W1 t.ks P (.int .i64 ((k : Int) + 1)) w4) := Lib.hid ⟨⟨k + 1, by simp, by rw [← HN.out]; exact hkn, by rw [List.take_add_one, HR.out.2.1, List.all_append, HR.out.1]; simp [← HQ.out]⟩, HB4.out⟩
        go_wp2
        first
          | (go_roundw
             case rel => exact HST.out
             case measure => simp [intOf]; omega)
          | exact ⟨HST.out, by simp [intOf]; omega⟩
    · have g1 : decide ((k : Int) < (len : Int)) = false := decide_eq_false (by omega)
      rw [List.take_of_length_le (by rw [← HN.out]; omega), ← HC.out] at hall
      have HF := Lib.hid hall
      have HB := Lib.hid hB
      clear hB hall hk
      go_wp2
      go_ret
      refine ⟨?_, c_thr HX.out.1 HB.out HX.out.1.size⟩
      rw [HF.out]
      rfl
end Go.Proofs.Ytjnlifghobgkcaa
