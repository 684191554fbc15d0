/-
  rest of the reference at this translation: its refusals.
-/
import Derived.Test.YtjnlifghobgkcaaR2
namespace Go.Proofs.Ytjnlifghobgkcaa
open Go.RowKit

set_option linter.unusedVariables false in
set_option maxRecDepth 100000 in
set_option maxHeartbeats 1000000 in
theorem rest_deep (lo : Option Addr) (len lc i : Nat) (x : Tr) (xo : Option Addr) (xc h d : Nat) (w : World) (hlen : len ≤ 100000) (hi : i < len) (hh : h ≤ 100000) (hd : d ≤ 100000) (s : Bool) (h200 : 200 < d) : Calls Try.prog 43 #[.slice lo len lc, .int .i64 i, .agg #[.int .i64 x.op, .int .i64 x.a, .int .i64 x.n, .int .i64 x.m, .string x.s, .slice xo x.ks.length xc], .int .i64 h, .bool s, .int .i64 d] w (EAny w 10) := by
  have g1 : decide ((200 : Int) < (d : Int)) = true := decide_eq_true (by omega)
  obtain ⟨W2, hW2⟩ : ∃ W2, W2 = (w.alloc (.cells #[.int .i64 x.op, .int .i64 x.a, .int .i64 x.n, .int .i64 x.m, .string x.s, .slice xo x.ks.length xc] 27)).alloc (.cells #[.int .i64 0, .int .i64 0, .int .i64 0, .int .i64 0, .string ⟨#[]⟩, .slice none 0 0] 27) := ⟨_, rfl⟩
  have hB2 : Below w.heap.size w W2 := by rw [hW2]; exact c_box2 w _ _
  have hbox : W2.heap[w.heap.size]? = some (.cells #[.int .i64 x.op, .int .i64 x.a, .int .i64 x.n, .int .i64 x.m, .string x.s, .slice xo x.ks.length xc] 27 (0, 0)) := by rw [hW2]; exact c_new1 w _ _
  have hres : W2.heap[w.heap.size + 1]? = some (.cells #[.int .i64 0, .int .i64 0, .int .i64 0, .int .i64 0, .string ⟨#[]⟩, .slice none 0 0] 27 (0, 0)) := by rw [hW2]; exact c_new2 w _ _
  obtain ⟨⟨b0, b1, b2, b3, b4, b5⟩, -, hxl⟩ := c_six hbox
  obtain ⟨⟨r0, r1, r2, r3, r4, r5⟩, ⟨q0, q1, q2, q3, q4, q5⟩, hrl⟩ := c_six hres
  have HW := Lib.hid hW2
  have HB := Lib.hid hB2
  have HBR := Lib.hid (And.intro hbox hres)
  clear hW2 hB2 hbox hres
  go_enter Try.func43, Try.ntmps43
  go_upto_region 1 with fail
  rw [← HW.out]
  go_wp2
  refine bodyPost_ret (v := .tuple #[.agg #[.int .i64 0, .int .i64 0, .int .i64 0, .int .i64 0, .string ⟨#[]⟩, .slice none 0 0], .int .i64 10]) (by simp [results, Try.results43, go_sem, r0, r1, r2, r3, r4, r5]) rfl ?_
  exact ⟨rfl, 0, 0, 0, 0, ⟨#[]⟩, none, 0, 0, rfl, c_st6 HB.out (by omega)⟩
set_option linter.unusedVariables false in
set_option maxRecDepth 100000 in
set_option maxHeartbeats 1000000 in
theorem rest_last (lo : Option Addr) (len lc i : Nat) (x : Tr) (xo : Option Addr) (xc h d : Nat) (w : World) (hlen : len ≤ 100000) (hi : i < len) (hh : h ≤ 100000) (hd : d ≤ 100000) (s : Bool) (h200 : ¬ 200 < d) (hl : ¬ i + 1 = len) : Calls Try.prog 43 #[.slice lo len lc, .int .i64 i, .agg #[.int .i64 x.op, .int .i64 x.a, .int .i64 x.n, .int .i64 x.m, .string x.s, .slice xo x.ks.length xc], .int .i64 h, .bool s, .int .i64 d] w (EAny w 24) := by
  have g1 : decide ((200 : Int) < (d : Int)) = false := decide_eq_false (by omega)
  have g2 : ((i : Int) != (len : Int) - 1) = true := by simp only [bne_iff_ne]; omega
  obtain ⟨W2, hW2⟩ : ∃ W2, W2 = (w.alloc (.cells #[.int .i64 x.op, .int .i64 x.a, .int .i64 x.n, .int .i64 x.m, .string x.s, .slice xo x.ks.length xc] 27)).alloc (.cells #[.int .i64 0, .int .i64 0, .int .i64 0, .int .i64 0, .string ⟨#[]⟩, .slice none 0 0] 27) := ⟨_, rfl⟩
  have hB2 : Below w.heap.size w W2 := by rw [hW2]; exact c_box2 w _ _
  have hbox : W2.heap[w.heap.size]? = some (.cells #[.int .i64 x.op, .int .i64 x.a, .int .i64 x.n, .int .i64 x.m, .string x.s, .slice xo x.ks.length xc] 27 (0, 0)) := by rw [hW2]; exact c_new1 w _ _
  have hres : W2.heap[w.heap.size + 1]? = some (.cells #[.int .i64 0, .int .i64 0, .int .i64 0, .int .i64 0, .string ⟨#[]⟩, .slice none 0 0] 27 (0, 0)) := by rw [hW2]; exact c_new2 w _ _
  obtain ⟨⟨b0, b1, b2, b3, b4, b5⟩, -, hxl⟩ := c_six hbox
  obtain ⟨⟨r0, r1, r2, r3, r4, r5⟩, ⟨q0, q1, q2, q3, q4, q5⟩, hrl⟩ := c_six hres
  have HW := Lib.hid hW2
  have HB := Lib.hid hB2
  have HBR := Lib.hid (And.intro hbox hres)
  clear hW2 hB2 hbox hres
  go_enter Try.func43, Try.ntmps43
  go_upto_region 1 with fail
  rw [← HW.out]
  go_wp2
  refine bodyPost_ret (v := .tuple #[.agg #[.int .i64 0, .int .i64 0, .int .i64 0, .int .i64 0, .string ⟨#[]⟩, .slice none 0 0], .int .i64 24]) (by simp [results, Try.results43, go_sem, r0, r1, r2, r3, r4, r5]) rfl ?_
  exact ⟨rfl, 0, 0, 0, 0, ⟨#[]⟩, none, 0, 0, rfl, c_st6 HB.out (by omega)⟩
set_option linter.unusedVariables false in
set_option maxRecDepth 100000 in
set_option maxHeartbeats 1000000 in
theorem rest_has (lo : Option Addr) (len lc i : Nat) (x : Tr) (xo : Option Addr) (xc h d : Nat) (w : World) (hlen : len ≤ 100000) (hi : i < len) (hh : h ≤ 100000) (hd : d ≤ 100000) (s : Bool) (h200 : ¬ 200 < d) (hl : i + 1 = len) (hh1 : ¬ h = 1) : Calls Try.prog 43 #[.slice lo len lc, .int .i64 i, .agg #[.int .i64 x.op, .int .i64 x.a, .int .i64 x.n, .int .i64 x.m, .string x.s, .slice xo x.ks.length xc], .int .i64 h, .bool s, .int .i64 d] w (EAny w 24) := by
  have g1 : decide ((200 : Int) < (d : Int)) = false := decide_eq_false (by omega)
  have g2 : ((i : Int) != (len : Int) - 1) = false := by simp only [bne_eq_false_iff_eq]; omega
  have g3 : ((h : Int) != 1) = true := by simp only [bne_iff_ne]; omega
  clear hl hh1
  obtain ⟨W2, hW2⟩ : ∃ W2, W2 = (w.alloc (.cells #[.int .i64 x.op, .int .i64 x.a, .int .i64 x.n, .int .i64 x.m, .string x.s, .slice xo x.ks.length xc] 27)).alloc (.cells #[.int .i64 0, .int .i64 0, .int .i64 0, .int .i64 0, .string ⟨#[]⟩, .slice none 0 0] 27) := ⟨_, rfl⟩
  have hB2 : Below w.heap.size w W2 := by rw [hW2]; exact c_box2 w _ _
  have hbox : W2.heap[w.heap.size]? = some (.cells #[.int .i64 x.op, .int .i64 x.a, .int .i64 x.n, .int .i64 x.m, .string x.s, .slice xo x.ks.length xc] 27 (0, 0)) := by rw [hW2]; exact c_new1 w _ _
  have hres : W2.heap[w.heap.size + 1]? = some (.cells #[.int .i64 0, .int .i64 0, .int .i64 0, .int .i64 0, .string ⟨#[]⟩, .slice none 0 0] 27 (0, 0)) := by rw [hW2]; exact c_new2 w _ _
  obtain ⟨⟨b0, b1, b2, b3, b4, b5⟩, -, hxl⟩ := c_six hbox
  obtain ⟨⟨r0, r1, r2, r3, r4, r5⟩, ⟨q0, q1, q2, q3, q4, q5⟩, hrl⟩ := c_six hres
  have HW := Lib.hid hW2
  have HB := Lib.hid hB2
  have HBR := Lib.hid (And.intro hbox hres)
  clear hW2 hB2 hbox hres
  go_enter Try.func43, Try.ntmps43
  go_upto_region 1 with fail
  rw [← HW.out]
  go_wp2
  refine bodyPost_ret (v := .tuple #[.agg #[.int .i64 0, .int .i64 0, .int .i64 0, .int .i64 0, .string ⟨#[]⟩, .slice none 0 0], .int .i64 24]) (by simp [results, Try.results43, go_sem, r0, r1, r2, r3, r4, r5]) rfl ?_
  exact ⟨rfl, 0, 0, 0, 0, ⟨#[]⟩, none, 0, 0, rfl, c_st6 HB.out (by omega)⟩
set_option linter.unusedVariables false in
set_option maxRecDepth 100000 in
set_option maxHeartbeats 1000000 in
theorem rest_sdeep (lo : Option Addr) (len lc i : Nat) (x : Tr) (xo : Option Addr) (xc d : Nat) (w : World) (hlen : len ≤ 100000) (hi : i < len) (hd : d ≤ 100000) (h200 : ¬ 200 < d) (hl : i + 1 = len) (h201 : 200 < d + 1) : Calls Try.prog 43 #[.slice lo len lc, .int .i64 i, .agg #[.int .i64 x.op, .int .i64 x.a, .int .i64 x.n, .int .i64 x.m, .string x.s, .slice xo x.ks.length xc], .int .i64 1, .bool true, .int .i64 d] w (EAny w 10) := by
  have g1 : decide ((200 : Int) < (d : Int)) = false := decide_eq_false (by omega)
  have g2 : ((i : Int) != (len : Int) - 1) = false := by simp only [bne_eq_false_iff_eq]; omega
  have g3 : ((1 : Int) != 1) = false := rfl
  have g4 : decide ((200 : Int) < (d : Int) + 1) = true := decide_eq_true (by omega)
  clear hl
  obtain ⟨W2, hW2⟩ : ∃ W2, W2 = (w.alloc (.cells #[.int .i64 x.op, .int .i64 x.a, .int .i64 x.n, .int .i64 x.m, .string x.s, .slice xo x.ks.length xc] 27)).alloc (.cells #[.int .i64 0, .int .i64 0, .int .i64 0, .int .i64 0, .string ⟨#[]⟩, .slice none 0 0] 27) := ⟨_, rfl⟩
  have hB2 : Below w.heap.size w W2 := by rw [hW2]; exact c_box2 w _ _
  have hbox : W2.heap[w.heap.size]? = some (.cells #[.int .i64 x.op, .int .i64 x.a, .int .i64 x.n, .int .i64 x.m, .string x.s, .slice xo x.ks.length xc] 27 (0, 0)) := by rw [hW2]; exact c_new1 w _ _
  have hres : W2.heap[w.heap.size + 1]? = some (.cells #[.int .i64 0, .int .i64 0, .int .i64 0, .int .i64 0, .string ⟨#[]⟩, .slice none 0 0] 27 (0, 0)) := by rw [hW2]; exact c_new2 w _ _
  obtain ⟨⟨b0, b1, b2, b3, b4, b5⟩, -, hxl⟩ := c_six hbox
  obtain ⟨⟨r0, r1, r2, r3, r4, r5⟩, ⟨q0, q1, q2, q3, q4, q5⟩, hrl⟩ := c_six hres
  have HW := Lib.hid hW2
  have HB := Lib.hid hB2
  have HBR := Lib.hid (And.intro hbox hres)
  clear hW2 hB2 hbox hres
  go_enter Try.func43, Try.ntmps43
  go_upto_region 1 with fail
  rw [← HW.out]
  go_wp2
  refine bodyPost_ret (v := .tuple #[.agg #[.int .i64 0, .int .i64 0, .int .i64 0, .int .i64 0, .string ⟨#[]⟩, .slice none 0 0], .int .i64 10]) (by simp [results, Try.results43, go_sem, r0, r1, r2, r3, r4, r5]) rfl ?_
  exact ⟨rfl, 0, 0, 0, 0, ⟨#[]⟩, none, 0, 0, rfl, c_st6 HB.out (by omega)⟩
set_option linter.unusedVariables false in
set_option maxRecDepth 100000 in
set_option maxHeartbeats 1000000 in
theorem rest_star (lo : Option Addr) (len lc i : Nat) (x : Tr) (xo : Option Addr) (xc d : Nat) (w : World) (hlen : len ≤ 100000) (hi : i < len) (hd : d ≤ 100000) (h200 : ¬ 200 < d) (hl : i + 1 = len) (h201 : ¬ 200 < d + 1) (hx : tgtB x = false) : Calls Try.prog 43 #[.slice lo len lc, .int .i64 i, .agg #[.int .i64 x.op, .int .i64 x.a, .int .i64 x.n, .int .i64 x.m, .string x.s, .slice xo x.ks.length xc], .int .i64 1, .bool true, .int .i64 d] w (EAny w 24) := by
  have g1 : decide ((200 : Int) < (d : Int)) = false := decide_eq_false (by omega)
  have g2 : ((i : Int) != (len : Int) - 1) = false := by simp only [bne_eq_false_iff_eq]; omega
  have g3 : ((1 : Int) != 1) = false := rfl
  have g4 : decide ((200 : Int) < (d : Int) + 1) = false := decide_eq_false (by omega)
  have HM := Lib.hid (fun W => rtarget_any x xo x.ks.length xc W)
  rw [hx] at HM
  clear hl hx
  obtain ⟨W2, hW2⟩ : ∃ W2, W2 = (w.alloc (.cells #[.int .i64 x.op, .int .i64 x.a, .int .i64 x.n, .int .i64 x.m, .string x.s, .slice xo x.ks.length xc] 27)).alloc (.cells #[.int .i64 0, .int .i64 0, .int .i64 0, .int .i64 0, .string ⟨#[]⟩, .slice none 0 0] 27) := ⟨_, rfl⟩
  have hB2 : Below w.heap.size w W2 := by rw [hW2]; exact c_box2 w _ _
  have hbox : W2.heap[w.heap.size]? = some (.cells #[.int .i64 x.op, .int .i64 x.a, .int .i64 x.n, .int .i64 x.m, .string x.s, .slice xo x.ks.length xc] 27 (0, 0)) := by rw [hW2]; exact c_new1 w _ _
  have hres : W2.heap[w.heap.size + 1]? = some (.cells #[.int .i64 0, .int .i64 0, .int .i64 0, .int .i64 0, .string ⟨#[]⟩, .slice none 0 0] 27 (0, 0)) := by rw [hW2]; exact c_new2 w _ _
  obtain ⟨⟨b0, b1, b2, b3, b4, b5⟩, -, hxl⟩ := c_six hbox
  obtain ⟨⟨r0, r1, r2, r3, r4, r5⟩, ⟨q0, q1, q2, q3, q4, q5⟩, hrl⟩ := c_six hres
  have HW := Lib.hid hW2
  have HB := Lib.hid hB2
  have HBR := Lib.hid (And.intro hbox hres)
  clear hW2 hB2 hbox hres
  go_enter Try.func43, Try.ntmps43
  go_upto_region 1 with fail
  rw [← HW.out]
  go_wp2_with fail
  refine (HM.out _).mono ?_
  rintro e w5 ⟨rfl, hB5⟩
  obtain ⟨⟨r0, r1, r2, r3, r4, r5⟩, ⟨q0, q1, q2, q3, q4, q5⟩, hrl⟩ := c_six (c_kept hB5 (c_lt HBR.out.2) HBR.out.2)
  have HB := Lib.hid (c_thr HB.out hB5 HB.out.size)
  clear hB5
  go_wp2
  refine bodyPost_ret (v := .tuple #[.agg #[.int .i64 0, .int .i64 0, .int .i64 0, .int .i64 0, .string ⟨#[]⟩, .slice none 0 0], .int .i64 24]) (by simp [results, Try.results43, go_sem, r0, r1, r2, r3, r4, r5]) rfl ?_
  exact ⟨rfl, 0, 0, 0, 0, ⟨#[]⟩, none, 0, 0, rfl, c_st6 HB.out (by omega)⟩
end Go.Proofs.Ytjnlifghobgkcaa
