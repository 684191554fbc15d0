/-
  Right on the tree of the example, x + 1.
-/
import Derived.Test.YtppliplalfpmaaaDoorRt4
import Derived.Test.YtppliplalfpmaaaDoorEach
namespace Go.Proofs.YtppliplalfpmaaaDoor
open Go.RowKit

theorem pt_flat {L : List PT} : ∀ {i j : Nat} {q : PT} {u : Value}, L[i]? = some q → (ptC q)[j]? = some u → (L.flatMap ptC)[i * 3 + j]? = some u := by
  have h3 : ∀ q, (ptC q).length = 3 := fun q => rfl
  induction L with
  | nil => intro i j t u h; simp at h
  | cons x r ih =>
    intro i j t u h hu
    have hj : j < 3 := by
      have := (List.getElem?_eq_some_iff.1 hu).1
      rw [h3] at this
      exact this
    rw [List.flatMap_cons]
    cases i with
    | zero =>
      simp at h
      subst h
      rw [List.getElem?_append_left (by rw [h3]; omega)]
      simpa using hu
    | succ i =>
      rw [List.getElem?_append_right (by rw [h3]; omega), h3]
      have e : (i + 1) * 3 + j - 3 = i * 3 + j := by omega
      rw [e]
      exact ih (by simpa using h) hu
theorem pts_of {W : World} {b n : Nat} {L : List PT} {T : TypeId} (h : W.heap[b]? = some (.cells (L.flatMap ptC).toArray T (0, 0))) (hn : n = L.length) : PtsIn W (.slice (some ⟨b, 0, none⟩) n n) L := by
  refine ⟨some ⟨b, 0, none⟩, n, by rw [hn], fun i q hq => ⟨b, 0, rfl, c_lt h, ?_, ?_, ?_⟩⟩
  · have := pt_flat hq (show (ptC q)[0]? = some _ from rfl)
    exact (Lib.cell_of_heap h _).trans (by simpa using this)
  · have := pt_flat hq (show (ptC q)[1]? = some _ from rfl)
    exact (Lib.cell_of_heap h _).trans (by simpa using this)
  · have := pt_flat hq (show (ptC q)[2]? = some _ from rfl)
    exact (Lib.cell_of_heap h _).trans (by simpa using this)
def nmT : Tr := .mk 34 0 0 0 ⟨#[120]⟩ []
def nuT : Tr := .mk 30 4 1 0 ⟨#[]⟩ []
def sumT : Tr := .mk 44 0 0 0 ⟨#[43]⟩ [nmT, nuT]
theorem ent_isExpr : ∀ (args : Array Value) (w : World), (callFunc 73 args).run Tryd.prog w = .ok (.enter 73 args) w := enters_of Tryd.func73 (by kernel_rfl) rfl
set_option linter.unusedVariables false in
set_option maxRecDepth 100000 in
set_option maxHeartbeats 2000000 in
theorem text_sum (k : Value) (w : World) : Calls Tryd.prog 41 #[.agg #[.int .i64 44, .int .i64 0, .int .i64 0, .int .i64 0, .string ⟨#[43]⟩, k]] w (RB true w) := by
  obtain ⟨W1, hW1⟩ : ∃ W1, W1 = w.alloc (.cells #[.int .i64 44, .int .i64 0, .int .i64 0, .int .i64 0, .string ⟨#[43]⟩, k] 24) := ⟨_, rfl⟩
  have hB1 : Below w.heap.size w W1 := by rw [hW1]; exact c_box w _
  have hx1 : W1.heap[w.heap.size]? = some (.cells #[.int .i64 44, .int .i64 0, .int .i64 0, .int .i64 0, .string ⟨#[43]⟩, k] 24 (0, 0)) := by rw [hW1]; exact heap_alloc_new w _
  obtain ⟨⟨b0, b1, b2, b3, b4, b5⟩, -, hxl⟩ := c_six hx1
  have HW := Lib.hid hW1
  have HB := Lib.hid hB1
  clear hB1 hW1 hx1
  go_enter Tryd.func41, Tryd.ntmps41
  go_upto_region 1 with fail
  rw [← HW.out]
  go_wp2_with fail
  refine (operator_any 44 ⟨#[43]⟩ _).mono ?_
  rintro e w2 ⟨rfl, hb2⟩
  have hv : operV 44 ⟨#[43]⟩ = true := by decide
  rw [hv]
  clear hv
  have HB2 := Lib.hid (c_thr HB.out hb2 HB.out.size)
  clear hb2
  go_wp2
  go_ret
  exact ⟨rfl, HB2.out⟩
set_option linter.unusedVariables false in
set_option maxRecDepth 100000 in
set_option maxHeartbeats 2000000 in
theorem text_nm (k : Value) (w : World) : Calls Tryd.prog 41 #[.agg #[.int .i64 34, .int .i64 0, .int .i64 0, .int .i64 0, .string ⟨#[120]⟩, k]] w (RB true w) := by
  obtain ⟨W1, hW1⟩ : ∃ W1, W1 = w.alloc (.cells #[.int .i64 34, .int .i64 0, .int .i64 0, .int .i64 0, .string ⟨#[120]⟩, k] 24) := ⟨_, rfl⟩
  have hB1 : Below w.heap.size w W1 := by rw [hW1]; exact c_box w _
  have hx1 : W1.heap[w.heap.size]? = some (.cells #[.int .i64 34, .int .i64 0, .int .i64 0, .int .i64 0, .string ⟨#[120]⟩, k] 24 (0, 0)) := by rw [hW1]; exact heap_alloc_new w _
  obtain ⟨⟨b0, b1, b2, b3, b4, b5⟩, -, hxl⟩ := c_six hx1
  have HW := Lib.hid hW1
  have HB := Lib.hid hB1
  clear hB1 hW1 hx1
  go_enter Tryd.func41, Tryd.ntmps41
  go_upto_region 1 with fail
  rw [← HW.out]
  go_wp2_with fail
  refine (isName_any ⟨#[120]⟩ _ (by decide)).mono ?_
  rintro e w2 ⟨rfl, rfl⟩
  have hv : nameV (⟨#[120]⟩ : ByteArray).data.toList = true := by decide
  rw [hv]
  clear hv
  go_wp2
  go_ret
  exact ⟨rfl, HB.out⟩
set_option linter.unusedVariables false in
set_option maxRecDepth 100000 in
set_option maxHeartbeats 2000000 in
theorem text_nu (k : Value) (w : World) : Calls Tryd.prog 41 #[.agg #[.int .i64 30, .int .i64 4, .int .i64 1, .int .i64 0, .string ⟨#[]⟩, k]] w (RB true w) := by
  obtain ⟨W1, hW1⟩ : ∃ W1, W1 = w.alloc (.cells #[.int .i64 30, .int .i64 4, .int .i64 1, .int .i64 0, .string ⟨#[]⟩, k] 24) := ⟨_, rfl⟩
  have hB1 : Below w.heap.size w W1 := by rw [hW1]; exact c_box w _
  have hx1 : W1.heap[w.heap.size]? = some (.cells #[.int .i64 30, .int .i64 4, .int .i64 1, .int .i64 0, .string ⟨#[]⟩, k] 24 (0, 0)) := by rw [hW1]; exact heap_alloc_new w _
  obtain ⟨⟨b0, b1, b2, b3, b4, b5⟩, -, hxl⟩ := c_six hx1
  have HW := Lib.hid hW1
  have HB := Lib.hid hB1
  clear hB1 hW1 hx1
  go_enter Tryd.func41, Tryd.ntmps41
  go_upto_region 1 with fail
  rw [← HW.out]
  go_wp2
  go_ret
  exact ⟨rfl, HB.out⟩
set_option linter.unusedVariables false in
set_option maxRecDepth 100000 in
set_option maxHeartbeats 2000000 in
theorem inside_sum (k : Value) (w : World) : Calls Tryd.prog 44 #[.agg #[.int .i64 44, .int .i64 0, .int .i64 0, .int .i64 0, .string ⟨#[43]⟩, k]] w (RB true w) := by
  obtain ⟨W1, hW1⟩ : ∃ W1, W1 = w.alloc (.cells #[.int .i64 44, .int .i64 0, .int .i64 0, .int .i64 0, .string ⟨#[43]⟩, k] 24) := ⟨_, rfl⟩
  have hB1 : Below w.heap.size w W1 := by rw [hW1]; exact c_box w _
  have hx1 : W1.heap[w.heap.size]? = some (.cells #[.int .i64 44, .int .i64 0, .int .i64 0, .int .i64 0, .string ⟨#[43]⟩, k] 24 (0, 0)) := by rw [hW1]; exact heap_alloc_new w _
  obtain ⟨⟨b0, b1, b2, b3, b4, b5⟩, -, hxl⟩ := c_six hx1
  have HW := Lib.hid hW1
  have HB := Lib.hid hB1
  clear hB1 hW1 hx1
  go_enter Tryd.func44, Tryd.ntmps44
  go_upto_region 1 with fail
  rw [← HW.out]
  go_wp2
  go_ret
  exact ⟨rfl, HB.out⟩
set_option linter.unusedVariables false in
set_option maxRecDepth 100000 in
set_option maxHeartbeats 2000000 in
theorem inside_nm (k : Value) (w : World) : Calls Tryd.prog 44 #[.agg #[.int .i64 34, .int .i64 0, .int .i64 0, .int .i64 0, .string ⟨#[120]⟩, k]] w (RB true w) := by
  obtain ⟨W1, hW1⟩ : ∃ W1, W1 = w.alloc (.cells #[.int .i64 34, .int .i64 0, .int .i64 0, .int .i64 0, .string ⟨#[120]⟩, k] 24) := ⟨_, rfl⟩
  have hB1 : Below w.heap.size w W1 := by rw [hW1]; exact c_box w _
  have hx1 : W1.heap[w.heap.size]? = some (.cells #[.int .i64 34, .int .i64 0, .int .i64 0, .int .i64 0, .string ⟨#[120]⟩, k] 24 (0, 0)) := by rw [hW1]; exact heap_alloc_new w _
  obtain ⟨⟨b0, b1, b2, b3, b4, b5⟩, -, hxl⟩ := c_six hx1
  have HW := Lib.hid hW1
  have HB := Lib.hid hB1
  clear hB1 hW1 hx1
  go_enter Tryd.func44, Tryd.ntmps44
  go_upto_region 1 with fail
  rw [← HW.out]
  go_wp2
  go_ret
  exact ⟨rfl, HB.out⟩
set_option linter.unusedVariables false in
set_option maxRecDepth 100000 in
set_option maxHeartbeats 2000000 in
theorem inside_nu (k : Value) (w : World) : Calls Tryd.prog 44 #[.agg #[.int .i64 30, .int .i64 4, .int .i64 1, .int .i64 0, .string ⟨#[]⟩, k]] w (RB true w) := by
  obtain ⟨W1, hW1⟩ : ∃ W1, W1 = w.alloc (.cells #[.int .i64 30, .int .i64 4, .int .i64 1, .int .i64 0, .string ⟨#[]⟩, k] 24) := ⟨_, rfl⟩
  have hB1 : Below w.heap.size w W1 := by rw [hW1]; exact c_box w _
  have hx1 : W1.heap[w.heap.size]? = some (.cells #[.int .i64 30, .int .i64 4, .int .i64 1, .int .i64 0, .string ⟨#[]⟩, k] 24 (0, 0)) := by rw [hW1]; exact heap_alloc_new w _
  obtain ⟨⟨b0, b1, b2, b3, b4, b5⟩, -, hxl⟩ := c_six hx1
  have HW := Lib.hid hW1
  have HB := Lib.hid hB1
  clear hB1 hW1 hx1
  go_enter Tryd.func44, Tryd.ntmps44
  go_upto_region 1 with fail
  rw [← HW.out]
  go_wp2
  go_ret
  exact ⟨rfl, HB.out⟩
def exPT : PT := ⟨73, #[], 1, 1, exprF⟩
theorem exPT_ok (w : World) : TestOK w exPT := ⟨ent_isExpr, fun W x k _ => by show Calls _ _ (#[_] ++ #[]) _ _; rw [Array.append_empty]; exact isExpr_any x k W⟩
set_option linter.unusedVariables false in
set_option maxRecDepth 100000 in
set_option maxHeartbeats 2000000 in
theorem exCh_sum (ao : Option Addr) (cap : Nat) (w : World) (ht : TIn w All sumT (.slice ao 2 cap)) : Calls Tryd.prog 55 #[.agg #[.int .i64 44, .int .i64 0, .int .i64 0, .int .i64 0, .string ⟨#[43]⟩, .slice ao 2 cap], .slice ao 2 cap] w (RB true w) := by
  obtain ⟨W1, hW1⟩ : ∃ W1, W1 = w.alloc (.cells #[.int .i64 44, .int .i64 0, .int .i64 0, .int .i64 0, .string ⟨#[43]⟩, .slice ao 2 cap] 24) := ⟨_, rfl⟩
  have hB1 : Below w.heap.size w W1 := by rw [hW1]; exact c_box w _
  have hx1 : W1.heap[w.heap.size]? = some (.cells #[.int .i64 44, .int .i64 0, .int .i64 0, .int .i64 0, .string ⟨#[43]⟩, .slice ao 2 cap] 24 (0, 0)) := by rw [hW1]; exact heap_alloc_new w _
  obtain ⟨⟨b0, b1, b2, b3, b4, b5⟩, -, hxl⟩ := c_six hx1
  have HW := Lib.hid hW1
  have HB := Lib.hid hB1
  clear hB1 hW1 hx1
  have HT := Lib.hid ht
  clear ht
  go_enter Tryd.func55, Tryd.ntmps55
  go_upto_region 1 with fail
  rw [← HW.out]
  go_wp2_with fail
  refine (one_any _ _ _).mono ?_
  rintro e w2 ⟨rfl, hb2⟩
  have HB2 := Lib.hid (c_thr HB.out hb2 HB.out.size)
  clear hb2
  go_wp2_with fail
  refine (one_any _ _ _).mono ?_
  rintro e w3 ⟨rfl, hb3⟩
  have HB3 := Lib.hid (c_thr HB2.out hb3 HB2.out.size)
  clear hb3
  go_wp2_with fail
  have hx4 := heap_alloc_new w3 (.cells #[.func (.func 73) #[] #[], .int .i64 1, .int .i64 1, .func (.func 73) #[] #[], .int .i64 1, .int .i64 1] 79)
  have HB4 := Lib.hid (c_thr HB3.out (c_box w3 (.cells #[.func (.func 73) #[] #[], .int .i64 1, .int .i64 1, .func (.func 73) #[] #[], .int .i64 1, .int .i64 1] 79)) HB3.out.size)
  refine (fits_any [nmT, nuT] ao cap [exPT, exPT] _ _ (by simp) (by simp) (fun q h => by simp at h; subst h; exact ⟨Nat.le_refl _, by show 1 ≤ _; omega⟩) (tin_kept HT.out HB4.out) (pts_of (L := [exPT, exPT]) (T := 79) hx4 rfl) (fun q h => by simp at h; subst h; exact exPT_ok _)).mono ?_
  rintro e w5 ⟨rfl, hb5⟩
  have hv : fitsV [exPT, exPT] [nmT, nuT] = true := by decide
  rw [hv]
  clear hv hx4
  have HB5 := Lib.hid (c_thr HB4.out hb5 HB4.out.size)
  clear hb5
  go_wp2
  go_ret
  exact ⟨rfl, HB5.out⟩
set_option linter.unusedVariables false in
set_option maxRecDepth 100000 in
set_option maxHeartbeats 2000000 in
theorem exCh_nm (ao : Option Addr) (cap : Nat) (w : World) (ht : TIn w All (mkT []) (.slice ao 0 cap)) : Calls Tryd.prog 55 #[.agg #[.int .i64 34, .int .i64 0, .int .i64 0, .int .i64 0, .string ⟨#[120]⟩, .slice ao 0 cap], .slice ao 0 cap] w (RB true w) := by
  obtain ⟨W1, hW1⟩ : ∃ W1, W1 = w.alloc (.cells #[.int .i64 34, .int .i64 0, .int .i64 0, .int .i64 0, .string ⟨#[120]⟩, .slice ao 0 cap] 24) := ⟨_, rfl⟩
  have hB1 : Below w.heap.size w W1 := by rw [hW1]; exact c_box w _
  have hx1 : W1.heap[w.heap.size]? = some (.cells #[.int .i64 34, .int .i64 0, .int .i64 0, .int .i64 0, .string ⟨#[120]⟩, .slice ao 0 cap] 24 (0, 0)) := by rw [hW1]; exact heap_alloc_new w _
  obtain ⟨⟨b0, b1, b2, b3, b4, b5⟩, -, hxl⟩ := c_six hx1
  have HW := Lib.hid hW1
  have HB := Lib.hid hB1
  clear hB1 hW1 hx1
  have HT := Lib.hid ht
  clear ht
  go_enter Tryd.func55, Tryd.ntmps55
  go_upto_region 1 with fail
  rw [← HW.out]
  go_wp2_with fail
  refine (fits_any [] ao cap [] (.slice none 0 0) _ (by simp) (by simp) (fun _ h => by cases h) (tin_kept HT.out HB.out) ⟨none, 0, rfl, fun i q h => by simp at h⟩ (fun _ h => by cases h)).mono ?_
  rintro e w2 ⟨rfl, hb2⟩
  have hv : fitsV [] [] = true := rfl
  rw [hv]
  clear hv
  have HB2 := Lib.hid (c_thr HB.out hb2 HB.out.size)
  clear hb2
  go_wp2
  go_ret
  exact ⟨rfl, HB2.out⟩
set_option linter.unusedVariables false in
set_option maxRecDepth 100000 in
set_option maxHeartbeats 2000000 in
theorem exCh_nu (ao : Option Addr) (cap : Nat) (w : World) (ht : TIn w All (mkT []) (.slice ao 0 cap)) : Calls Tryd.prog 55 #[.agg #[.int .i64 30, .int .i64 4, .int .i64 1, .int .i64 0, .string ⟨#[]⟩, .slice ao 0 cap], .slice ao 0 cap] w (RB true w) := by
  obtain ⟨W1, hW1⟩ : ∃ W1, W1 = w.alloc (.cells #[.int .i64 30, .int .i64 4, .int .i64 1, .int .i64 0, .string ⟨#[]⟩, .slice ao 0 cap] 24) := ⟨_, rfl⟩
  have hB1 : Below w.heap.size w W1 := by rw [hW1]; exact c_box w _
  have hx1 : W1.heap[w.heap.size]? = some (.cells #[.int .i64 30, .int .i64 4, .int .i64 1, .int .i64 0, .string ⟨#[]⟩, .slice ao 0 cap] 24 (0, 0)) := by rw [hW1]; exact heap_alloc_new w _
  obtain ⟨⟨b0, b1, b2, b3, b4, b5⟩, -, hxl⟩ := c_six hx1
  have HW := Lib.hid hW1
  have HB := Lib.hid hB1
  clear hB1 hW1 hx1
  have HT := Lib.hid ht
  clear ht
  go_enter Tryd.func55, Tryd.ntmps55
  go_upto_region 1 with fail
  rw [← HW.out]
  go_wp2_with fail
  refine (fits_any [] ao cap [] (.slice none 0 0) _ (by simp) (by simp) (fun _ h => by cases h) (tin_kept HT.out HB.out) ⟨none, 0, rfl, fun i q h => by simp at h⟩ (fun _ h => by cases h)).mono ?_
  rintro e w2 ⟨rfl, hb2⟩
  have hv : fitsV [] [] = true := rfl
  rw [hv]
  clear hv
  have HB2 := Lib.hid (c_thr HB.out hb2 HB.out.size)
  clear hb2
  go_wp2
  go_ret
  exact ⟨rfl, HB2.out⟩
set_option linter.unusedVariables false in
set_option maxRecDepth 100000 in
set_option maxHeartbeats 2000000 in
theorem children_sum (ao : Option Addr) (cap : Nat) (w : World) (ht : TIn w All sumT (.slice ao 2 cap)) : Calls Tryd.prog 42 #[.agg #[.int .i64 44, .int .i64 0, .int .i64 0, .int .i64 0, .string ⟨#[43]⟩, .slice ao 2 cap]] w (RB true w) := by
  obtain ⟨W1, hW1⟩ : ∃ W1, W1 = w.alloc (.cells #[.int .i64 44, .int .i64 0, .int .i64 0, .int .i64 0, .string ⟨#[43]⟩, .slice ao 2 cap] 24) := ⟨_, rfl⟩
  have hB1 : Below w.heap.size w W1 := by rw [hW1]; exact c_box w _
  have hx1 : W1.heap[w.heap.size]? = some (.cells #[.int .i64 44, .int .i64 0, .int .i64 0, .int .i64 0, .string ⟨#[43]⟩, .slice ao 2 cap] 24 (0, 0)) := by rw [hW1]; exact heap_alloc_new w _
  obtain ⟨⟨b0, b1, b2, b3, b4, b5⟩, -, hxl⟩ := c_six hx1
  have HW := Lib.hid hW1
  have HB := Lib.hid hB1
  clear hB1 hW1 hx1
  have HT := Lib.hid ht
  clear ht
  go_enter Tryd.func42, Tryd.ntmps42
  go_upto_region 1 with fail
  rw [← HW.out]
  go_wp2_with fail
  refine (exCh_sum ao cap _ (tin_kept HT.out HB.out)).mono ?_
  rintro e w2 ⟨rfl, hb2⟩
  have HB2 := Lib.hid (c_thr HB.out hb2 HB.out.size)
  clear hb2
  go_wp2
  go_ret
  exact ⟨rfl, HB2.out⟩
set_option linter.unusedVariables false in
set_option maxRecDepth 100000 in
set_option maxHeartbeats 2000000 in
theorem children_nm (ao : Option Addr) (cap : Nat) (w : World) (ht : TIn w All (mkT []) (.slice ao 0 cap)) : Calls Tryd.prog 42 #[.agg #[.int .i64 34, .int .i64 0, .int .i64 0, .int .i64 0, .string ⟨#[120]⟩, .slice ao 0 cap]] w (RB true w) := by
  obtain ⟨W1, hW1⟩ : ∃ W1, W1 = w.alloc (.cells #[.int .i64 34, .int .i64 0, .int .i64 0, .int .i64 0, .string ⟨#[120]⟩, .slice ao 0 cap] 24) := ⟨_, rfl⟩
  have hB1 : Below w.heap.size w W1 := by rw [hW1]; exact c_box w _
  have hx1 : W1.heap[w.heap.size]? = some (.cells #[.int .i64 34, .int .i64 0, .int .i64 0, .int .i64 0, .string ⟨#[120]⟩, .slice ao 0 cap] 24 (0, 0)) := by rw [hW1]; exact heap_alloc_new w _
  obtain ⟨⟨b0, b1, b2, b3, b4, b5⟩, -, hxl⟩ := c_six hx1
  have HW := Lib.hid hW1
  have HB := Lib.hid hB1
  clear hB1 hW1 hx1
  have HT := Lib.hid ht
  clear ht
  go_enter Tryd.func42, Tryd.ntmps42
  go_upto_region 1 with fail
  rw [← HW.out]
  go_wp2_with fail
  refine (exCh_nm ao cap _ (tin_kept HT.out HB.out)).mono ?_
  rintro e w2 ⟨rfl, hb2⟩
  have HB2 := Lib.hid (c_thr HB.out hb2 HB.out.size)
  clear hb2
  go_wp2
  go_ret
  exact ⟨rfl, HB2.out⟩
set_option linter.unusedVariables false in
set_option maxRecDepth 100000 in
set_option maxHeartbeats 2000000 in
theorem children_nu (ao : Option Addr) (cap : Nat) (w : World) (ht : TIn w All (mkT []) (.slice ao 0 cap)) : Calls Tryd.prog 42 #[.agg #[.int .i64 30, .int .i64 4, .int .i64 1, .int .i64 0, .string ⟨#[]⟩, .slice ao 0 cap]] w (RB true w) := by
  obtain ⟨W1, hW1⟩ : ∃ W1, W1 = w.alloc (.cells #[.int .i64 30, .int .i64 4, .int .i64 1, .int .i64 0, .string ⟨#[]⟩, .slice ao 0 cap] 24) := ⟨_, rfl⟩
  have hB1 : Below w.heap.size w W1 := by rw [hW1]; exact c_box w _
  have hx1 : W1.heap[w.heap.size]? = some (.cells #[.int .i64 30, .int .i64 4, .int .i64 1, .int .i64 0, .string ⟨#[]⟩, .slice ao 0 cap] 24 (0, 0)) := by rw [hW1]; exact heap_alloc_new w _
  obtain ⟨⟨b0, b1, b2, b3, b4, b5⟩, -, hxl⟩ := c_six hx1
  have HW := Lib.hid hW1
  have HB := Lib.hid hB1
  clear hB1 hW1 hx1
  have HT := Lib.hid ht
  clear ht
  go_enter Tryd.func42, Tryd.ntmps42
  go_upto_region 1 with fail
  rw [← HW.out]
  go_wp2_with fail
  refine (exCh_nu ao cap _ (tin_kept HT.out HB.out)).mono ?_
  rintro e w2 ⟨rfl, hb2⟩
  have HB2 := Lib.hid (c_thr HB.out hb2 HB.out.size)
  clear hb2
  go_wp2
  go_ret
  exact ⟨rfl, HB2.out⟩
theorem tin_nil {w : World} {op a n m : Int} {s : ByteArray} {k : Value} (h : TIn w All (.mk op a n m s []) k) : TIn w All (mkT []) k := by
  unfold TIn at h
  unfold mkT TIn
  exact h
def exS (t : Tr) : Prop := t = sumT ∨ t = nmT ∨ t = nuT
def yes (_ : Tr) : Bool := true
theorem ex_ok : RightOK exS yes yes yes where
  kids := by
    rintro t (rfl | rfl | rfl) x hx
    · have : x = nmT ∨ x = nuT := by simpa [sumT, Tr.ks] using hx
      exact .inr this
    · exact absurd hx (by simp [nmT, Tr.ks])
    · exact absurd hx (by simp [nuT, Tr.ks])
  text := by
    rintro t k w (rfl | rfl | rfl)
    · exact text_sum k w
    · exact text_nm k w
    · exact text_nu k w
  children := by
    rintro t ao cap w (rfl | rfl | rfl) _ ht
    · exact children_sum ao cap w ht
    · exact children_nm ao cap w (tin_nil ht)
    · exact children_nu ao cap w (tin_nil ht)
  inside := by
    rintro t ao cap w (rfl | rfl | rfl) _ _ _ _
    · exact inside_sum _ w
    · exact inside_nm _ w
    · exact inside_nu _ w
theorem right_ex : rightV yes yes yes 1 false sumT = true := by decide
set_option linter.unusedVariables false in
set_option maxRecDepth 100000 in
set_option maxHeartbeats 2000000 in
theorem Right_ex (ao : Option Addr) (cap : Nat) (w : World) (ht : TIn w All sumT (.slice ao 2 cap)) : Calls Tryd.prog 25 #[.agg #[.int .i64 44, .int .i64 0, .int .i64 0, .int .i64 0, .string ⟨#[43]⟩, .slice ao 2 cap]] w (RB true w) := by
  obtain ⟨W1, hW1⟩ : ∃ W1, W1 = w.alloc (.cells #[.int .i64 44, .int .i64 0, .int .i64 0, .int .i64 0, .string ⟨#[43]⟩, .slice ao 2 cap] 24) := ⟨_, rfl⟩
  have hB1 : Below w.heap.size w W1 := by rw [hW1]; exact c_box w _
  have hx1 : W1.heap[w.heap.size]? = some (.cells #[.int .i64 44, .int .i64 0, .int .i64 0, .int .i64 0, .string ⟨#[43]⟩, .slice ao 2 cap] 24 (0, 0)) := by rw [hW1]; exact heap_alloc_new w _
  obtain ⟨⟨b0, b1, b2, b3, b4, b5⟩, -, hxl⟩ := c_six hx1
  have HW := Lib.hid hW1
  have HB := Lib.hid hB1
  clear hB1 hW1 hx1
  have HT := Lib.hid ht
  clear ht
  go_enter Tryd.func25, Tryd.ntmps25
  go_upto_region 1 with fail
  rw [← HW.out]
  have HR := Lib.hid (right_any ex_ok 3 sumT ao cap 1 false W1 (by decide) (by omega) (by omega) (.inl rfl) (tin_kept HT.out HB.out))
  rw [right_ex] at HR
  go_wp2_with fail
  refine HR.out.mono ?_
  rintro e w2 ⟨rfl, hb2⟩
  have HB2 := Lib.hid (c_thr HB.out hb2 HB.out.size)
  clear hb2
  go_wp2
  go_ret
  exact ⟨rfl, HB2.out⟩
end Go.Proofs.YtppliplalfpmaaaDoor
