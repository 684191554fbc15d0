/-
  Text1 of package token at this translation.
-/
import Derived.Test.YthkjdllpgcocpaaGreatDoorWPText
namespace Go.Proofs.YthkjdllpgcocpaaGreatDoor
open Go.RowKit

def Tab (w : World) : Prop := Lib.TabIs Tryz.prog w "internal/strconv.uint64pow10" .u64 Lib.pow10Tab
theorem tab_grown {w w' : World} (h : Tab w) (hb : Below w.heap.size w w') : Tab w' := by
  unfold Tab Lib.TabIs World.var? at h ⊢
  cases hg : Tryz.prog.globalNamed "internal/strconv.uint64pow10" with
  | none => rw [hg] at h; cases h
  | some g =>
    rw [hg] at h
    have hl : g < w.heap.size := by
      rcases Nat.lt_or_ge g w.heap.size with h' | h'
      · exact h'
      · simp [Array.getElem?_eq_none h'] at h
    simp only [Option.bind_some] at h ⊢
    rw [hb.block g hl]
    exact h
theorem heap_old (w : World) (k : Nat) (os : Array Obj) (j : Nat) (h : j < w.heap.size) : (Sort.grow (w.drewN k) os).heap[j]? = w.heap[j]? := by
  show (w.heap ++ os)[j]? = w.heap[j]?
  rw [Array.getElem?_append_left h]
theorem itoa_any (n : Int) (h0 : -9223372036854775808 ≤ n) (h1 : n ≤ 9223372036854775807) (w : World) (ht : Tab w) : Calls Tryz.prog 20 #[.int .i64 n] w fun e w' => e = .returned (.string ⟨(Lib.itoa n).toArray⟩) ∧ Below w.heap.size w w' :=
  (Tryz.strconv_Itoa n h0 h1 w ht).mono fun e w' ⟨h, k, os, hk⟩ => ⟨h, by
    subst hk
    exact ⟨rfl, rfl, rfl, by show w.heap.size ≤ (w.heap ++ os).size; rw [Array.size_append]; omega, fun j hj => heap_old w k os j hj⟩⟩
set_option linter.unusedVariables false in
set_option maxRecDepth 100000 in
set_option maxHeartbeats 1000000 in
theorem pt1_name1 (a tw n : Int) (s : ByteArray) (li o : Bool) (w : World) (hs : s.size ≤ 1000000) :
    Calls Tryz.prog 7 #[.agg #[.int .i64 1, .int .i64 a, .int .i64 tw, .int .i64 n, .string s, .bool li, .bool o]] w fun e w' => e = .returned (.string ⟨(tkV 1 n s o).toArray⟩) ∧ Below w.heap.size w w' := by
  rw [tkV_name (by omega)]
  obtain ⟨W1, hW1⟩ : ∃ W1, W1 = w.alloc (.cells #[.int .i64 1, .int .i64 a, .int .i64 tw, .int .i64 n, .string s, .bool li, .bool o] 27) := ⟨_, rfl⟩
  have hB1 : Below w.heap.size w W1 := by rw [hW1]; exact box_new w _
  have hx1 : W1.heap[w.heap.size]? = some (.cells #[.int .i64 1, .int .i64 a, .int .i64 tw, .int .i64 n, .string s, .bool li, .bool o] 27 (0, 0)) := by rw [hW1]; exact heap_alloc_new w _
  have k0 := Lib.cell_of_heap hx1 0
  have k3 := Lib.cell_of_heap hx1 3
  have k4 := Lib.cell_of_heap hx1 4
  have k6 := Lib.cell_of_heap hx1 6
  simp at k0 k3 k4 k6
  have HW := Lib.hid hW1
  have HB := Lib.hid hB1
  have HX := Lib.hid hx1
  clear hW1 hB1 hx1
  go_enter Tryz.func7, Tryz.ntmps7
  go_upto_region 1 with fail
  rw [← HW.out]
  go_wp2
  go_ret
  exact ⟨rfl, HB.out⟩
set_option linter.unusedVariables false in
set_option maxRecDepth 100000 in
set_option maxHeartbeats 1000000 in
theorem pt1_name2 (a tw n : Int) (s : ByteArray) (li o : Bool) (w : World) (hs : s.size ≤ 1000000) :
    Calls Tryz.prog 7 #[.agg #[.int .i64 2, .int .i64 a, .int .i64 tw, .int .i64 n, .string s, .bool li, .bool o]] w fun e w' => e = .returned (.string ⟨(tkV 2 n s o).toArray⟩) ∧ Below w.heap.size w w' := by
  rw [tkV_name (by omega)]
  obtain ⟨W1, hW1⟩ : ∃ W1, W1 = w.alloc (.cells #[.int .i64 2, .int .i64 a, .int .i64 tw, .int .i64 n, .string s, .bool li, .bool o] 27) := ⟨_, rfl⟩
  have hB1 : Below w.heap.size w W1 := by rw [hW1]; exact box_new w _
  have hx1 : W1.heap[w.heap.size]? = some (.cells #[.int .i64 2, .int .i64 a, .int .i64 tw, .int .i64 n, .string s, .bool li, .bool o] 27 (0, 0)) := by rw [hW1]; exact heap_alloc_new w _
  have k0 := Lib.cell_of_heap hx1 0
  have k3 := Lib.cell_of_heap hx1 3
  have k4 := Lib.cell_of_heap hx1 4
  have k6 := Lib.cell_of_heap hx1 6
  simp at k0 k3 k4 k6
  have HW := Lib.hid hW1
  have HB := Lib.hid hB1
  have HX := Lib.hid hx1
  clear hW1 hB1 hx1
  go_enter Tryz.func7, Tryz.ntmps7
  go_upto_region 1 with fail
  rw [← HW.out]
  go_wp2
  go_ret
  exact ⟨rfl, HB.out⟩
set_option linter.unusedVariables false in
set_option maxRecDepth 100000 in
set_option maxHeartbeats 1000000 in
theorem pt1_name5 (a tw n : Int) (s : ByteArray) (li o : Bool) (w : World) (hs : s.size ≤ 1000000) :
    Calls Tryz.prog 7 #[.agg #[.int .i64 5, .int .i64 a, .int .i64 tw, .int .i64 n, .string s, .bool li, .bool o]] w fun e w' => e = .returned (.string ⟨(tkV 5 n s o).toArray⟩) ∧ Below w.heap.size w w' := by
  rw [tkV_name (by omega)]
  obtain ⟨W1, hW1⟩ : ∃ W1, W1 = w.alloc (.cells #[.int .i64 5, .int .i64 a, .int .i64 tw, .int .i64 n, .string s, .bool li, .bool o] 27) := ⟨_, rfl⟩
  have hB1 : Below w.heap.size w W1 := by rw [hW1]; exact box_new w _
  have hx1 : W1.heap[w.heap.size]? = some (.cells #[.int .i64 5, .int .i64 a, .int .i64 tw, .int .i64 n, .string s, .bool li, .bool o] 27 (0, 0)) := by rw [hW1]; exact heap_alloc_new w _
  have k0 := Lib.cell_of_heap hx1 0
  have k3 := Lib.cell_of_heap hx1 3
  have k4 := Lib.cell_of_heap hx1 4
  have k6 := Lib.cell_of_heap hx1 6
  simp at k0 k3 k4 k6
  have HW := Lib.hid hW1
  have HB := Lib.hid hB1
  have HX := Lib.hid hx1
  clear hW1 hB1 hx1
  go_enter Tryz.func7, Tryz.ntmps7
  go_upto_region 1 with fail
  rw [← HW.out]
  go_wp2
  go_ret
  exact ⟨rfl, HB.out⟩
set_option linter.unusedVariables false in
set_option maxRecDepth 100000 in
set_option maxHeartbeats 1000000 in
theorem pt1_num (a tw n : Int) (s : ByteArray) (li o : Bool) (w : World) (hs : s.size ≤ 1000000) (h0 : -9223372036854775808 ≤ n) (h1 : n ≤ 9223372036854775807) (ht : Tab w) :
    Calls Tryz.prog 7 #[.agg #[.int .i64 3, .int .i64 a, .int .i64 tw, .int .i64 n, .string s, .bool li, .bool o]] w fun e w' => e = .returned (.string ⟨(tkV 3 n s o).toArray⟩) ∧ Below w.heap.size w w' := by
  rw [tkV_num]
  have HD := Lib.hid (fun W (h : Tab W) => itoa_any n h0 h1 W h)
  obtain ⟨W1, hW1⟩ : ∃ W1, W1 = w.alloc (.cells #[.int .i64 3, .int .i64 a, .int .i64 tw, .int .i64 n, .string s, .bool li, .bool o] 27) := ⟨_, rfl⟩
  have hB1 : Below w.heap.size w W1 := by rw [hW1]; exact box_new w _
  have hx1 : W1.heap[w.heap.size]? = some (.cells #[.int .i64 3, .int .i64 a, .int .i64 tw, .int .i64 n, .string s, .bool li, .bool o] 27 (0, 0)) := by rw [hW1]; exact heap_alloc_new w _
  have k0 := Lib.cell_of_heap hx1 0
  have k3 := Lib.cell_of_heap hx1 3
  have k4 := Lib.cell_of_heap hx1 4
  have k6 := Lib.cell_of_heap hx1 6
  simp at k0 k3 k4 k6
  have HW := Lib.hid hW1
  have HB := Lib.hid hB1
  have HX := Lib.hid hx1
  clear hW1 hB1 hx1
  have HTB := Lib.hid (tab_grown ht HB.out)
  clear ht
  go_enter Tryz.func7, Tryz.ntmps7
  go_upto_region 1 with fail
  rw [← HW.out]
  go_wp2_with fail
  refine (HD.out _ HTB.out).mono ?_
  rintro e w5 ⟨rfl, hb⟩
  have HB5 := Lib.hid (t_thr HB.out hb HB.out.size)
  clear hb
  go_wp2
  go_ret
  exact ⟨rfl, HB5.out⟩
set_option linter.unusedVariables false in
set_option maxRecDepth 100000 in
set_option maxHeartbeats 1000000 in
theorem pt1_text (a tw n : Int) (s : ByteArray) (li o : Bool) (w : World) (hs : s.size ≤ 1000000) :
    Calls Tryz.prog 7 #[.agg #[.int .i64 4, .int .i64 a, .int .i64 tw, .int .i64 n, .string s, .bool li, .bool o]] w fun e w' => e = .returned (.string ⟨(34 :: (wL mkT s.data.toList ++ [34])).toArray⟩) ∧ Below w.heap.size w w' := by
  have HD := Lib.hid (fun W => quote_any s W (by omega))
  have eq : quoteL s.data.toList = 34 :: (wL mkT s.data.toList ++ [34]) := by rw [wL_q]; rfl
  rw [eq] at HD
  clear eq
  obtain ⟨W1, hW1⟩ : ∃ W1, W1 = w.alloc (.cells #[.int .i64 4, .int .i64 a, .int .i64 tw, .int .i64 n, .string s, .bool li, .bool o] 27) := ⟨_, rfl⟩
  have hB1 : Below w.heap.size w W1 := by rw [hW1]; exact box_new w _
  have hx1 : W1.heap[w.heap.size]? = some (.cells #[.int .i64 4, .int .i64 a, .int .i64 tw, .int .i64 n, .string s, .bool li, .bool o] 27 (0, 0)) := by rw [hW1]; exact heap_alloc_new w _
  have k0 := Lib.cell_of_heap hx1 0
  have k3 := Lib.cell_of_heap hx1 3
  have k4 := Lib.cell_of_heap hx1 4
  have k6 := Lib.cell_of_heap hx1 6
  simp at k0 k3 k4 k6
  have HW := Lib.hid hW1
  have HB := Lib.hid hB1
  have HX := Lib.hid hx1
  clear hW1 hB1 hx1
  go_enter Tryz.func7, Tryz.ntmps7
  go_upto_region 1 with fail
  rw [← HW.out]
  go_wp2_with fail
  refine (HD.out _).mono ?_
  rintro e w5 ⟨rfl, hb⟩
  have HB5 := Lib.hid (t_thr HB.out hb HB.out.size)
  clear hb
  go_wp2
  go_ret
  exact ⟨rfl, HB5.out⟩
set_option linter.unusedVariables false in
set_option maxRecDepth 100000 in
set_option maxHeartbeats 1000000 in
theorem pt1_piece_tt (a tw n : Int) (s : ByteArray) (li : Bool) (w : World) (hs : s.size ≤ 1000000) (gn : (n == 1) = true) :
    Calls Tryz.prog 7 #[.agg #[.int .i64 6, .int .i64 a, .int .i64 tw, .int .i64 n, .string s, .bool li, .bool true]] w fun e w' => e = .returned (.string ⟨(125 :: (wL mkP s.data.toList ++ [36, 123])).toArray⟩) ∧ Below w.heap.size w w' := by
  have HD := Lib.hid (fun W => pt_tt 6 a tw n s li W hs gn)
  clear gn
  obtain ⟨W1, hW1⟩ : ∃ W1, W1 = w.alloc (.cells #[.int .i64 6, .int .i64 a, .int .i64 tw, .int .i64 n, .string s, .bool li, .bool true] 27) := ⟨_, rfl⟩
  have hB1 : Below w.heap.size w W1 := by rw [hW1]; exact box_new w _
  have hx1 : W1.heap[w.heap.size]? = some (.cells #[.int .i64 6, .int .i64 a, .int .i64 tw, .int .i64 n, .string s, .bool li, .bool true] 27 (0, 0)) := by rw [hW1]; exact heap_alloc_new w _
  have k1 := Lib.cell_of_heap hx1 1
  have k2 := Lib.cell_of_heap hx1 2
  have k5 := Lib.cell_of_heap hx1 5
  have k0 := Lib.cell_of_heap hx1 0
  have k3 := Lib.cell_of_heap hx1 3
  have k4 := Lib.cell_of_heap hx1 4
  have k6 := Lib.cell_of_heap hx1 6
  simp at k0 k1 k2 k3 k4 k5 k6
  have HW := Lib.hid hW1
  have HB := Lib.hid hB1
  have HX := Lib.hid hx1
  clear hW1 hB1 hx1
  go_enter Tryz.func7, Tryz.ntmps7
  go_upto_region 1 with fail
  rw [← HW.out]
  go_wp2_with fail
  refine (HD.out _).mono ?_
  rintro e w5 ⟨rfl, hb⟩
  have HB5 := Lib.hid (t_thr HB.out hb HB.out.size)
  clear hb
  go_wp2
  go_ret
  exact ⟨rfl, HB5.out⟩
set_option linter.unusedVariables false in
set_option maxRecDepth 100000 in
set_option maxHeartbeats 1000000 in
theorem pt1_piece_tf (a tw n : Int) (s : ByteArray) (li : Bool) (w : World) (hs : s.size ≤ 1000000) (gn : (n == 1) = false) :
    Calls Tryz.prog 7 #[.agg #[.int .i64 6, .int .i64 a, .int .i64 tw, .int .i64 n, .string s, .bool li, .bool true]] w fun e w' => e = .returned (.string ⟨(96 :: (wL mkP s.data.toList ++ [36, 123])).toArray⟩) ∧ Below w.heap.size w w' := by
  have HD := Lib.hid (fun W => pt_tf 6 a tw n s li W hs gn)
  clear gn
  obtain ⟨W1, hW1⟩ : ∃ W1, W1 = w.alloc (.cells #[.int .i64 6, .int .i64 a, .int .i64 tw, .int .i64 n, .string s, .bool li, .bool true] 27) := ⟨_, rfl⟩
  have hB1 : Below w.heap.size w W1 := by rw [hW1]; exact box_new w _
  have hx1 : W1.heap[w.heap.size]? = some (.cells #[.int .i64 6, .int .i64 a, .int .i64 tw, .int .i64 n, .string s, .bool li, .bool true] 27 (0, 0)) := by rw [hW1]; exact heap_alloc_new w _
  have k1 := Lib.cell_of_heap hx1 1
  have k2 := Lib.cell_of_heap hx1 2
  have k5 := Lib.cell_of_heap hx1 5
  have k0 := Lib.cell_of_heap hx1 0
  have k3 := Lib.cell_of_heap hx1 3
  have k4 := Lib.cell_of_heap hx1 4
  have k6 := Lib.cell_of_heap hx1 6
  simp at k0 k1 k2 k3 k4 k5 k6
  have HW := Lib.hid hW1
  have HB := Lib.hid hB1
  have HX := Lib.hid hx1
  clear hW1 hB1 hx1
  go_enter Tryz.func7, Tryz.ntmps7
  go_upto_region 1 with fail
  rw [← HW.out]
  go_wp2_with fail
  refine (HD.out _).mono ?_
  rintro e w5 ⟨rfl, hb⟩
  have HB5 := Lib.hid (t_thr HB.out hb HB.out.size)
  clear hb
  go_wp2
  go_ret
  exact ⟨rfl, HB5.out⟩
set_option linter.unusedVariables false in
set_option maxRecDepth 100000 in
set_option maxHeartbeats 1000000 in
theorem pt1_piece_ft (a tw n : Int) (s : ByteArray) (li : Bool) (w : World) (hs : s.size ≤ 1000000) (gn : (n == 1) = true) :
    Calls Tryz.prog 7 #[.agg #[.int .i64 6, .int .i64 a, .int .i64 tw, .int .i64 n, .string s, .bool li, .bool false]] w fun e w' => e = .returned (.string ⟨(125 :: (wL mkP s.data.toList ++ [96])).toArray⟩) ∧ Below w.heap.size w w' := by
  have HD := Lib.hid (fun W => pt_ft 6 a tw n s li W hs gn)
  clear gn
  obtain ⟨W1, hW1⟩ : ∃ W1, W1 = w.alloc (.cells #[.int .i64 6, .int .i64 a, .int .i64 tw, .int .i64 n, .string s, .bool li, .bool false] 27) := ⟨_, rfl⟩
  have hB1 : Below w.heap.size w W1 := by rw [hW1]; exact box_new w _
  have hx1 : W1.heap[w.heap.size]? = some (.cells #[.int .i64 6, .int .i64 a, .int .i64 tw, .int .i64 n, .string s, .bool li, .bool false] 27 (0, 0)) := by rw [hW1]; exact heap_alloc_new w _
  have k1 := Lib.cell_of_heap hx1 1
  have k2 := Lib.cell_of_heap hx1 2
  have k5 := Lib.cell_of_heap hx1 5
  have k0 := Lib.cell_of_heap hx1 0
  have k3 := Lib.cell_of_heap hx1 3
  have k4 := Lib.cell_of_heap hx1 4
  have k6 := Lib.cell_of_heap hx1 6
  simp at k0 k1 k2 k3 k4 k5 k6
  have HW := Lib.hid hW1
  have HB := Lib.hid hB1
  have HX := Lib.hid hx1
  clear hW1 hB1 hx1
  go_enter Tryz.func7, Tryz.ntmps7
  go_upto_region 1 with fail
  rw [← HW.out]
  go_wp2_with fail
  refine (HD.out _).mono ?_
  rintro e w5 ⟨rfl, hb⟩
  have HB5 := Lib.hid (t_thr HB.out hb HB.out.size)
  clear hb
  go_wp2
  go_ret
  exact ⟨rfl, HB5.out⟩
set_option linter.unusedVariables false in
set_option maxRecDepth 100000 in
set_option maxHeartbeats 1000000 in
theorem pt1_piece_ff (a tw n : Int) (s : ByteArray) (li : Bool) (w : World) (hs : s.size ≤ 1000000) (gn : (n == 1) = false) :
    Calls Tryz.prog 7 #[.agg #[.int .i64 6, .int .i64 a, .int .i64 tw, .int .i64 n, .string s, .bool li, .bool false]] w fun e w' => e = .returned (.string ⟨(96 :: (wL mkP s.data.toList ++ [96])).toArray⟩) ∧ Below w.heap.size w w' := by
  have HD := Lib.hid (fun W => pt_ff 6 a tw n s li W hs gn)
  clear gn
  obtain ⟨W1, hW1⟩ : ∃ W1, W1 = w.alloc (.cells #[.int .i64 6, .int .i64 a, .int .i64 tw, .int .i64 n, .string s, .bool li, .bool false] 27) := ⟨_, rfl⟩
  have hB1 : Below w.heap.size w W1 := by rw [hW1]; exact box_new w _
  have hx1 : W1.heap[w.heap.size]? = some (.cells #[.int .i64 6, .int .i64 a, .int .i64 tw, .int .i64 n, .string s, .bool li, .bool false] 27 (0, 0)) := by rw [hW1]; exact heap_alloc_new w _
  have k1 := Lib.cell_of_heap hx1 1
  have k2 := Lib.cell_of_heap hx1 2
  have k5 := Lib.cell_of_heap hx1 5
  have k0 := Lib.cell_of_heap hx1 0
  have k3 := Lib.cell_of_heap hx1 3
  have k4 := Lib.cell_of_heap hx1 4
  have k6 := Lib.cell_of_heap hx1 6
  simp at k0 k1 k2 k3 k4 k5 k6
  have HW := Lib.hid hW1
  have HB := Lib.hid hB1
  have HX := Lib.hid hx1
  clear hW1 hB1 hx1
  go_enter Tryz.func7, Tryz.ntmps7
  go_upto_region 1 with fail
  rw [← HW.out]
  go_wp2_with fail
  refine (HD.out _).mono ?_
  rintro e w5 ⟨rfl, hb⟩
  have HB5 := Lib.hid (t_thr HB.out hb HB.out.size)
  clear hb
  go_wp2
  go_ret
  exact ⟨rfl, HB5.out⟩
set_option linter.unusedVariables false in
set_option maxRecDepth 100000 in
set_option maxHeartbeats 1000000 in
theorem pt1_none (kd a tw n : Int) (s : ByteArray) (li o : Bool) (w : World) (h1 : (kd == 1) = false) (h2 : (kd == 2) = false) (h5 : (kd == 5) = false) (h3 : (kd == 3) = false) (h4 : (kd == 4) = false) (h6 : (kd == 6) = false) :
    Calls Tryz.prog 7 #[.agg #[.int .i64 kd, .int .i64 a, .int .i64 tw, .int .i64 n, .string s, .bool li, .bool o]] w fun e w' => e = .returned (.string ⟨#[]⟩) ∧ Below w.heap.size w w' := by
  obtain ⟨W1, hW1⟩ : ∃ W1, W1 = w.alloc (.cells #[.int .i64 kd, .int .i64 a, .int .i64 tw, .int .i64 n, .string s, .bool li, .bool o] 27) := ⟨_, rfl⟩
  have hB1 : Below w.heap.size w W1 := by rw [hW1]; exact box_new w _
  have hx1 : W1.heap[w.heap.size]? = some (.cells #[.int .i64 kd, .int .i64 a, .int .i64 tw, .int .i64 n, .string s, .bool li, .bool o] 27 (0, 0)) := by rw [hW1]; exact heap_alloc_new w _
  have k0 := Lib.cell_of_heap hx1 0
  have k3 := Lib.cell_of_heap hx1 3
  have k4 := Lib.cell_of_heap hx1 4
  have k6 := Lib.cell_of_heap hx1 6
  simp at k0 k3 k4 k6
  have HW := Lib.hid hW1
  have HB := Lib.hid hB1
  have HX := Lib.hid hx1
  clear hW1 hB1 hx1
  go_enter Tryz.func7, Tryz.ntmps7
  go_upto_region 1 with fail
  rw [← HW.out]
  go_wp2
  go_ret
  exact ⟨rfl, HB.out⟩
theorem text1_any (kd a tw n : Int) (s : ByteArray) (li o : Bool) (w : World) (hs : s.size ≤ 1000000) (h0 : -9223372036854775808 ≤ n) (h1 : n ≤ 9223372036854775807) (ht : Tab w) :
    Calls Tryz.prog 7 #[.agg #[.int .i64 kd, .int .i64 a, .int .i64 tw, .int .i64 n, .string s, .bool li, .bool o]] w fun e w' => e = .returned (.string ⟨(tkV kd n s o).toArray⟩) ∧ Below w.heap.size w w' := by
  by_cases c1 : kd = 1
  · subst c1; exact pt1_name1 a tw n s li o w hs
  by_cases c2 : kd = 2
  · subst c2; exact pt1_name2 a tw n s li o w hs
  by_cases c5 : kd = 5
  · subst c5; exact pt1_name5 a tw n s li o w hs
  by_cases c3 : kd = 3
  · subst c3; exact pt1_num a tw n s li o w hs h0 h1 ht
  by_cases c4 : kd = 4
  · subst c4
    rw [tkV_text]
    exact pt1_text a tw n s li o w hs
  by_cases c6 : kd = 6
  · subst c6
    rw [tkV_piece]
    by_cases cn : n = 1
    · rw [if_pos cn]
      cases o with
      | true => exact pt1_piece_tt a tw n s li w hs (by simpa using cn)
      | false => exact pt1_piece_ft a tw n s li w hs (by simpa using cn)
    · rw [if_neg cn]
      cases o with
      | true => exact pt1_piece_tf a tw n s li w hs (by simpa using cn)
      | false => exact pt1_piece_ff a tw n s li w hs (by simpa using cn)
  rw [tkV_none c1 c2 c5 c3 c4 c6]
  exact pt1_none kd a tw n s li o w (by simpa using c1) (by simpa using c2) (by simpa using c5) (by simpa using c3) (by simpa using c4) (by simpa using c6)
end Go.Proofs.YthkjdllpgcocpaaGreatDoor
