/-
  Text1 of the reference of package token at this translation.
-/
import Derived.Test.YthkjdllpgcocpaaGreatDoorWWrit
import Derived.Test.YthkjdllpgcocpaaGreatDoorWDig
namespace Go.Proofs.YthkjdllpgcocpaaGreatDoor
open Go.RowKit

theorem codes_T : codes ⟨#[34, 92]⟩ = mkT := rfl
theorem codes_P : codes ⟨#[96, 36, 92]⟩ = mkP := rfl
theorem tkV_name {k n : Int} {s : ByteArray} {o : Bool} (h : k = 1 ∨ k = 2 ∨ k = 5) : (⟨(tkV k n s o).toArray⟩ : ByteArray) = s := by
  unfold tkV
  rw [if_pos h]
theorem tkV_num {n : Int} {s : ByteArray} {o : Bool} : tkV 3 n s o = Lib.itoa n := by
  unfold tkV
  rw [if_neg (by omega), if_pos rfl]
theorem tkV_text {n : Int} {s : ByteArray} {o : Bool} : tkV 4 n s o = 34 :: (wL mkT s.data.toList ++ [34]) := by
  unfold tkV
  rw [if_neg (by omega), if_neg (by omega), if_pos rfl]
theorem tkV_piece {n : Int} {s : ByteArray} {o : Bool} : tkV 6 n s o = (if n = 1 then 125 else 96) :: (wL mkP s.data.toList ++ (if o then [36, 123] else [96])) := by
  unfold tkV
  rw [if_neg (by omega), if_neg (by omega), if_neg (by omega), if_pos rfl]
theorem tkV_none {k n : Int} {s : ByteArray} {o : Bool} (h1 : ¬ k = 1) (h2 : ¬ k = 2) (h5 : ¬ k = 5) (h3 : ¬ k = 3) (h4 : ¬ k = 4) (h6 : ¬ k = 6) : tkV k n s o = [] := by
  unfold tkV
  rw [if_neg (by omega), if_neg h3, if_neg h4, if_neg h6]
theorem wl_size (m : List Int) (s : ByteArray) (hs : s.size ≤ 1000000) : (⟨(wL m s.data.toList).toArray⟩ : ByteArray).size ≤ 4000000 := by
  have h1 := wL_len m s.data.toList
  have h2 : s.data.toList.length = s.size := by rw [Array.length_toList]; rfl
  have h3 : (⟨(wL m s.data.toList).toArray⟩ : ByteArray).size = (wL m s.data.toList).length := rfl
  omega
theorem box_new (w : World) (o : Obj) : Below w.heap.size w (w.alloc o) := (Below.refl _ w).alloc (Nat.le_refl _) _
set_option linter.unusedVariables false in
set_option maxRecDepth 100000 in
set_option maxHeartbeats 1000000 in
theorem rt_name1 (a tw n : Int) (s : ByteArray) (li o : Bool) (w : World) (hs : s.size ≤ 1000000) :
    Calls Tryz.prog 8 #[.agg #[.int .i64 1, .int .i64 a, .int .i64 tw, .int .i64 n, .string s, .bool li, .bool o]] w fun e w' => e = .returned (.string ⟨(tkV 1 n s o).toArray⟩) ∧ Below w.heap.size w w' := by
  rw [tkV_name (by omega)]
  obtain ⟨W1, hW1⟩ : ∃ W1, W1 = w.alloc (.cells #[.int .i64 1, .int .i64 a, .int .i64 tw, .int .i64 n, .string s, .bool li, .bool o] 23) := ⟨_, rfl⟩
  have hB1 : Below w.heap.size w W1 := by rw [hW1]; exact box_new w _
  have hx1 : W1.heap[w.heap.size]? = some (.cells #[.int .i64 1, .int .i64 a, .int .i64 tw, .int .i64 n, .string s, .bool li, .bool o] 23 (0, 0)) := by rw [hW1]; exact heap_alloc_new w _
  have k0 := Lib.cell_of_heap hx1 0
  have k3 := Lib.cell_of_heap hx1 3
  have k4 := Lib.cell_of_heap hx1 4
  have k6 := Lib.cell_of_heap hx1 6
  simp at k0 k3 k4 k6
  have HW := Lib.hid hW1
  have HB := Lib.hid hB1
  have HX := Lib.hid hx1
  clear hW1 hB1 hx1
  go_enter Tryz.func8, Tryz.ntmps8
  go_upto_region 1 with fail
  rw [← HW.out]
  go_wp2
  go_ret
  exact ⟨rfl, HB.out⟩
set_option linter.unusedVariables false in
set_option maxRecDepth 100000 in
set_option maxHeartbeats 1000000 in
theorem rt_name2 (a tw n : Int) (s : ByteArray) (li o : Bool) (w : World) (hs : s.size ≤ 1000000) :
    Calls Tryz.prog 8 #[.agg #[.int .i64 2, .int .i64 a, .int .i64 tw, .int .i64 n, .string s, .bool li, .bool o]] w fun e w' => e = .returned (.string ⟨(tkV 2 n s o).toArray⟩) ∧ Below w.heap.size w w' := by
  rw [tkV_name (by omega)]
  obtain ⟨W1, hW1⟩ : ∃ W1, W1 = w.alloc (.cells #[.int .i64 2, .int .i64 a, .int .i64 tw, .int .i64 n, .string s, .bool li, .bool o] 23) := ⟨_, rfl⟩
  have hB1 : Below w.heap.size w W1 := by rw [hW1]; exact box_new w _
  have hx1 : W1.heap[w.heap.size]? = some (.cells #[.int .i64 2, .int .i64 a, .int .i64 tw, .int .i64 n, .string s, .bool li, .bool o] 23 (0, 0)) := by rw [hW1]; exact heap_alloc_new w _
  have k0 := Lib.cell_of_heap hx1 0
  have k3 := Lib.cell_of_heap hx1 3
  have k4 := Lib.cell_of_heap hx1 4
  have k6 := Lib.cell_of_heap hx1 6
  simp at k0 k3 k4 k6
  have HW := Lib.hid hW1
  have HB := Lib.hid hB1
  have HX := Lib.hid hx1
  clear hW1 hB1 hx1
  go_enter Tryz.func8, Tryz.ntmps8
  go_upto_region 1 with fail
  rw [← HW.out]
  go_wp2
  go_ret
  exact ⟨rfl, HB.out⟩
set_option linter.unusedVariables false in
set_option maxRecDepth 100000 in
set_option maxHeartbeats 1000000 in
theorem rt_name5 (a tw n : Int) (s : ByteArray) (li o : Bool) (w : World) (hs : s.size ≤ 1000000) :
    Calls Tryz.prog 8 #[.agg #[.int .i64 5, .int .i64 a, .int .i64 tw, .int .i64 n, .string s, .bool li, .bool o]] w fun e w' => e = .returned (.string ⟨(tkV 5 n s o).toArray⟩) ∧ Below w.heap.size w w' := by
  rw [tkV_name (by omega)]
  obtain ⟨W1, hW1⟩ : ∃ W1, W1 = w.alloc (.cells #[.int .i64 5, .int .i64 a, .int .i64 tw, .int .i64 n, .string s, .bool li, .bool o] 23) := ⟨_, rfl⟩
  have hB1 : Below w.heap.size w W1 := by rw [hW1]; exact box_new w _
  have hx1 : W1.heap[w.heap.size]? = some (.cells #[.int .i64 5, .int .i64 a, .int .i64 tw, .int .i64 n, .string s, .bool li, .bool o] 23 (0, 0)) := by rw [hW1]; exact heap_alloc_new w _
  have k0 := Lib.cell_of_heap hx1 0
  have k3 := Lib.cell_of_heap hx1 3
  have k4 := Lib.cell_of_heap hx1 4
  have k6 := Lib.cell_of_heap hx1 6
  simp at k0 k3 k4 k6
  have HW := Lib.hid hW1
  have HB := Lib.hid hB1
  have HX := Lib.hid hx1
  clear hW1 hB1 hx1
  go_enter Tryz.func8, Tryz.ntmps8
  go_upto_region 1 with fail
  rw [← HW.out]
  go_wp2
  go_ret
  exact ⟨rfl, HB.out⟩
set_option linter.unusedVariables false in
set_option maxRecDepth 100000 in
set_option maxHeartbeats 1000000 in
theorem rt_num (a tw n : Int) (s : ByteArray) (li o : Bool) (w : World) (hs : s.size ≤ 1000000) (h0 : -9223372036854775808 ≤ n) (h1 : n ≤ 9223372036854775807) :
    Calls Tryz.prog 8 #[.agg #[.int .i64 3, .int .i64 a, .int .i64 tw, .int .i64 n, .string s, .bool li, .bool o]] w fun e w' => e = .returned (.string ⟨(tkV 3 n s o).toArray⟩) ∧ Below w.heap.size w w' := by
  rw [tkV_num]
  have HD := Lib.hid (fun W => decimal_any n W h0 h1)
  obtain ⟨W1, hW1⟩ : ∃ W1, W1 = w.alloc (.cells #[.int .i64 3, .int .i64 a, .int .i64 tw, .int .i64 n, .string s, .bool li, .bool o] 23) := ⟨_, rfl⟩
  have hB1 : Below w.heap.size w W1 := by rw [hW1]; exact box_new w _
  have hx1 : W1.heap[w.heap.size]? = some (.cells #[.int .i64 3, .int .i64 a, .int .i64 tw, .int .i64 n, .string s, .bool li, .bool o] 23 (0, 0)) := by rw [hW1]; exact heap_alloc_new w _
  have k0 := Lib.cell_of_heap hx1 0
  have k3 := Lib.cell_of_heap hx1 3
  have k4 := Lib.cell_of_heap hx1 4
  have k6 := Lib.cell_of_heap hx1 6
  simp at k0 k3 k4 k6
  have HW := Lib.hid hW1
  have HB := Lib.hid hB1
  have HX := Lib.hid hx1
  clear hW1 hB1 hx1
  go_enter Tryz.func8, Tryz.ntmps8
  go_upto_region 1 with fail
  rw [← HW.out]
  go_wp2_with fail
  refine (HD.out _).mono ?_
  rintro e w5 ⟨rfl, hb⟩
  have HB5 := Lib.hid (t_thr HB.out hb HB.out.size)
  clear hb
  go_wp2
  go_ret
  exact ⟨rfl, HB5.out⟩
set_option linter.unusedVariables false in
set_option maxRecDepth 100000 in
set_option maxHeartbeats 1000000 in
theorem rt_text (a tw n : Int) (s : ByteArray) (li o : Bool) (w : World) (hs : s.size ≤ 1000000) :
    Calls Tryz.prog 8 #[.agg #[.int .i64 4, .int .i64 a, .int .i64 tw, .int .i64 n, .string s, .bool li, .bool o]] w fun e w' => e = .returned (.string ⟨(34 :: (wL mkT s.data.toList ++ [34])).toArray⟩) ∧ Below w.heap.size w w' := by
  have HD := Lib.hid (fun W => written_any s ⟨#[34, 92]⟩ W (by omega) (by decide))
  rw [codes_T] at HD
  obtain ⟨p, hp⟩ : ∃ p : ByteArray, p = ⟨(wL mkT s.data.toList).toArray⟩ := ⟨_, rfl⟩
  have hpz : p.size ≤ 4000000 := by rw [hp]; exact wl_size _ s hs
  rw [← hp] at HD
  have HP := Lib.hid hp
  clear hp
  obtain ⟨W1, hW1⟩ : ∃ W1, W1 = w.alloc (.cells #[.int .i64 4, .int .i64 a, .int .i64 tw, .int .i64 n, .string s, .bool li, .bool o] 23) := ⟨_, rfl⟩
  have hB1 : Below w.heap.size w W1 := by rw [hW1]; exact box_new w _
  have hx1 : W1.heap[w.heap.size]? = some (.cells #[.int .i64 4, .int .i64 a, .int .i64 tw, .int .i64 n, .string s, .bool li, .bool o] 23 (0, 0)) := by rw [hW1]; exact heap_alloc_new w _
  have k0 := Lib.cell_of_heap hx1 0
  have k3 := Lib.cell_of_heap hx1 3
  have k4 := Lib.cell_of_heap hx1 4
  have k6 := Lib.cell_of_heap hx1 6
  simp at k0 k3 k4 k6
  have HW := Lib.hid hW1
  have HB := Lib.hid hB1
  have HX := Lib.hid hx1
  clear hW1 hB1 hx1
  go_enter Tryz.func8, Tryz.ntmps8
  go_upto_region 1 with fail
  rw [← HW.out]
  go_wp2_with fail
  refine (HD.out _).mono ?_
  rintro e w5 ⟨rfl, hb⟩
  have HB5 := Lib.hid (t_thr HB.out hb HB.out.size)
  clear hb
  go_wp2
  go_ret
  refine ⟨?_, HB5.out⟩
  have e5 : (⟨#[34]⟩ : ByteArray) ++ p ++ ⟨#[34]⟩ = ⟨(34 :: (wL mkT s.data.toList ++ [34])).toArray⟩ := by
    rw [HP.out]
    exact ByteArray.ext (Array.ext' (by simp))
  rw [e5]
  rfl
set_option linter.unusedVariables false in
set_option maxRecDepth 100000 in
set_option maxHeartbeats 1000000 in
theorem rt_piece_tt (a tw n : Int) (s : ByteArray) (li : Bool) (w : World) (hs : s.size ≤ 1000000) (gn : (n == 1) = true) :
    Calls Tryz.prog 8 #[.agg #[.int .i64 6, .int .i64 a, .int .i64 tw, .int .i64 n, .string s, .bool li, .bool true]] w fun e w' => e = .returned (.string ⟨(125 :: (wL mkP s.data.toList ++ [36, 123])).toArray⟩) ∧ Below w.heap.size w w' := by
  have HD := Lib.hid (fun W => written_any s ⟨#[96, 36, 92]⟩ W (by omega) (by decide))
  rw [codes_P] at HD
  obtain ⟨p, hp⟩ : ∃ p : ByteArray, p = ⟨(wL mkP s.data.toList).toArray⟩ := ⟨_, rfl⟩
  have hpz : p.size ≤ 4000000 := by rw [hp]; exact wl_size _ s hs
  rw [← hp] at HD
  have HP := Lib.hid hp
  clear hp
  obtain ⟨W1, hW1⟩ : ∃ W1, W1 = w.alloc (.cells #[.int .i64 6, .int .i64 a, .int .i64 tw, .int .i64 n, .string s, .bool li, .bool true] 23) := ⟨_, rfl⟩
  have hB1 : Below w.heap.size w W1 := by rw [hW1]; exact box_new w _
  have hx1 : W1.heap[w.heap.size]? = some (.cells #[.int .i64 6, .int .i64 a, .int .i64 tw, .int .i64 n, .string s, .bool li, .bool true] 23 (0, 0)) := by rw [hW1]; exact heap_alloc_new w _
  have k0 := Lib.cell_of_heap hx1 0
  have k3 := Lib.cell_of_heap hx1 3
  have k4 := Lib.cell_of_heap hx1 4
  have k6 := Lib.cell_of_heap hx1 6
  simp at k0 k3 k4 k6
  have HW := Lib.hid hW1
  have HB := Lib.hid hB1
  have HX := Lib.hid hx1
  clear hW1 hB1 hx1
  go_enter Tryz.func8, Tryz.ntmps8
  go_upto_region 1 with fail
  rw [← HW.out]
  go_wp2_with fail
  refine (HD.out _).mono ?_
  rintro e w5 ⟨rfl, hb⟩
  have HB5 := Lib.hid (t_thr HB.out hb HB.out.size)
  clear hb
  go_wp2
  go_ret
  refine ⟨?_, HB5.out⟩
  have e5 : (⟨#[125]⟩ : ByteArray) ++ p ++ ⟨#[36, 123]⟩ = ⟨(125 :: (wL mkP s.data.toList ++ [36, 123])).toArray⟩ := by
    rw [HP.out]
    exact ByteArray.ext (Array.ext' (by simp))
  rw [e5]
  rfl
set_option linter.unusedVariables false in
set_option maxRecDepth 100000 in
set_option maxHeartbeats 1000000 in
theorem rt_piece_tf (a tw n : Int) (s : ByteArray) (li : Bool) (w : World) (hs : s.size ≤ 1000000) (gn : (n == 1) = false) :
    Calls Tryz.prog 8 #[.agg #[.int .i64 6, .int .i64 a, .int .i64 tw, .int .i64 n, .string s, .bool li, .bool true]] w fun e w' => e = .returned (.string ⟨(96 :: (wL mkP s.data.toList ++ [36, 123])).toArray⟩) ∧ Below w.heap.size w w' := by
  have HD := Lib.hid (fun W => written_any s ⟨#[96, 36, 92]⟩ W (by omega) (by decide))
  rw [codes_P] at HD
  obtain ⟨p, hp⟩ : ∃ p : ByteArray, p = ⟨(wL mkP s.data.toList).toArray⟩ := ⟨_, rfl⟩
  have hpz : p.size ≤ 4000000 := by rw [hp]; exact wl_size _ s hs
  rw [← hp] at HD
  have HP := Lib.hid hp
  clear hp
  obtain ⟨W1, hW1⟩ : ∃ W1, W1 = w.alloc (.cells #[.int .i64 6, .int .i64 a, .int .i64 tw, .int .i64 n, .string s, .bool li, .bool true] 23) := ⟨_, rfl⟩
  have hB1 : Below w.heap.size w W1 := by rw [hW1]; exact box_new w _
  have hx1 : W1.heap[w.heap.size]? = some (.cells #[.int .i64 6, .int .i64 a, .int .i64 tw, .int .i64 n, .string s, .bool li, .bool true] 23 (0, 0)) := by rw [hW1]; exact heap_alloc_new w _
  have k0 := Lib.cell_of_heap hx1 0
  have k3 := Lib.cell_of_heap hx1 3
  have k4 := Lib.cell_of_heap hx1 4
  have k6 := Lib.cell_of_heap hx1 6
  simp at k0 k3 k4 k6
  have HW := Lib.hid hW1
  have HB := Lib.hid hB1
  have HX := Lib.hid hx1
  clear hW1 hB1 hx1
  go_enter Tryz.func8, Tryz.ntmps8
  go_upto_region 1 with fail
  rw [← HW.out]
  go_wp2_with fail
  refine (HD.out _).mono ?_
  rintro e w5 ⟨rfl, hb⟩
  have HB5 := Lib.hid (t_thr HB.out hb HB.out.size)
  clear hb
  go_wp2
  go_ret
  refine ⟨?_, HB5.out⟩
  have e5 : (⟨#[96]⟩ : ByteArray) ++ p ++ ⟨#[36, 123]⟩ = ⟨(96 :: (wL mkP s.data.toList ++ [36, 123])).toArray⟩ := by
    rw [HP.out]
    exact ByteArray.ext (Array.ext' (by simp))
  rw [e5]
  rfl
set_option linter.unusedVariables false in
set_option maxRecDepth 100000 in
set_option maxHeartbeats 1000000 in
theorem rt_piece_ft (a tw n : Int) (s : ByteArray) (li : Bool) (w : World) (hs : s.size ≤ 1000000) (gn : (n == 1) = true) :
    Calls Tryz.prog 8 #[.agg #[.int .i64 6, .int .i64 a, .int .i64 tw, .int .i64 n, .string s, .bool li, .bool false]] w fun e w' => e = .returned (.string ⟨(125 :: (wL mkP s.data.toList ++ [96])).toArray⟩) ∧ Below w.heap.size w w' := by
  have HD := Lib.hid (fun W => written_any s ⟨#[96, 36, 92]⟩ W (by omega) (by decide))
  rw [codes_P] at HD
  obtain ⟨p, hp⟩ : ∃ p : ByteArray, p = ⟨(wL mkP s.data.toList).toArray⟩ := ⟨_, rfl⟩
  have hpz : p.size ≤ 4000000 := by rw [hp]; exact wl_size _ s hs
  rw [← hp] at HD
  have HP := Lib.hid hp
  clear hp
  obtain ⟨W1, hW1⟩ : ∃ W1, W1 = w.alloc (.cells #[.int .i64 6, .int .i64 a, .int .i64 tw, .int .i64 n, .string s, .bool li, .bool false] 23) := ⟨_, rfl⟩
  have hB1 : Below w.heap.size w W1 := by rw [hW1]; exact box_new w _
  have hx1 : W1.heap[w.heap.size]? = some (.cells #[.int .i64 6, .int .i64 a, .int .i64 tw, .int .i64 n, .string s, .bool li, .bool false] 23 (0, 0)) := by rw [hW1]; exact heap_alloc_new w _
  have k0 := Lib.cell_of_heap hx1 0
  have k3 := Lib.cell_of_heap hx1 3
  have k4 := Lib.cell_of_heap hx1 4
  have k6 := Lib.cell_of_heap hx1 6
  simp at k0 k3 k4 k6
  have HW := Lib.hid hW1
  have HB := Lib.hid hB1
  have HX := Lib.hid hx1
  clear hW1 hB1 hx1
  go_enter Tryz.func8, Tryz.ntmps8
  go_upto_region 1 with fail
  rw [← HW.out]
  go_wp2_with fail
  refine (HD.out _).mono ?_
  rintro e w5 ⟨rfl, hb⟩
  have HB5 := Lib.hid (t_thr HB.out hb HB.out.size)
  clear hb
  go_wp2
  go_ret
  refine ⟨?_, HB5.out⟩
  have e5 : (⟨#[125]⟩ : ByteArray) ++ p ++ ⟨#[96]⟩ = ⟨(125 :: (wL mkP s.data.toList ++ [96])).toArray⟩ := by
    rw [HP.out]
    exact ByteArray.ext (Array.ext' (by simp))
  rw [e5]
  rfl
set_option linter.unusedVariables false in
set_option maxRecDepth 100000 in
set_option maxHeartbeats 1000000 in
theorem rt_piece_ff (a tw n : Int) (s : ByteArray) (li : Bool) (w : World) (hs : s.size ≤ 1000000) (gn : (n == 1) = false) :
    Calls Tryz.prog 8 #[.agg #[.int .i64 6, .int .i64 a, .int .i64 tw, .int .i64 n, .string s, .bool li, .bool false]] w fun e w' => e = .returned (.string ⟨(96 :: (wL mkP s.data.toList ++ [96])).toArray⟩) ∧ Below w.heap.size w w' := by
  have HD := Lib.hid (fun W => written_any s ⟨#[96, 36, 92]⟩ W (by omega) (by decide))
  rw [codes_P] at HD
  obtain ⟨p, hp⟩ : ∃ p : ByteArray, p = ⟨(wL mkP s.data.toList).toArray⟩ := ⟨_, rfl⟩
  have hpz : p.size ≤ 4000000 := by rw [hp]; exact wl_size _ s hs
  rw [← hp] at HD
  have HP := Lib.hid hp
  clear hp
  obtain ⟨W1, hW1⟩ : ∃ W1, W1 = w.alloc (.cells #[.int .i64 6, .int .i64 a, .int .i64 tw, .int .i64 n, .string s, .bool li, .bool false] 23) := ⟨_, rfl⟩
  have hB1 : Below w.heap.size w W1 := by rw [hW1]; exact box_new w _
  have hx1 : W1.heap[w.heap.size]? = some (.cells #[.int .i64 6, .int .i64 a, .int .i64 tw, .int .i64 n, .string s, .bool li, .bool false] 23 (0, 0)) := by rw [hW1]; exact heap_alloc_new w _
  have k0 := Lib.cell_of_heap hx1 0
  have k3 := Lib.cell_of_heap hx1 3
  have k4 := Lib.cell_of_heap hx1 4
  have k6 := Lib.cell_of_heap hx1 6
  simp at k0 k3 k4 k6
  have HW := Lib.hid hW1
  have HB := Lib.hid hB1
  have HX := Lib.hid hx1
  clear hW1 hB1 hx1
  go_enter Tryz.func8, Tryz.ntmps8
  go_upto_region 1 with fail
  rw [← HW.out]
  go_wp2_with fail
  refine (HD.out _).mono ?_
  rintro e w5 ⟨rfl, hb⟩
  have HB5 := Lib.hid (t_thr HB.out hb HB.out.size)
  clear hb
  go_wp2
  go_ret
  refine ⟨?_, HB5.out⟩
  have e5 : (⟨#[96]⟩ : ByteArray) ++ p ++ ⟨#[96]⟩ = ⟨(96 :: (wL mkP s.data.toList ++ [96])).toArray⟩ := by
    rw [HP.out]
    exact ByteArray.ext (Array.ext' (by simp))
  rw [e5]
  rfl
set_option linter.unusedVariables false in
set_option maxRecDepth 100000 in
set_option maxHeartbeats 1000000 in
theorem rt_none (kd a tw n : Int) (s : ByteArray) (li o : Bool) (w : World) (h1 : (kd == 1) = false) (h2 : (kd == 2) = false) (h5 : (kd == 5) = false) (h3 : (kd == 3) = false) (h4 : (kd == 4) = false) (h6 : (kd != 6) = true) :
    Calls Tryz.prog 8 #[.agg #[.int .i64 kd, .int .i64 a, .int .i64 tw, .int .i64 n, .string s, .bool li, .bool o]] w fun e w' => e = .returned (.string ⟨#[]⟩) ∧ Below w.heap.size w w' := by
  obtain ⟨W1, hW1⟩ : ∃ W1, W1 = w.alloc (.cells #[.int .i64 kd, .int .i64 a, .int .i64 tw, .int .i64 n, .string s, .bool li, .bool o] 23) := ⟨_, rfl⟩
  have hB1 : Below w.heap.size w W1 := by rw [hW1]; exact box_new w _
  have hx1 : W1.heap[w.heap.size]? = some (.cells #[.int .i64 kd, .int .i64 a, .int .i64 tw, .int .i64 n, .string s, .bool li, .bool o] 23 (0, 0)) := by rw [hW1]; exact heap_alloc_new w _
  have k0 := Lib.cell_of_heap hx1 0
  have k3 := Lib.cell_of_heap hx1 3
  have k4 := Lib.cell_of_heap hx1 4
  have k6 := Lib.cell_of_heap hx1 6
  simp at k0 k3 k4 k6
  have HW := Lib.hid hW1
  have HB := Lib.hid hB1
  have HX := Lib.hid hx1
  clear hW1 hB1 hx1
  go_enter Tryz.func8, Tryz.ntmps8
  go_upto_region 1 with fail
  rw [← HW.out]
  go_wp2
  go_ret
  exact ⟨rfl, HB.out⟩
theorem rtext1_any (kd a tw n : Int) (s : ByteArray) (li o : Bool) (w : World) (hs : s.size ≤ 1000000) (h0 : -9223372036854775808 ≤ n) (h1 : n ≤ 9223372036854775807) :
    Calls Tryz.prog 8 #[.agg #[.int .i64 kd, .int .i64 a, .int .i64 tw, .int .i64 n, .string s, .bool li, .bool o]] w fun e w' => e = .returned (.string ⟨(tkV kd n s o).toArray⟩) ∧ Below w.heap.size w w' := by
  by_cases c1 : kd = 1
  · subst c1; exact rt_name1 a tw n s li o w hs
  by_cases c2 : kd = 2
  · subst c2; exact rt_name2 a tw n s li o w hs
  by_cases c5 : kd = 5
  · subst c5; exact rt_name5 a tw n s li o w hs
  by_cases c3 : kd = 3
  · subst c3; exact rt_num a tw n s li o w hs h0 h1
  by_cases c4 : kd = 4
  · subst c4
    rw [tkV_text]
    exact rt_text a tw n s li o w hs
  by_cases c6 : kd = 6
  · subst c6
    rw [tkV_piece]
    by_cases cn : n = 1
    · rw [if_pos cn]
      cases o with
      | true => exact rt_piece_tt a tw n s li w hs (by simpa using cn)
      | false => exact rt_piece_ft a tw n s li w hs (by simpa using cn)
    · rw [if_neg cn]
      cases o with
      | true => exact rt_piece_tf a tw n s li w hs (by simpa using cn)
      | false => exact rt_piece_ff a tw n s li w hs (by simpa using cn)
  rw [tkV_none c1 c2 c5 c3 c4 c6]
  exact rt_none kd a tw n s li o w (by simpa using c1) (by simpa using c2) (by simpa using c5) (by simpa using c3) (by simpa using c4) (by simpa using c6)
end Go.Proofs.YthkjdllpgcocpaaGreatDoor
