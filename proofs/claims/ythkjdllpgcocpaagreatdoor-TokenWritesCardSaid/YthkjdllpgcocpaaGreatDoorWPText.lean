/-
  pieceText of package token at this translation.
-/
import Derived.Test.YthkjdllpgcocpaaGreatDoorWPiece
namespace Go.Proofs.YthkjdllpgcocpaaGreatDoor
open Go.RowKit

theorem wL_p (s : ByteArray) (k : Nat) (h : k < s.size) : wL mkP (s.data.toList.take (k + 1)) = wL mkP (s.data.toList.take k) ++ (pI ((s[k]'h).toNat : Int)).map byt := by
  rw [wL_take mkP s k h, wI_p]
theorem ext_one (s : ByteArray) (k : Nat) (h : k < s.size) : (s.extract k (k + 1)).data.toList = [s[k]] := by
  rw [Lib.extract_data]
  have : s.data.toList.drop k = s[k] :: s.data.toList.drop (k + 1) := by
    rw [List.drop_eq_getElem_cons (by simpa using h)]
    simp [ByteArray.getElem_eq_getElem_data]
  rw [this, show k + 1 - k = 1 from by omega]
  rfl
set_option linter.unusedVariables false in
set_option maxRecDepth 100000 in
set_option maxHeartbeats 2000000 in
theorem pt_tt (kd a tw n : Int) (s : ByteArray) (li : Bool) (w : World) (hs : s.size ≤ 1000000) (gn : (n == 1) = true) :
    Calls Tryz.prog 22 #[.agg #[.int .i64 kd, .int .i64 a, .int .i64 tw, .int .i64 n, .string s, .bool li, .bool true]] w fun e w' => e = .returned (.string ⟨(125 :: (wL mkP s.data.toList ++ [36, 123])).toArray⟩) ∧ Below w.heap.size w w' := by
  obtain ⟨W1, hW1⟩ : ∃ W1, W1 = w.alloc (.cells #[.int .i64 kd, .int .i64 a, .int .i64 tw, .int .i64 n, .string s, .bool li, .bool true] 27) := ⟨_, rfl⟩
  have hB1 : Below w.heap.size w W1 := by rw [hW1]; exact box_new w _
  have hx1 : W1.heap[w.heap.size]? = some (.cells #[.int .i64 kd, .int .i64 a, .int .i64 tw, .int .i64 n, .string s, .bool li, .bool true] 27 (0, 0)) := by rw [hW1]; exact heap_alloc_new w _
  have k0 := Lib.cell_of_heap hx1 0
  have k3 := Lib.cell_of_heap hx1 3
  have k4 := Lib.cell_of_heap hx1 4
  have k6 := Lib.cell_of_heap hx1 6
  simp at k0 k3 k4 k6
  have HW := Lib.hid hW1
  have HB := Lib.hid hB1
  have HX := Lib.hid hx1
  clear hW1 hB1 hx1
  go_enter Tryz.func22, Tryz.ntmps22
  go_upto_region 1 with fail
  rw [← HW.out]
  go_upto_region 6 with fail
  go_wp2_with fail
  refine (writeString_any W1.heap.size W1.heap.size [] ⟨#[125]⟩ _ (Lib.fresh_isBuilder 53 5 W1) (by decide) (by simp)).mono ?_
  rintro e w2 ⟨rfl, hB2, hb2⟩
  have hb2' : Below W1.heap.size W1 w2 := (box_new W1 _).trans hb2
  have hI2 : Lib.IsBuilder 53 5 W1.heap.size W1.heap.size (Lib.byteCells (125 :: wL mkP (s.data.toList.take 0))) w2 := isB_eq (Or.inr hB2) (by simp [Lib.strCells, Lib.byteCells, wL])
  have HV := Lib.hid (And.intro hI2 hb2')
  have hwz : w.heap.size < W1.heap.size := lt_heap HX.out
  have k4 := (hb2'.cell (p := ⟨w.heap.size, 4, none⟩) hwz).trans k4
  have HZ := Lib.hid hwz
  clear hI2 hb2' hB2 hb2 k0 k3 k6
  go_wp2
  go_loopw [17] (fun i wr => ∃ k : Nat, i = .int .i64 k ∧ k ≤ s.size ∧ Lib.IsBuilder 53 5 W1.heap.size W1.heap.size (Lib.byteCells (125 :: wL mkP (s.data.toList.take k))) wr ∧ Below W1.heap.size W1 wr) (fun i _ => s.size - natOf i)
  case atStart => exact ⟨0, rfl, Nat.zero_le _, HV.out.1, HV.out.2⟩
  case round =>
    obtain ⟨k, rfl, hk, hI, hbw⟩ := hrel
    clear HV k4
    have hsz : W1.heap.size ≤ wr.heap.size := hbw.size
    have hx4 := (hbw.block w.heap.size HZ.out).trans HX.out
    have k4 := Lib.cell_of_heap hx4 4
    simp at k4
    have hbl : (Lib.byteCells (125 :: wL mkP (s.data.toList.take k))).length ≤ 4 * k + 1 := by
      rw [Lib.byteCells_length, List.length_cons]
      have := wL_tl mkP s k
      omega
    have HL := Lib.hid hbl
    clear hbl hx4
    by_cases hks : k < s.size
    · have g1 : decide ((k : Int) < (s.size : Int)) = true := decide_eq_true (by omega)
      obtain ⟨c, hc⟩ : ∃ c : UInt8, s[k] = c := ⟨_, rfl⟩
      have hts := wL_p s k hks
      have hex := ext_one s k hks
      rw [hc] at hts hex
      have HT := Lib.hid hts
      have HEX := Lib.hid hex
      clear hts hex
      have hk1 : (k : Int) + 1 ≤ (s.size : Int) := by omega
      go_wp2_with fail
      refine (pieceByte_any W1.heap.size W1.heap.size _ (s.extract k (k + 1)) c _ HEX.out hI (by have := HL.out; omega) hsz).mono ?_
      rintro e w3 ⟨rfl, hI3, hb3⟩
      have HN := Lib.hid (And.intro hI3 (hbw.trans hb3))
      clear hI hI3 hb3 hbw
      go_wp2
      go_roundw
      case rel =>
        refine ⟨k + 1, by go_num, by omega, isB_eq HN.out.1 ?_, HN.out.2⟩
        have hb := pI_b c.toNat (by omega) (by have := c.toNat_lt; omega)
        rw [HT.out, ← List.cons_append, Lib.byteCells_append, byt_cells _ hb]
      case measure => simp [natOf]; omega
    · have g1 : decide ((k : Int) < (s.size : Int)) = false := decide_eq_false (by omega)
      obtain rfl : k = s.size := by omega
      have ht : s.data.toList.take s.size = s.data.toList := List.take_of_length_le (by simp)
      rw [ht] at hI HL
      have HT := Lib.hid ht
      clear ht
      have HL2 := Lib.hid (show (⟨#[36, 123]⟩ : ByteArray).size ≤ 2 from by decide)
      go_wp2_with fail
      refine (writeString_any W1.heap.size W1.heap.size _ ⟨#[36, 123]⟩ _ hI (by have h2 := HL2.out; have h3 := HL.out; omega) hsz).mono ?_
      rintro e w3 ⟨rfl, hB3, hb3⟩
      have e34 : Lib.byteCells (125 :: wL mkP s.data.toList) ++ Lib.strCells ⟨#[36, 123]⟩ = Lib.byteCells (125 :: (wL mkP s.data.toList ++ [36, 123])) := by
        rw [← List.cons_append, Lib.byteCells_append]; rfl
      have hB4 : Lib.IsBuilder 53 5 W1.heap.size W1.heap.size (Lib.byteCells (125 :: (wL mkP s.data.toList ++ [36, 123]))) w3 := isB_eq (Or.inr hB3) e34
      have HB3 := Lib.hid (hbw.trans hb3)
      clear e34 hB3 hI
      go_wp2_with fail
      refine (Tryz.Builder_String_any W1.heap.size W1.heap.size _ _ hB4 (by have := HB3.out.size; omega)).mono ?_
      rintro e w4 ⟨rfl, hb4⟩
      have HB4 := Lib.hid (HB3.out.trans hb4)
      clear hb4
      go_wp2
      go_ret
      exact ⟨rfl, t_thr HB.out HB4.out HB.out.size⟩
set_option linter.unusedVariables false in
set_option maxRecDepth 100000 in
set_option maxHeartbeats 2000000 in
theorem pt_tf (kd a tw n : Int) (s : ByteArray) (li : Bool) (w : World) (hs : s.size ≤ 1000000) (gn : (n == 1) = false) :
    Calls Tryz.prog 22 #[.agg #[.int .i64 kd, .int .i64 a, .int .i64 tw, .int .i64 n, .string s, .bool li, .bool true]] w fun e w' => e = .returned (.string ⟨(96 :: (wL mkP s.data.toList ++ [36, 123])).toArray⟩) ∧ Below w.heap.size w w' := by
  obtain ⟨W1, hW1⟩ : ∃ W1, W1 = w.alloc (.cells #[.int .i64 kd, .int .i64 a, .int .i64 tw, .int .i64 n, .string s, .bool li, .bool true] 27) := ⟨_, rfl⟩
  have hB1 : Below w.heap.size w W1 := by rw [hW1]; exact box_new w _
  have hx1 : W1.heap[w.heap.size]? = some (.cells #[.int .i64 kd, .int .i64 a, .int .i64 tw, .int .i64 n, .string s, .bool li, .bool true] 27 (0, 0)) := by rw [hW1]; exact heap_alloc_new w _
  have k0 := Lib.cell_of_heap hx1 0
  have k3 := Lib.cell_of_heap hx1 3
  have k4 := Lib.cell_of_heap hx1 4
  have k6 := Lib.cell_of_heap hx1 6
  simp at k0 k3 k4 k6
  have HW := Lib.hid hW1
  have HB := Lib.hid hB1
  have HX := Lib.hid hx1
  clear hW1 hB1 hx1
  go_enter Tryz.func22, Tryz.ntmps22
  go_upto_region 1 with fail
  rw [← HW.out]
  go_upto_region 6 with fail
  go_wp2_with fail
  refine (writeString_any W1.heap.size W1.heap.size [] ⟨#[96]⟩ _ (Lib.fresh_isBuilder 53 5 W1) (by decide) (by simp)).mono ?_
  rintro e w2 ⟨rfl, hB2, hb2⟩
  have hb2' : Below W1.heap.size W1 w2 := (box_new W1 _).trans hb2
  have hI2 : Lib.IsBuilder 53 5 W1.heap.size W1.heap.size (Lib.byteCells (96 :: wL mkP (s.data.toList.take 0))) w2 := isB_eq (Or.inr hB2) (by simp [Lib.strCells, Lib.byteCells, wL])
  have HV := Lib.hid (And.intro hI2 hb2')
  have hwz : w.heap.size < W1.heap.size := lt_heap HX.out
  have k4 := (hb2'.cell (p := ⟨w.heap.size, 4, none⟩) hwz).trans k4
  have HZ := Lib.hid hwz
  clear hI2 hb2' hB2 hb2 k0 k3 k6
  go_wp2
  go_loopw [17] (fun i wr => ∃ k : Nat, i = .int .i64 k ∧ k ≤ s.size ∧ Lib.IsBuilder 53 5 W1.heap.size W1.heap.size (Lib.byteCells (96 :: wL mkP (s.data.toList.take k))) wr ∧ Below W1.heap.size W1 wr) (fun i _ => s.size - natOf i)
  case atStart => exact ⟨0, rfl, Nat.zero_le _, HV.out.1, HV.out.2⟩
  case round =>
    obtain ⟨k, rfl, hk, hI, hbw⟩ := hrel
    clear HV k4
    have hsz : W1.heap.size ≤ wr.heap.size := hbw.size
    have hx4 := (hbw.block w.heap.size HZ.out).trans HX.out
    have k4 := Lib.cell_of_heap hx4 4
    simp at k4
    have hbl : (Lib.byteCells (96 :: wL mkP (s.data.toList.take k))).length ≤ 4 * k + 1 := by
      rw [Lib.byteCells_length, List.length_cons]
      have := wL_tl mkP s k
      omega
    have HL := Lib.hid hbl
    clear hbl hx4
    by_cases hks : k < s.size
    · have g1 : decide ((k : Int) < (s.size : Int)) = true := decide_eq_true (by omega)
      obtain ⟨c, hc⟩ : ∃ c : UInt8, s[k] = c := ⟨_, rfl⟩
      have hts := wL_p s k hks
      have hex := ext_one s k hks
      rw [hc] at hts hex
      have HT := Lib.hid hts
      have HEX := Lib.hid hex
      clear hts hex
      have hk1 : (k : Int) + 1 ≤ (s.size : Int) := by omega
      go_wp2_with fail
      refine (pieceByte_any W1.heap.size W1.heap.size _ (s.extract k (k + 1)) c _ HEX.out hI (by have := HL.out; omega) hsz).mono ?_
      rintro e w3 ⟨rfl, hI3, hb3⟩
      have HN := Lib.hid (And.intro hI3 (hbw.trans hb3))
      clear hI hI3 hb3 hbw
      go_wp2
      go_roundw
      case rel =>
        refine ⟨k + 1, by go_num, by omega, isB_eq HN.out.1 ?_, HN.out.2⟩
        have hb := pI_b c.toNat (by omega) (by have := c.toNat_lt; omega)
        rw [HT.out, ← List.cons_append, Lib.byteCells_append, byt_cells _ hb]
      case measure => simp [natOf]; omega
    · have g1 : decide ((k : Int) < (s.size : Int)) = false := decide_eq_false (by omega)
      obtain rfl : k = s.size := by omega
      have ht : s.data.toList.take s.size = s.data.toList := List.take_of_length_le (by simp)
      rw [ht] at hI HL
      have HT := Lib.hid ht
      clear ht
      have HL2 := Lib.hid (show (⟨#[36, 123]⟩ : ByteArray).size ≤ 2 from by decide)
      go_wp2_with fail
      refine (writeString_any W1.heap.size W1.heap.size _ ⟨#[36, 123]⟩ _ hI (by have h2 := HL2.out; have h3 := HL.out; omega) hsz).mono ?_
      rintro e w3 ⟨rfl, hB3, hb3⟩
      have e34 : Lib.byteCells (96 :: wL mkP s.data.toList) ++ Lib.strCells ⟨#[36, 123]⟩ = Lib.byteCells (96 :: (wL mkP s.data.toList ++ [36, 123])) := by
        rw [← List.cons_append, Lib.byteCells_append]; rfl
      have hB4 : Lib.IsBuilder 53 5 W1.heap.size W1.heap.size (Lib.byteCells (96 :: (wL mkP s.data.toList ++ [36, 123]))) w3 := isB_eq (Or.inr hB3) e34
      have HB3 := Lib.hid (hbw.trans hb3)
      clear e34 hB3 hI
      go_wp2_with fail
      refine (Tryz.Builder_String_any W1.heap.size W1.heap.size _ _ hB4 (by have := HB3.out.size; omega)).mono ?_
      rintro e w4 ⟨rfl, hb4⟩
      have HB4 := Lib.hid (HB3.out.trans hb4)
      clear hb4
      go_wp2
      go_ret
      exact ⟨rfl, t_thr HB.out HB4.out HB.out.size⟩
set_option linter.unusedVariables false in
set_option maxRecDepth 100000 in
set_option maxHeartbeats 2000000 in
theorem pt_ft (kd a tw n : Int) (s : ByteArray) (li : Bool) (w : World) (hs : s.size ≤ 1000000) (gn : (n == 1) = true) :
    Calls Tryz.prog 22 #[.agg #[.int .i64 kd, .int .i64 a, .int .i64 tw, .int .i64 n, .string s, .bool li, .bool false]] w fun e w' => e = .returned (.string ⟨(125 :: (wL mkP s.data.toList ++ [96])).toArray⟩) ∧ Below w.heap.size w w' := by
  obtain ⟨W1, hW1⟩ : ∃ W1, W1 = w.alloc (.cells #[.int .i64 kd, .int .i64 a, .int .i64 tw, .int .i64 n, .string s, .bool li, .bool false] 27) := ⟨_, rfl⟩
  have hB1 : Below w.heap.size w W1 := by rw [hW1]; exact box_new w _
  have hx1 : W1.heap[w.heap.size]? = some (.cells #[.int .i64 kd, .int .i64 a, .int .i64 tw, .int .i64 n, .string s, .bool li, .bool false] 27 (0, 0)) := by rw [hW1]; exact heap_alloc_new w _
  have k0 := Lib.cell_of_heap hx1 0
  have k3 := Lib.cell_of_heap hx1 3
  have k4 := Lib.cell_of_heap hx1 4
  have k6 := Lib.cell_of_heap hx1 6
  simp at k0 k3 k4 k6
  have HW := Lib.hid hW1
  have HB := Lib.hid hB1
  have HX := Lib.hid hx1
  clear hW1 hB1 hx1
  go_enter Tryz.func22, Tryz.ntmps22
  go_upto_region 1 with fail
  rw [← HW.out]
  go_upto_region 6 with fail
  go_wp2_with fail
  refine (writeString_any W1.heap.size W1.heap.size [] ⟨#[125]⟩ _ (Lib.fresh_isBuilder 53 5 W1) (by decide) (by simp)).mono ?_
  rintro e w2 ⟨rfl, hB2, hb2⟩
  have hb2' : Below W1.heap.size W1 w2 := (box_new W1 _).trans hb2
  have hI2 : Lib.IsBuilder 53 5 W1.heap.size W1.heap.size (Lib.byteCells (125 :: wL mkP (s.data.toList.take 0))) w2 := isB_eq (Or.inr hB2) (by simp [Lib.strCells, Lib.byteCells, wL])
  have HV := Lib.hid (And.intro hI2 hb2')
  have hwz : w.heap.size < W1.heap.size := lt_heap HX.out
  have k4 := (hb2'.cell (p := ⟨w.heap.size, 4, none⟩) hwz).trans k4
  have HZ := Lib.hid hwz
  clear hI2 hb2' hB2 hb2 k0 k3 k6
  go_wp2
  go_loopw [17] (fun i wr => ∃ k : Nat, i = .int .i64 k ∧ k ≤ s.size ∧ Lib.IsBuilder 53 5 W1.heap.size W1.heap.size (Lib.byteCells (125 :: wL mkP (s.data.toList.take k))) wr ∧ Below W1.heap.size W1 wr) (fun i _ => s.size - natOf i)
  case atStart => exact ⟨0, rfl, Nat.zero_le _, HV.out.1, HV.out.2⟩
  case round =>
    obtain ⟨k, rfl, hk, hI, hbw⟩ := hrel
    clear HV k4
    have hsz : W1.heap.size ≤ wr.heap.size := hbw.size
    have hx4 := (hbw.block w.heap.size HZ.out).trans HX.out
    have k4 := Lib.cell_of_heap hx4 4
    simp at k4
    have hbl : (Lib.byteCells (125 :: wL mkP (s.data.toList.take k))).length ≤ 4 * k + 1 := by
      rw [Lib.byteCells_length, List.length_cons]
      have := wL_tl mkP s k
      omega
    have HL := Lib.hid hbl
    clear hbl hx4
    by_cases hks : k < s.size
    · have g1 : decide ((k : Int) < (s.size : Int)) = true := decide_eq_true (by omega)
      obtain ⟨c, hc⟩ : ∃ c : UInt8, s[k] = c := ⟨_, rfl⟩
      have hts := wL_p s k hks
      have hex := ext_one s k hks
      rw [hc] at hts hex
      have HT := Lib.hid hts
      have HEX := Lib.hid hex
      clear hts hex
      have hk1 : (k : Int) + 1 ≤ (s.size : Int) := by omega
      go_wp2_with fail
      refine (pieceByte_any W1.heap.size W1.heap.size _ (s.extract k (k + 1)) c _ HEX.out hI (by have := HL.out; omega) hsz).mono ?_
      rintro e w3 ⟨rfl, hI3, hb3⟩
      have HN := Lib.hid (And.intro hI3 (hbw.trans hb3))
      clear hI hI3 hb3 hbw
      go_wp2
      go_roundw
      case rel =>
        refine ⟨k + 1, by go_num, by omega, isB_eq HN.out.1 ?_, HN.out.2⟩
        have hb := pI_b c.toNat (by omega) (by have := c.toNat_lt; omega)
        rw [HT.out, ← List.cons_append, Lib.byteCells_append, byt_cells _ hb]
      case measure => simp [natOf]; omega
    · have g1 : decide ((k : Int) < (s.size : Int)) = false := decide_eq_false (by omega)
      obtain rfl : k = s.size := by omega
      have ht : s.data.toList.take s.size = s.data.toList := List.take_of_length_le (by simp)
      rw [ht] at hI HL
      have HT := Lib.hid ht
      clear ht
      have HL2 := Lib.hid (show (⟨#[96]⟩ : ByteArray).size ≤ 2 from by decide)
      go_wp2_with fail
      refine (writeString_any W1.heap.size W1.heap.size _ ⟨#[96]⟩ _ hI (by have h2 := HL2.out; have h3 := HL.out; omega) hsz).mono ?_
      rintro e w3 ⟨rfl, hB3, hb3⟩
      have e34 : Lib.byteCells (125 :: wL mkP s.data.toList) ++ Lib.strCells ⟨#[96]⟩ = Lib.byteCells (125 :: (wL mkP s.data.toList ++ [96])) := by
        rw [← List.cons_append, Lib.byteCells_append]; rfl
      have hB4 : Lib.IsBuilder 53 5 W1.heap.size W1.heap.size (Lib.byteCells (125 :: (wL mkP s.data.toList ++ [96]))) w3 := isB_eq (Or.inr hB3) e34
      have HB3 := Lib.hid (hbw.trans hb3)
      clear e34 hB3 hI
      go_wp2_with fail
      refine (Tryz.Builder_String_any W1.heap.size W1.heap.size _ _ hB4 (by have := HB3.out.size; omega)).mono ?_
      rintro e w4 ⟨rfl, hb4⟩
      have HB4 := Lib.hid (HB3.out.trans hb4)
      clear hb4
      go_wp2
      go_ret
      exact ⟨rfl, t_thr HB.out HB4.out HB.out.size⟩
set_option linter.unusedVariables false in
set_option maxRecDepth 100000 in
set_option maxHeartbeats 2000000 in
theorem pt_ff (kd a tw n : Int) (s : ByteArray) (li : Bool) (w : World) (hs : s.size ≤ 1000000) (gn : (n == 1) = false) :
    Calls Tryz.prog 22 #[.agg #[.int .i64 kd, .int .i64 a, .int .i64 tw, .int .i64 n, .string s, .bool li, .bool false]] w fun e w' => e = .returned (.string ⟨(96 :: (wL mkP s.data.toList ++ [96])).toArray⟩) ∧ Below w.heap.size w w' := by
  obtain ⟨W1, hW1⟩ : ∃ W1, W1 = w.alloc (.cells #[.int .i64 kd, .int .i64 a, .int .i64 tw, .int .i64 n, .string s, .bool li, .bool false] 27) := ⟨_, rfl⟩
  have hB1 : Below w.heap.size w W1 := by rw [hW1]; exact box_new w _
  have hx1 : W1.heap[w.heap.size]? = some (.cells #[.int .i64 kd, .int .i64 a, .int .i64 tw, .int .i64 n, .string s, .bool li, .bool false] 27 (0, 0)) := by rw [hW1]; exact heap_alloc_new w _
  have k0 := Lib.cell_of_heap hx1 0
  have k3 := Lib.cell_of_heap hx1 3
  have k4 := Lib.cell_of_heap hx1 4
  have k6 := Lib.cell_of_heap hx1 6
  simp at k0 k3 k4 k6
  have HW := Lib.hid hW1
  have HB := Lib.hid hB1
  have HX := Lib.hid hx1
  clear hW1 hB1 hx1
  go_enter Tryz.func22, Tryz.ntmps22
  go_upto_region 1 with fail
  rw [← HW.out]
  go_upto_region 6 with fail
  go_wp2_with fail
  refine (writeString_any W1.heap.size W1.heap.size [] ⟨#[96]⟩ _ (Lib.fresh_isBuilder 53 5 W1) (by decide) (by simp)).mono ?_
  rintro e w2 ⟨rfl, hB2, hb2⟩
  have hb2' : Below W1.heap.size W1 w2 := (box_new W1 _).trans hb2
  have hI2 : Lib.IsBuilder 53 5 W1.heap.size W1.heap.size (Lib.byteCells (96 :: wL mkP (s.data.toList.take 0))) w2 := isB_eq (Or.inr hB2) (by simp [Lib.strCells, Lib.byteCells, wL])
  have HV := Lib.hid (And.intro hI2 hb2')
  have hwz : w.heap.size < W1.heap.size := lt_heap HX.out
  have k4 := (hb2'.cell (p := ⟨w.heap.size, 4, none⟩) hwz).trans k4
  have HZ := Lib.hid hwz
  clear hI2 hb2' hB2 hb2 k0 k3 k6
  go_wp2
  go_loopw [17] (fun i wr => ∃ k : Nat, i = .int .i64 k ∧ k ≤ s.size ∧ Lib.IsBuilder 53 5 W1.heap.size W1.heap.size (Lib.byteCells (96 :: wL mkP (s.data.toList.take k))) wr ∧ Below W1.heap.size W1 wr) (fun i _ => s.size - natOf i)
  case atStart => exact ⟨0, rfl, Nat.zero_le _, HV.out.1, HV.out.2⟩
  case round =>
    obtain ⟨k, rfl, hk, hI, hbw⟩ := hrel
    clear HV k4
    have hsz : W1.heap.size ≤ wr.heap.size := hbw.size
    have hx4 := (hbw.block w.heap.size HZ.out).trans HX.out
    have k4 := Lib.cell_of_heap hx4 4
    simp at k4
    have hbl : (Lib.byteCells (96 :: wL mkP (s.data.toList.take k))).length ≤ 4 * k + 1 := by
      rw [Lib.byteCells_length, List.length_cons]
      have := wL_tl mkP s k
      omega
    have HL := Lib.hid hbl
    clear hbl hx4
    by_cases hks : k < s.size
    · have g1 : decide ((k : Int) < (s.size : Int)) = true := decide_eq_true (by omega)
      obtain ⟨c, hc⟩ : ∃ c : UInt8, s[k] = c := ⟨_, rfl⟩
      have hts := wL_p s k hks
      have hex := ext_one s k hks
      rw [hc] at hts hex
      have HT := Lib.hid hts
      have HEX := Lib.hid hex
      clear hts hex
      have hk1 : (k : Int) + 1 ≤ (s.size : Int) := by omega
      go_wp2_with fail
      refine (pieceByte_any W1.heap.size W1.heap.size _ (s.extract k (k + 1)) c _ HEX.out hI (by have := HL.out; omega) hsz).mono ?_
      rintro e w3 ⟨rfl, hI3, hb3⟩
      have HN := Lib.hid (And.intro hI3 (hbw.trans hb3))
      clear hI hI3 hb3 hbw
      go_wp2
      go_roundw
      case rel =>
        refine ⟨k + 1, by go_num, by omega, isB_eq HN.out.1 ?_, HN.out.2⟩
        have hb := pI_b c.toNat (by omega) (by have := c.toNat_lt; omega)
        rw [HT.out, ← List.cons_append, Lib.byteCells_append, byt_cells _ hb]
      case measure => simp [natOf]; omega
    · have g1 : decide ((k : Int) < (s.size : Int)) = false := decide_eq_false (by omega)
      obtain rfl : k = s.size := by omega
      have ht : s.data.toList.take s.size = s.data.toList := List.take_of_length_le (by simp)
      rw [ht] at hI HL
      have HT := Lib.hid ht
      clear ht
      have HL2 := Lib.hid (show (⟨#[96]⟩ : ByteArray).size ≤ 2 from by decide)
      go_wp2_with fail
      refine (writeString_any W1.heap.size W1.heap.size _ ⟨#[96]⟩ _ hI (by have h2 := HL2.out; have h3 := HL.out; omega) hsz).mono ?_
      rintro e w3 ⟨rfl, hB3, hb3⟩
      have e34 : Lib.byteCells (96 :: wL mkP s.data.toList) ++ Lib.strCells ⟨#[96]⟩ = Lib.byteCells (96 :: (wL mkP s.data.toList ++ [96])) := by
        rw [← List.cons_append, Lib.byteCells_append]; rfl
      have hB4 : Lib.IsBuilder 53 5 W1.heap.size W1.heap.size (Lib.byteCells (96 :: (wL mkP s.data.toList ++ [96]))) w3 := isB_eq (Or.inr hB3) e34
      have HB3 := Lib.hid (hbw.trans hb3)
      clear e34 hB3 hI
      go_wp2_with fail
      refine (Tryz.Builder_String_any W1.heap.size W1.heap.size _ _ hB4 (by have := HB3.out.size; omega)).mono ?_
      rintro e w4 ⟨rfl, hb4⟩
      have HB4 := Lib.hid (HB3.out.trans hb4)
      clear hb4
      go_wp2
      go_ret
      exact ⟨rfl, t_thr HB.out HB4.out HB.out.size⟩
end Go.Proofs.YthkjdllpgcocpaaGreatDoor
