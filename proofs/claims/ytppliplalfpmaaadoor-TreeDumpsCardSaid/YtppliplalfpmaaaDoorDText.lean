/-
  Name and dumpText of package tree at this translation.
-/
import Derived.Test.YtppliplalfpmaaaDoorDmp
import Derived.Test.YtppliplalfpmaaaDoorKBuild
import Derived.Test.YtppliplalfpmaaaDoorSize
namespace Go.Proofs.YtppliplalfpmaaaDoor
open Go.RowKit

theorem isB_eq {B b : Nat} {bs cs : List Value} {w : World} (h : Lib.IsBuilder 49 5 B b bs w) (e : bs = cs) : Lib.IsBuilder 49 5 B b cs w := e ▸ h
def IsB (B b : Nat) (l : List UInt8) (w : World) : Prop := Lib.IsBuilder 49 5 B b (Lib.byteCells l) w
def OK2 (b : Nat) (w w' : World) : Prop := Lib.OthersKept 5 (some b) w w'
/-- what a writing function leaves: the builder holds l, what lay below B stands, and what is neither the builder's nor a row of bytes -/
def WP (B b : Nat) (l : List UInt8) (w : World) : Ending → World → Prop := fun e w' => e = .returned (.tuple #[]) ∧ IsB B b l w' ∧ Below B w w' ∧ OK2 b w w'
def WPe (B b : Nat) (l : List UInt8) (w : World) (v : Value) : Ending → World → Prop := fun e w' => e = .returned v ∧ IsB B b l w' ∧ Below B w w' ∧ OK2 b w w'
theorem byte_k {B b : Nat} {l : List UInt8} {w : World} (c : UInt8) (h : IsB B b l w) (hlen : l.length + 1 ≤ 140737488355328) (hBw : B ≤ w.heap.size) :
    Calls Tryd.prog 36 #[.pointer (some ⟨b, 0, none⟩), .int .u8 c.toNat] w (WPe B b (l ++ [c]) w .nilIface) :=
  (writeByte_k B b _ (c.toNat : Int) w h (by rw [Lib.byteCells_length]; exact hlen) hBw).mono fun e w' ⟨he, h1, h2, h3⟩ => ⟨he, isB_eq (Or.inr h1) (by rw [Lib.byteCells_append]; rfl), h2, h3⟩
theorem text_k {B b : Nat} {l : List UInt8} {w : World} (s : ByteArray) (h : IsB B b l w) (hlen : l.length + s.size ≤ 140737488355328) (hBw : B ≤ w.heap.size) :
    Calls Tryd.prog 47 #[.pointer (some ⟨b, 0, none⟩), .string s] w (WPe B b (l ++ s.data.toList) w (.tuple #[.int .i64 s.size, .nilIface])) :=
  (writeString_k B b _ s w h (by rw [Lib.byteCells_length]; exact hlen) hBw).mono fun e w' ⟨he, h1, h2, h3⟩ => ⟨he, isB_eq (Or.inr h1) (by rw [Lib.byteCells_append]; rfl), h2, h3⟩

theorem nm_cell {w : World} (h : NamT w) (k : Nat) (hk : k < 65) : w.cell? ⟨0, k, none⟩ = some (.string ⟨(nmL.getD k []).toArray⟩) := by
  refine (Lib.cell_of_heap h k).trans ?_
  have e : nmC = (nmL.map fun z => Value.string ⟨z.toArray⟩).toArray := rfl
  have hl : k < nmL.length := by simpa [nmL] using hk
  rw [e]
  simp [List.getD, hl]
set_option linter.unusedVariables false in
set_option maxRecDepth 100000 in
set_option maxHeartbeats 1000000 in
theorem name_any (op : Int) (w : World) (ht : NamT w) : Calls Tryd.prog 20 #[.int .i64 op] w fun e w' => e = .returned (.string ⟨(nmOf op).toArray⟩) ∧ w = w' := by
  by_cases h0 : op < 0
  · have hn : nmOf op = [] := by unfold nmOf; rw [if_neg (by omega)]
    rw [hn]
    have g1 : decide (op < 0) = true := decide_eq_true h0
    go_enter Tryd.func20, Tryd.ntmps20
    go_wp2
    go_ret
    exact ⟨rfl, rfl⟩
  · obtain ⟨k, rfl⟩ : ∃ k : Nat, op = k := ⟨op.toNat, by omega⟩
    have g1 : decide ((k : Int) < 0) = false := decide_eq_false (by omega)
    by_cases h1 : 65 ≤ k
    · have hn : nmOf k = [] := by unfold nmOf; rw [if_neg (by omega)]
      rw [hn]
      have g2 : decide ((65 : Int) ≤ (k : Int)) = true := decide_eq_true (by omega)
      go_enter Tryd.func20, Tryd.ntmps20
      go_wp2
      go_ret
      exact ⟨rfl, rfl⟩
    · have hn : nmOf k = nmL.getD k [] := by unfold nmOf; rw [if_pos (by omega)]; rfl
      rw [hn]
      have g2 : decide ((65 : Int) ≤ (k : Int)) = false := decide_eq_false (by omega)
      have g3 : (k : Int) < 65 := by omega
      have hc := nm_cell ht k (by omega)
      have hlt := namt_lt ht
      go_enter Tryd.func20, Tryd.ntmps20
      go_wp2
      go_ret
      exact ⟨rfl, rfl⟩
def hexA : ByteArray := ⟨#[48, 49, 50, 51, 52, 53, 54, 55, 56, 57, 65, 66, 67, 68, 69, 70]⟩
theorem hexA_at : ∀ k, (h : k < 16) → hexA[k]'(by simpa [hexA, ByteArray.size] using h) = hexB k := by decide
set_option linter.unusedVariables false in
set_option maxRecDepth 100000 in
set_option maxHeartbeats 2000000 in
theorem dumpText_any (B b : Nat) (l : List UInt8) (s : ByteArray) (w : World) (h : IsB B b l w) (hlen : l.length + (encL s.data.toList).length ≤ 140737488355000) (hBw : B ≤ w.heap.size) :
    Calls Tryd.prog 48 #[.pointer (some ⟨b, 0, none⟩), .string s] w (WP B b (l ++ encL s.data.toList) w) := by
  have HV := Lib.hid (And.intro h hBw)
  have hsl : s.size ≤ 140737488355000 := by
    have h1 := (encL_len s.data.toList).2
    rw [Array.length_toList] at h1
    have h2 : s.data.size = s.size := rfl
    omega
  clear h hBw
  go_enter Tryd.func48, Tryd.ntmps48
  go_wp2
  go_loopw [8] (fun i wr => ∃ k : Nat, i = .int .i64 k ∧ k ≤ s.size ∧ IsB B b (l ++ encL (s.data.toList.take k)) wr ∧ Below B w wr ∧ OK2 b w wr) (fun i _ => s.size - natOf i)
  case atStart => exact ⟨0, rfl, Nat.zero_le _, by simpa [encL] using HV.out.1, Below.refl _ _, Lib.OthersKept.refl _ _ _⟩
  case round =>
    obtain ⟨k, rfl, hk, hI, hb, ho⟩ := hrel
    have hsz : B ≤ wr.heap.size := Nat.le_trans HV.out.2 hb.size
    by_cases hks : k < s.size
    · have g1 : decide ((k : Int) < (s.size : Int)) = true := decide_eq_true (by omega)
      obtain ⟨c, hc⟩ : ∃ c : UInt8, s[k] = c := ⟨_, rfl⟩
      have hat : s.data.toList[k]? = some c := by
        rw [← hc]
        simp [ByteArray.getElem_eq_getElem_data, hks]
      have hst := encL_take hat
      obtain ⟨M, hM⟩ : ∃ M, M = l ++ encL (s.data.toList.take k) := ⟨_, rfl⟩
      rw [← hM] at hI
      have hst2 : l ++ encL (s.data.toList.take (k + 1)) = M ++ encB c := by rw [hst, hM, List.append_assoc]
      have hbl : M.length + (encB c).length ≤ 140737488355000 := by
        have h1 := congrArg List.length hst2
        have h2 := encL_pre s.data.toList (k + 1)
        simp only [List.length_append] at h1
        omega
      have HST := Lib.hid (And.intro hst2 (And.intro hb ho))
      have HBL := Lib.hid (And.intro hbl hsz)
      have HI := Lib.hid hI
      have c0 : (0 : Int) ≤ c.toNat := by omega
      have c1 : (c.toNat : Int) ≤ 255 := by have := c.toNat_lt; omega
      have hk1 : (k : Int) + 1 ≤ (s.size : Int) := by omega
      clear HV hst hst2 hM hat hb ho hI hbl hsz
      cases hle : letB c.toNat with
      | true =>
        have hen : encB c = [c] := by unfold encB; rw [hle]; rfl
        have HEN := Lib.hid hen
        clear hen
        go_wp2_with (first | (go_at_call 62; refine (isLetter_any _ _ c0 c1).mono ?_; rintro e w' ⟨rfl, rfl⟩))
        refine (byte_k c HI.out (by have h1 := HBL.out.1; have h2 := congrArg List.length HEN.out; simp at h2; omega) HBL.out.2).mono ?_
        rintro e w3 ⟨rfl, hI3, hb3, ho3⟩
        have HN := Lib.hid (And.intro hI3 (And.intro (HST.out.2.1.trans hb3) (HST.out.2.2.trans ho3)))
        clear hI3 hb3 ho3
        go_wp2
        go_roundw
        case rel => exact ⟨k + 1, by go_num, by omega, by rw [HST.out.1, HEN.out]; exact HN.out.1, HN.out.2⟩
        case measure => simp [natOf]; omega
      | false =>
        cases hdi : digB c.toNat with
        | true =>
          have hen : encB c = [c] := by unfold encB; rw [hle, hdi]; rfl
          have HEN := Lib.hid hen
          clear hen
          go_wp2_with (first | (go_at_call 62; refine (isLetter_any _ _ c0 c1).mono ?_; rintro e w' ⟨rfl, rfl⟩) | (go_at_call 63; refine (isDigit_any _ _ c0 c1).mono ?_; rintro e w' ⟨rfl, rfl⟩))
          refine (byte_k c HI.out (by have h1 := HBL.out.1; have h2 := congrArg List.length HEN.out; simp at h2; omega) HBL.out.2).mono ?_
          rintro e w3 ⟨rfl, hI3, hb3, ho3⟩
          have HN := Lib.hid (And.intro hI3 (And.intro (HST.out.2.1.trans hb3) (HST.out.2.2.trans ho3)))
          clear hI3 hb3 ho3
          go_wp2
          go_roundw
          case rel => exact ⟨k + 1, by go_num, by omega, by rw [HST.out.1, HEN.out]; exact HN.out.1, HN.out.2⟩
          case measure => simp [natOf]; omega
        | false =>
          have hen : encB c = [37, hexB (c.toNat / 16), hexB (c.toNat % 16)] := by unfold encB; rw [hle, hdi]; rfl
          have HEN := Lib.hid hen
          clear hen
          go_wp2_with (first | (go_at_call 62; refine (isLetter_any _ _ c0 c1).mono ?_; rintro e w' ⟨rfl, rfl⟩) | (go_at_call 63; refine (isDigit_any _ _ c0 c1).mono ?_; rintro e w' ⟨rfl, rfl⟩))
          refine (byte_k 37 HI.out (by have h1 := HBL.out.1; have h2 := congrArg List.length HEN.out; simp at h2; omega) HBL.out.2).mono ?_
          rintro e w3 ⟨rfl, hI3, hb3, ho3⟩
          have HN3 := Lib.hid (And.intro hI3 (And.intro hb3 ho3))
          clear hI3 hb3 ho3
          have q1 : (0 : Int) ≤ (c.toNat : Int) / 16 := by omega
          have q2 : (c.toNat : Int) / 16 < 16 := by omega
          have hx1 : hexA[c.toNat / 16]'(by simp [hexA, ByteArray.size]; omega) = hexB (c.toNat / 16) := hexA_at _ (by omega)
          have HX1 := Lib.hid hx1
          clear hx1
          go_wp2_with fail
          refine (byte_k (hexA[c.toNat / 16]'(by simp [hexA, ByteArray.size]; omega)) HN3.out.1 (by have h1 := HBL.out.1; have h2 := congrArg List.length HEN.out; simp at h2 ⊢; omega) (Nat.le_trans HBL.out.2 HN3.out.2.1.size)).mono ?_
          rintro e w4 ⟨rfl, hI4, hb4, ho4⟩
          rw [HX1.out] at hI4
          have HN4 := Lib.hid (And.intro hI4 (And.intro (HN3.out.2.1.trans hb4) (HN3.out.2.2.trans ho4)))
          clear hI4 hb4 ho4 HX1
          have hx1 : hexA[c.toNat % 16]'(by simp [hexA, ByteArray.size]; omega) = hexB (c.toNat % 16) := hexA_at _ (by omega)
          have HX1 := Lib.hid hx1
          clear hx1
          go_wp2_with fail
          refine (byte_k (hexA[c.toNat % 16]'(by simp [hexA, ByteArray.size]; omega)) HN4.out.1 (by have h1 := HBL.out.1; have h2 := congrArg List.length HEN.out; simp at h2 ⊢; omega) (Nat.le_trans HBL.out.2 HN4.out.2.1.size)).mono ?_
          rintro e w5 ⟨rfl, hI5, hb5, ho5⟩
          rw [HX1.out] at hI5
          have HN5 := Lib.hid (And.intro hI5 (And.intro (HST.out.2.1.trans (HN4.out.2.1.trans hb5)) (HST.out.2.2.trans (HN4.out.2.2.trans ho5))))
          clear hI5 hb5 ho5 HX1
          go_wp2
          go_roundw
          case rel => exact ⟨k + 1, by go_num, by omega, by rw [HST.out.1, HEN.out]; simpa using HN5.out.1, HN5.out.2⟩
          case measure => simp [natOf]; omega
    · have g1 : decide ((k : Int) < (s.size : Int)) = false := decide_eq_false (by omega)
      obtain rfl : k = s.size := by omega
      have ht : s.data.toList.take s.size = s.data.toList := List.take_of_length_le (by simp)
      rw [ht] at hI
      have HN := Lib.hid (And.intro hI (And.intro hb ho))
      clear hI hb ho ht
      go_wp2
      go_end0
      exact ⟨rfl, HN.out⟩
end Go.Proofs.YtppliplalfpmaaaDoor
