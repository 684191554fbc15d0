/-
  What the functions of one byte answer, at this translation (isDigit, digit, control of package literal): for every byte.
-/
import Derived.Test.YthkjdllpgcocpaaGreatDoorRows
import Derived.WalkKit
import Derived.WalkSpells
import Derived.WalkLawsBesides
namespace Go.Proofs.YthkjdllpgcocpaaGreatDoor
open Go.RowKit

def letB (c : Int) : Bool := decide ((97 ≤ c ∧ c ≤ 122) ∨ (65 ≤ c ∧ c ≤ 90) ∨ c = 95 ∨ c = 36)
def digB (c : Int) : Bool := decide (48 ≤ c ∧ c ≤ 57)
/-- the value of a hexadecimal digit, or -1 -/
def hexV (c : Int) : Int := if 48 ≤ c ∧ c ≤ 57 then c - 48 else if 97 ≤ c ∧ c ≤ 102 then c - 87 else if 65 ≤ c ∧ c ≤ 70 then c - 55 else -1
def ctlV (c : Int) : Int := if c = 110 then 10 else if c = 116 then 9 else if c = 114 then 13 else 0
def dvV (c : Int) : Int := if hexV c = -1 then 0 else hexV c
def dvK (c : Int) : Bool := decide (hexV c ≠ -1)
def shtV (c : Int) : Int := if c = 10 then 110 else if c = 9 then 116 else if c = 13 then 114 else if c = 0 then 48 else if c = 34 then 34 else if c = 92 then 92 else 0

theorem ret_b {a b : Bool} (h : a = b) : Ending.returned (.bool a) = .returned (.bool b) := by rw [h]
theorem ret_i {k : IntKind} {a b : Int} (h : a = b) : Ending.returned (.int k a) = .returned (.int k b) := by rw [h]
theorem ret_ib {k : IntKind} {a b : Int} {c d : Bool} (h : a = b) (h' : c = d) : Ending.returned (.tuple #[.int k a, .bool c]) = .returned (.tuple #[.int k b, .bool d]) := by rw [h, h']

theorem hex_dig {c : Int} (h : digB c = true) : 48 ≤ c ∧ c ≤ 57 := by simpa [digB] using h
theorem hex_nodig {c : Int} (h : digB c = false) : ¬ (48 ≤ c ∧ c ≤ 57) := by simpa [digB] using h

set_option maxHeartbeats 400000 in
theorem isDigit_any (c : Int) (w : World) (h0 : 0 ≤ c) (h1 : c ≤ 255) :
    Calls Tryz.prog 147 #[.int .u8 c] w fun e w' => e = .returned (.bool (digB c)) ∧ w = w' := by
  go_enter Tryz.func147, Tryz.ntmps147
  go_wp2
  all_goals
    go_ret
    exact ⟨ret_b (by unfold digB; rw [Bool.eq_iff_iff]; simp <;> omega), rfl⟩

set_option maxHeartbeats 400000 in
theorem digit_any (c : Int) (w : World) (h0 : 0 ≤ c) (h1 : c ≤ 255) :
    Calls Tryz.prog 192 #[.int .u8 c] w fun e w' => e = .returned (.tuple #[.int .u8 (dvV c), .bool (dvK c)]) ∧ w = w' := by
  by_cases hd : 48 ≤ c ∧ c ≤ 57
  · have hB : digB c = true := by simpa [digB] using hd
    obtain ⟨g0, g1⟩ := hd
    go_enter Tryz.func192, Tryz.ntmps192
    go_wp2_with (go_at_call 147; refine (isDigit_any _ _ h0 h1).mono ?_; rintro e w' ⟨rfl, rfl⟩)
    all_goals
      go_ret2
      exact ⟨ret_ib (by unfold dvV hexV; repeat' split; all_goals omega) (by unfold dvK hexV; rw [eq_comm, decide_eq_true_iff]; repeat' split; all_goals omega), rfl⟩
  · have hB : digB c = false := by simpa [digB] using hd
    go_enter Tryz.func192, Tryz.ntmps192
    go_wp2_with (go_at_call 147; refine (isDigit_any _ _ h0 h1).mono ?_; rintro e w' ⟨rfl, rfl⟩)
    all_goals
      go_ret2
      first
        | exact ⟨ret_ib (by unfold dvV hexV; repeat' split; all_goals omega) (by unfold dvK hexV; rw [eq_comm, decide_eq_true_iff]; repeat' split; all_goals omega), rfl⟩
        | exact ⟨ret_ib (by unfold dvV hexV; repeat' split; all_goals omega) (by unfold dvK hexV; rw [eq_comm, decide_eq_false_iff_not]; repeat' split; all_goals omega), rfl⟩

set_option maxHeartbeats 400000 in
theorem control_any (c : Int) (w : World) :
    Calls Tryz.prog 187 #[.int .u8 c] w fun e w' => e = .returned (.int .u8 (ctlV c)) ∧ w = w' := by
  go_enter Tryz.func187, Tryz.ntmps187
  go_wp2
  all_goals
    go_ret
    exact ⟨ret_i (by unfold ctlV; simp_all), rfl⟩

end Go.Proofs.YthkjdllpgcocpaaGreatDoor
