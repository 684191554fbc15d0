/-
  What Name of package literal answers at this translation.
-/
import Derived.Test.YthkjdllpgcocpaaGreatDoorRead
import Derived.Test.YthkjdllpgcocpaaGreatDoorBytes2
import Derived.Test.YthkjdllpgcocpaaGreatDoorWord
namespace Go.Proofs.YthkjdllpgcocpaaGreatDoor
open Go.RowKit

def idB (c : UInt8) : Bool := letB c.toNat || digB c.toNat
def idLen (l : List UInt8) : Nat := (l.takeWhile idB).length
theorem id_nil : idLen [] = 0 := rfl
theorem id_yes {c : UInt8} {t : List UInt8} (h : idB c = true) : idLen (c :: t) = idLen t + 1 := by simp [idLen, h]
theorem id_no {c : UInt8} {t : List UInt8} (h : idB c = false) : idLen (c :: t) = 0 := by simp [idLen, h]
theorem id_le (l : List UInt8) : idLen l ≤ l.length := by
  unfold idLen
  induction l with
  | nil => simp
  | cons a t ih => rw [List.takeWhile_cons]; split <;> simp <;> omega

def nameR (s : ByteArray) (k : Nat) : Ending := .returned (.tuple #[.string (s.extract k (k + 1 + idLen (s.data.toList.drop (k + 1)))), .int .i64 ((k + 1 + idLen (s.data.toList.drop (k + 1)) : Nat) : Int)])

set_option maxHeartbeats 1000000 in
set_option maxRecDepth 100000 in
theorem name_in (s : ByteArray) (k : Nat) (x : UInt8) (w : World) (hs : s.size ≤ 4000000) (hk : k < s.size) (hx : s[k] = x) (hl : letB x.toNat = true) :
    Calls Tryz.prog 98 #[.string s, .int .i64 k] w fun e w' => e = nameR s k ∧ w = w' := by
  have x0 : (0 : Int) ≤ x.toNat := by omega
  have x1 : (x.toNat : Int) ≤ 255 := by have := x.toNat_lt; omega
  have hk0 : decide ((k : Int) < 0) = false := by simp
  have hk1 : decide (s.size ≤ k) = false := by simpa using hk
  obtain ⟨E, hE⟩ : ∃ E, E = k + 1 + idLen (s.data.toList.drop (k + 1)) := ⟨_, rfl⟩
  unfold nameR
  rw [← hE]
  have HE := Lib.hid hE
  clear hE
  go_enter Tryz.func98, Tryz.ntmps98
  go_wp2_with (go_at_call 146; refine (isLetter_any _ _ x0 x1).mono ?_; rintro e w' ⟨rfl, rfl⟩)
  go_loop [5] (fun i => ∃ j : Nat, i = .int .i64 j ∧ k < j ∧ j ≤ s.size ∧ E = j + idLen (s.data.toList.drop j)) (fun i => s.size - (intOf i).toNat)
  case atStart => exact ⟨k + 1, by go_num, by omega, by omega, HE.out⟩
  case round =>
    obtain ⟨j, rfl, hkj, hj, hEj⟩ := hrel
    have HJ := Lib.hid hEj
    clear hEj HE
    by_cases hjs : j < s.size
    · obtain ⟨c, hc⟩ : ∃ c : UInt8, s[j] = c := ⟨_, rfl⟩
      have c0 : (0 : Int) ≤ c.toNat := by omega
      have c1 : (c.toNat : Int) ≤ 255 := by have := c.toNat_lt; omega
      cases hcl : letB c.toNat with
      | true =>
        go_wp2_with (go_at_call 146; refine (isLetter_any _ _ c0 c1).mono ?_; rintro e w' ⟨rfl, rfl⟩)
        go_round
        case rel =>
          refine ⟨j + 1, by go_num, by omega, by omega, ?_⟩
          have h := HJ.out
          rw [drop_at s j hjs, hc, id_yes (by simp [idB, hcl])] at h
          omega
        case measure => simp [intOf]; omega
      | false =>
        cases hcd : digB c.toNat with
        | true =>
          go_wp2_with (first | (go_at_call 146; refine (isLetter_any _ _ c0 c1).mono ?_; rintro e w' ⟨rfl, rfl⟩) | (go_at_call 147; refine (isDigit_any _ _ c0 c1).mono ?_; rintro e w' ⟨rfl, rfl⟩))
          go_round
          case rel =>
            refine ⟨j + 1, by go_num, by omega, by omega, ?_⟩
            have h := HJ.out
            rw [drop_at s j hjs, hc, id_yes (by simp [idB, hcd])] at h
            omega
          case measure => simp [intOf]; omega
        | false =>
          have hEj : E = j := by
            have h := HJ.out
            rw [drop_at s j hjs, hc, id_no (by simp [idB, hcl, hcd])] at h
            omega
          subst hEj
          clear HJ
          go_wp2_with (first | (go_at_call 146; refine (isLetter_any _ _ c0 c1).mono ?_; rintro e w' ⟨rfl, rfl⟩) | (go_at_call 147; refine (isDigit_any _ _ c0 c1).mono ?_; rintro e w' ⟨rfl, rfl⟩))
          go_ret2
          exact ⟨rfl, rfl⟩
    · have hEj : E = j := by
        have h := HJ.out
        rw [drop_out s j hjs, id_nil] at h
        omega
      subst hEj
      clear HJ
      go_wp2
      go_ret2
      exact ⟨rfl, rfl⟩


def nonameR : Ending := .returned (.tuple #[.string ⟨#[]⟩, .int .i64 0])

set_option maxHeartbeats 1000000 in
theorem name_out (s : ByteArray) (k : Int) (w : World) (hk : k < 0 ∨ s.size ≤ k) :
    Calls Tryz.prog 98 #[.string s, .int .i64 k] w fun e w' => e = nonameR ∧ w = w' := by
  by_cases h0 : k < 0
  · have hk0 : decide (k < 0) = true := by simpa using h0
    clear hk
    go_enter Tryz.func98, Tryz.ntmps98
    go_wp2_with fail
    go_ret2
    exact ⟨rfl, rfl⟩
  · have hk0 : decide (k < 0) = false := by simpa using h0
    have h1 : (s.size : Int) ≤ k := by omega
    have hk1 : decide ((s.size : Int) ≤ k) = true := by simpa using h1
    clear hk
    go_enter Tryz.func98, Tryz.ntmps98
    go_wp2_with fail
    go_ret2
    exact ⟨rfl, rfl⟩

set_option maxHeartbeats 1000000 in
theorem name_no (s : ByteArray) (k : Nat) (x : UInt8) (w : World) (hk : k < s.size) (hx : s[k] = x) (hl : letB x.toNat = false) :
    Calls Tryz.prog 98 #[.string s, .int .i64 k] w fun e w' => e = nonameR ∧ w = w' := by
  have x0 : (0 : Int) ≤ x.toNat := by omega
  have x1 : (x.toNat : Int) ≤ 255 := by have := x.toNat_lt; omega
  have hk0 : decide ((k : Int) < 0) = false := by simp
  have hk1 : decide (s.size ≤ k) = false := by simpa using hk
  go_enter Tryz.func98, Tryz.ntmps98
  go_wp2_with (go_at_call 146; refine (isLetter_any _ _ x0 x1).mono ?_; rintro e w' ⟨rfl, rfl⟩)
  go_ret2
  exact ⟨rfl, rfl⟩

end Go.Proofs.YthkjdllpgcocpaaGreatDoor
