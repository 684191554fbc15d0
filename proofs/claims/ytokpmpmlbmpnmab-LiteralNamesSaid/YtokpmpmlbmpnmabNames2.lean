/-
  What Name, IsName and Word answer at this translation, the program's against the reference's: alike for every string of at most 4000000 bytes and every offset.
-/
import Derived.Test.YtokpmpmlbmpnmabNames
namespace Go.Proofs.Ytokpmpmlbmpnmab
open Go.RowKit

theorem am1 (s : List UInt8) : amV s [98, 114, 101, 97, 107, 32, 99, 97, 115, 101, 32, 99, 97, 116, 99, 104, 32, 99, 108, 97, 115, 115, 32, 99, 111, 110, 115, 116, 32, 99, 111, 110, 116, 105, 110, 117, 101, 32, 100, 101, 98, 117, 103, 103, 101, 114, 32, 100, 101, 102, 97, 117, 108, 116, 32, 100, 101, 108, 101, 116, 101, 32, 100, 111, 32, 101, 108, 115, 101, 32, 101, 110, 117, 109, 32, 101, 120, 112, 111, 114, 116, 32, 101, 120, 116, 101, 110, 100, 115, 32, 102, 97, 108, 115, 101, 32, 102, 105, 110, 97, 108, 108, 121, 32, 102, 111, 114, 32, 102, 117, 110, 99, 116, 105, 111, 110, 32, 105, 102, 32, 105, 109, 112, 111, 114, 116, 32, 105, 110, 32, 105, 110, 115, 116, 97, 110, 99, 101, 111, 102, 32, 110, 101, 119, 32, 110, 117, 108, 108, 32, 114, 101, 116, 117, 114, 110, 32, 115, 117, 112, 101, 114, 32, 115, 119, 105, 116, 99, 104, 32, 116, 104, 105, 115, 32, 116, 104, 114, 111, 119, 32, 116, 114, 117, 101, 32, 116, 114, 121, 32, 116, 121, 112, 101, 111, 102, 32, 118, 97, 114, 32, 118, 111, 105, 100, 32, 119, 104, 105, 108, 101, 32, 119, 105, 116, 104] [] = W1.any (fun x => x == s) := by kernel_rfl
theorem am2 (s : List UInt8) : amV s [105, 109, 112, 108, 101, 109, 101, 110, 116, 115, 32, 105, 110, 116, 101, 114, 102, 97, 99, 101, 32, 108, 101, 116, 32, 112, 97, 99, 107, 97, 103, 101, 32, 112, 114, 105, 118, 97, 116, 101, 32, 112, 114, 111, 116, 101, 99, 116, 101, 100, 32, 112, 117, 98, 108, 105, 99, 32, 115, 116, 97, 116, 105, 99, 32, 121, 105, 101, 108, 100] [] = W2.any (fun x => x == s) := by kernel_rfl
set_option maxRecDepth 100000 in
theorem among1 (s : ByteArray) (w : World) : Calls Try.prog 28 #[.string s, .string ⟨#[98, 114, 101, 97, 107, 32, 99, 97, 115, 101, 32, 99, 97, 116, 99, 104, 32, 99, 108, 97, 115, 115, 32, 99, 111, 110, 115, 116, 32, 99, 111, 110, 116, 105, 110, 117, 101, 32, 100, 101, 98, 117, 103, 103, 101, 114, 32, 100, 101, 102, 97, 117, 108, 116, 32, 100, 101, 108, 101, 116, 101, 32, 100, 111, 32, 101, 108, 115, 101, 32, 101, 110, 117, 109, 32, 101, 120, 112, 111, 114, 116, 32, 101, 120, 116, 101, 110, 100, 115, 32, 102, 97, 108, 115, 101, 32, 102, 105, 110, 97, 108, 108, 121, 32, 102, 111, 114, 32, 102, 117, 110, 99, 116, 105, 111, 110, 32, 105, 102, 32, 105, 109, 112, 111, 114, 116, 32, 105, 110, 32, 105, 110, 115, 116, 97, 110, 99, 101, 111, 102, 32, 110, 101, 119, 32, 110, 117, 108, 108, 32, 114, 101, 116, 117, 114, 110, 32, 115, 117, 112, 101, 114, 32, 115, 119, 105, 116, 99, 104, 32, 116, 104, 105, 115, 32, 116, 104, 114, 111, 119, 32, 116, 114, 117, 101, 32, 116, 114, 121, 32, 116, 121, 112, 101, 111, 102, 32, 118, 97, 114, 32, 118, 111, 105, 100, 32, 119, 104, 105, 108, 101, 32, 119, 105, 116, 104]⟩] w fun e w' => e = .returned (.bool (W1.any (fun x => x == s.data.toList))) ∧ w = w' := by
  have h := among_any s ⟨#[98, 114, 101, 97, 107, 32, 99, 97, 115, 101, 32, 99, 97, 116, 99, 104, 32, 99, 108, 97, 115, 115, 32, 99, 111, 110, 115, 116, 32, 99, 111, 110, 116, 105, 110, 117, 101, 32, 100, 101, 98, 117, 103, 103, 101, 114, 32, 100, 101, 102, 97, 117, 108, 116, 32, 100, 101, 108, 101, 116, 101, 32, 100, 111, 32, 101, 108, 115, 101, 32, 101, 110, 117, 109, 32, 101, 120, 112, 111, 114, 116, 32, 101, 120, 116, 101, 110, 100, 115, 32, 102, 97, 108, 115, 101, 32, 102, 105, 110, 97, 108, 108, 121, 32, 102, 111, 114, 32, 102, 117, 110, 99, 116, 105, 111, 110, 32, 105, 102, 32, 105, 109, 112, 111, 114, 116, 32, 105, 110, 32, 105, 110, 115, 116, 97, 110, 99, 101, 111, 102, 32, 110, 101, 119, 32, 110, 117, 108, 108, 32, 114, 101, 116, 117, 114, 110, 32, 115, 117, 112, 101, 114, 32, 115, 119, 105, 116, 99, 104, 32, 116, 104, 105, 115, 32, 116, 104, 114, 111, 119, 32, 116, 114, 117, 101, 32, 116, 114, 121, 32, 116, 121, 112, 101, 111, 102, 32, 118, 97, 114, 32, 118, 111, 105, 100, 32, 119, 104, 105, 108, 101, 32, 119, 105, 116, 104]⟩ w (by decide)
  have e := am1 s.data.toList
  rw [show amV s.data.toList (⟨#[98, 114, 101, 97, 107, 32, 99, 97, 115, 101, 32, 99, 97, 116, 99, 104, 32, 99, 108, 97, 115, 115, 32, 99, 111, 110, 115, 116, 32, 99, 111, 110, 116, 105, 110, 117, 101, 32, 100, 101, 98, 117, 103, 103, 101, 114, 32, 100, 101, 102, 97, 117, 108, 116, 32, 100, 101, 108, 101, 116, 101, 32, 100, 111, 32, 101, 108, 115, 101, 32, 101, 110, 117, 109, 32, 101, 120, 112, 111, 114, 116, 32, 101, 120, 116, 101, 110, 100, 115, 32, 102, 97, 108, 115, 101, 32, 102, 105, 110, 97, 108, 108, 121, 32, 102, 111, 114, 32, 102, 117, 110, 99, 116, 105, 111, 110, 32, 105, 102, 32, 105, 109, 112, 111, 114, 116, 32, 105, 110, 32, 105, 110, 115, 116, 97, 110, 99, 101, 111, 102, 32, 110, 101, 119, 32, 110, 117, 108, 108, 32, 114, 101, 116, 117, 114, 110, 32, 115, 117, 112, 101, 114, 32, 115, 119, 105, 116, 99, 104, 32, 116, 104, 105, 115, 32, 116, 104, 114, 111, 119, 32, 116, 114, 117, 101, 32, 116, 114, 121, 32, 116, 121, 112, 101, 111, 102, 32, 118, 97, 114, 32, 118, 111, 105, 100, 32, 119, 104, 105, 108, 101, 32, 119, 105, 116, 104]⟩ : ByteArray).data.toList [] = W1.any (fun x => x == s.data.toList) from e] at h
  exact h
set_option maxRecDepth 100000 in
theorem among2 (s : ByteArray) (w : World) : Calls Try.prog 28 #[.string s, .string ⟨#[105, 109, 112, 108, 101, 109, 101, 110, 116, 115, 32, 105, 110, 116, 101, 114, 102, 97, 99, 101, 32, 108, 101, 116, 32, 112, 97, 99, 107, 97, 103, 101, 32, 112, 114, 105, 118, 97, 116, 101, 32, 112, 114, 111, 116, 101, 99, 116, 101, 100, 32, 112, 117, 98, 108, 105, 99, 32, 115, 116, 97, 116, 105, 99, 32, 121, 105, 101, 108, 100]⟩] w fun e w' => e = .returned (.bool (W2.any (fun x => x == s.data.toList))) ∧ w = w' := by
  have h := among_any s ⟨#[105, 109, 112, 108, 101, 109, 101, 110, 116, 115, 32, 105, 110, 116, 101, 114, 102, 97, 99, 101, 32, 108, 101, 116, 32, 112, 97, 99, 107, 97, 103, 101, 32, 112, 114, 105, 118, 97, 116, 101, 32, 112, 114, 111, 116, 101, 99, 116, 101, 100, 32, 112, 117, 98, 108, 105, 99, 32, 115, 116, 97, 116, 105, 99, 32, 121, 105, 101, 108, 100]⟩ w (by decide)
  have e := am2 s.data.toList
  rw [show amV s.data.toList (⟨#[105, 109, 112, 108, 101, 109, 101, 110, 116, 115, 32, 105, 110, 116, 101, 114, 102, 97, 99, 101, 32, 108, 101, 116, 32, 112, 97, 99, 107, 97, 103, 101, 32, 112, 114, 105, 118, 97, 116, 101, 32, 112, 114, 111, 116, 101, 99, 116, 101, 100, 32, 112, 117, 98, 108, 105, 99, 32, 115, 116, 97, 116, 105, 99, 32, 121, 105, 101, 108, 100]⟩ : ByteArray).data.toList [] = W2.any (fun x => x == s.data.toList) from e] at h
  exact h

theorem word_empty : wordI [] = 0 := by decide +kernel

set_option maxHeartbeats 1000000 in
set_option maxRecDepth 100000 in
theorem refword_any (s : ByteArray) (w : World) : Calls Try.prog 18 #[.string s] w fun e w' => e = .returned (.int .i64 (wordI s.data.toList)) ∧ w = w' := by
  by_cases h0 : s.toList = []
  · have e : wordI s.data.toList = 0 := by rw [← Lib.toList_data, h0]; exact word_empty
    rw [e]
    clear e
    go_enter Try.func18, Try.ntmps18
    go_wp2
    go_ret
    exact ⟨rfl, rfl⟩
  · have h0b : (s.toList == []) = false := by simpa using h0
    have h0c : s.toList.isEmpty = false := by simpa using h0
    have A1 := among1 s w
    have A2 := among2 s w
    by_cases h1 : W1.any (fun x => x == s.data.toList) = true
    · have e : wordI s.data.toList = 1 := by unfold wordI; rw [if_pos h1]
      rw [e]
      rw [h1] at A1
      clear e h1
      go_enter Try.func18, Try.ntmps18
      go_wp2_with fail
      refine A1.mono ?_
      rintro e w' ⟨rfl, rfl⟩
      go_wp2_with fail
      go_ret
      exact ⟨rfl, rfl⟩
    · have h1f : W1.any (fun x => x == s.data.toList) = false := by simpa only [Bool.not_eq_true] using h1
      rw [h1f] at A1
      by_cases h2 : W2.any (fun x => x == s.data.toList) = true
      · have e : wordI s.data.toList = 2 := by unfold wordI; rw [if_neg h1, if_pos h2]
        rw [e]
        rw [h2] at A2
        clear e h1 h1f h2
        go_enter Try.func18, Try.ntmps18
        go_wp2_with fail
        refine A1.mono ?_
        rintro e w' ⟨rfl, rfl⟩
        go_wp2_with fail
        refine A2.mono ?_
        rintro e w' ⟨rfl, rfl⟩
        go_wp2_with fail
        go_ret
        exact ⟨rfl, rfl⟩
      · have h2f : W2.any (fun x => x == s.data.toList) = false := by simpa only [Bool.not_eq_true] using h2
        have e : wordI s.data.toList = 0 := by unfold wordI; rw [if_neg h1, if_neg h2]
        rw [e]
        rw [h2f] at A2
        clear e h1 h1f h2 h2f
        go_enter Try.func18, Try.ntmps18
        go_wp2_with fail
        refine A1.mono ?_
        rintro e w' ⟨rfl, rfl⟩
        go_wp2_with fail
        refine A2.mono ?_
        rintro e w' ⟨rfl, rfl⟩
        go_wp2_with fail
        go_ret
        exact ⟨rfl, rfl⟩

def nonameR : Ending := .returned (.tuple #[.string ⟨#[]⟩, .int .i64 0])

set_option maxHeartbeats 1000000 in
theorem name_out (s : ByteArray) (k : Int) (w : World) (hk : k < 0 ∨ s.size ≤ k) :
    Calls Try.prog 13 #[.string s, .int .i64 k] w fun e w' => e = nonameR ∧ w = w' := by
  by_cases h0 : k < 0
  · have hk0 : decide (k < 0) = true := by simpa using h0
    clear hk
    go_enter Try.func13, Try.ntmps13
    go_wp2_with fail
    go_ret2
    exact ⟨rfl, rfl⟩
  · have hk0 : decide (k < 0) = false := by simpa using h0
    have h1 : (s.size : Int) ≤ k := by omega
    have hk1 : decide ((s.size : Int) ≤ k) = true := by simpa using h1
    clear hk
    go_enter Try.func13, Try.ntmps13
    go_wp2_with fail
    go_ret2
    exact ⟨rfl, rfl⟩

set_option maxHeartbeats 1000000 in
theorem name_no (s : ByteArray) (k : Nat) (x : UInt8) (w : World) (hk : k < s.size) (hx : s[k] = x) (hl : letB x.toNat = false) :
    Calls Try.prog 13 #[.string s, .int .i64 k] w fun e w' => e = nonameR ∧ w = w' := by
  have x0 : (0 : Int) ≤ x.toNat := by omega
  have x1 : (x.toNat : Int) ≤ 255 := by have := x.toNat_lt; omega
  have hk0 : decide ((k : Int) < 0) = false := by simp
  have hk1 : decide (s.size ≤ k) = false := by simpa using hk
  go_enter Try.func13, Try.ntmps13
  go_wp2_with (go_at_call 25; refine (isLetter_any _ _ x0 x1).mono ?_; rintro e w' ⟨rfl, rfl⟩)
  go_ret2
  exact ⟨rfl, rfl⟩

set_option maxHeartbeats 1000000 in
theorem refname_out (s : ByteArray) (k : Int) (w : World) (hk : k < 0 ∨ s.size ≤ k) :
    Calls Try.prog 14 #[.string s, .int .i64 k] w fun e w' => e = nonameR ∧ w = w' := by
  by_cases h0 : k < 0
  · have hk0 : decide (k < 0) = true := by simpa using h0
    clear hk
    go_enter Try.func14, Try.ntmps14
    go_wp2_with fail
    go_ret2
    exact ⟨rfl, rfl⟩
  · have hk0 : decide (k < 0) = false := by simpa using h0
    have h1 : (s.size : Int) ≤ k := by omega
    have hk1 : decide ((s.size : Int) ≤ k) = true := by simpa using h1
    clear hk
    go_enter Try.func14, Try.ntmps14
    go_wp2_with fail
    go_ret2
    exact ⟨rfl, rfl⟩

set_option maxHeartbeats 1000000 in
theorem refname_no (s : ByteArray) (k : Nat) (x : UInt8) (w : World) (hk : k < s.size) (hx : s[k] = x) (hl : letB x.toNat = false) :
    Calls Try.prog 14 #[.string s, .int .i64 k] w fun e w' => e = nonameR ∧ w = w' := by
  have x0 : (0 : Int) ≤ x.toNat := by omega
  have x1 : (x.toNat : Int) ≤ 255 := by have := x.toNat_lt; omega
  have hk0 : decide ((k : Int) < 0) = false := by simp
  have hk1 : decide (s.size ≤ k) = false := by simpa using hk
  go_enter Try.func14, Try.ntmps14
  go_wp2_with (go_at_call 27; refine (letter_any _ _ x0 x1).mono ?_; rintro e w' ⟨rfl, rfl⟩)
  go_ret2
  exact ⟨rfl, rfl⟩

theorem dig_lo {c : Int} (h : digB c = true) : 48 ≤ c ∧ c ≤ 57 := by simpa [digB] using h
theorem dig_no {c : Int} (h : digB c = false) : c < 48 ∨ 57 < c := by simp [digB] at h; omega

set_option maxHeartbeats 1000000 in
set_option maxRecDepth 100000 in
theorem refname_in (s : ByteArray) (k : Nat) (x : UInt8) (w : World) (hs : s.size ≤ 4000000) (hk : k < s.size) (hx : s[k] = x) (hl : letB x.toNat = true) :
    Calls Try.prog 14 #[.string s, .int .i64 k] w fun e w' => e = nameR s k ∧ w = w' := by
  have x0 : (0 : Int) ≤ x.toNat := by omega
  have x1 : (x.toNat : Int) ≤ 255 := by have := x.toNat_lt; omega
  have hk0 : decide ((k : Int) < 0) = false := by simp
  have hk1 : decide (s.size ≤ k) = false := by simpa using hk
  obtain ⟨E, hE⟩ : ∃ E, E = k + 1 + idLen (s.data.toList.drop (k + 1)) := ⟨_, rfl⟩
  unfold nameR
  rw [← hE]
  have hE2 : E = k + idLen (s.data.toList.drop k) := by
    rw [drop_at s k hk, hx, id_yes (by simp [idB, hl]), hE]; omega
  have HE := Lib.hid hE2
  clear hE hE2
  go_enter Try.func14, Try.ntmps14
  go_wp2_with (go_at_call 27; refine (letter_any _ _ x0 x1).mono ?_; rintro e w' ⟨rfl, rfl⟩)
  go_loop [6] (fun i => ∃ j : Nat, i = .int .i64 j ∧ k ≤ j ∧ j ≤ s.size ∧ E = j + idLen (s.data.toList.drop j)) (fun i => s.size - (intOf i).toNat)
  case atStart => exact ⟨k, rfl, by omega, by omega, HE.out⟩
  case round =>
    obtain ⟨j, rfl, hkj, hj, hEj⟩ := hrel
    have HJ := Lib.hid hEj
    clear hEj HE
    by_cases hjs : j < s.size
    · obtain ⟨c, hc⟩ : ∃ c : UInt8, s[j] = c := ⟨_, rfl⟩
      have c0 : (0 : Int) ≤ c.toNat := by omega
      have c1 : (c.toNat : Int) ≤ 255 := by have := c.toNat_lt; omega
      cases hcl : letB c.toNat with
      | true =>
        go_wp2_with (go_at_call 27; refine (letter_any _ _ c0 c1).mono ?_; rintro e w' ⟨rfl, rfl⟩)
        go_round
        case rel =>
          refine ⟨j + 1, by go_num, by omega, by omega, ?_⟩
          have h := HJ.out
          rw [drop_at s j hjs, hc, id_yes (by simp [idB, hcl])] at h
          omega
        case measure => simp [intOf]; omega
      | false =>
        cases hcd : digB c.toNat with
        | true =>
          have hd := dig_lo hcd
          have d0 : decide ((48 : Int) ≤ c.toNat) = true := by simpa using hd.1
          have d1 : decide ((c.toNat : Int) ≤ 57) = true := by simpa using hd.2
          go_wp2_with (go_at_call 27; refine (letter_any _ _ c0 c1).mono ?_; rintro e w' ⟨rfl, rfl⟩)
          go_round
          case rel =>
            refine ⟨j + 1, by go_num, by omega, by omega, ?_⟩
            have h := HJ.out
            rw [drop_at s j hjs, hc, id_yes (by simp [idB, hcd])] at h
            omega
          case measure => simp [intOf]; omega
        | false =>
          have hEj : E = j := by
            have h := HJ.out
            rw [drop_at s j hjs, hc, id_no (by simp [idB, hcl, hcd])] at h
            omega
          subst hEj
          clear HJ
          rcases dig_no hcd with hd | hd
          all_goals
            go_wp2_with (go_at_call 27; refine (letter_any _ _ c0 c1).mono ?_; rintro e w' ⟨rfl, rfl⟩)
            go_ret2
            exact ⟨rfl, rfl⟩
    · have hEj : E = j := by
        have h := HJ.out
        rw [drop_out s j hjs, id_nil] at h
        omega
      subst hEj
      clear HJ
      go_wp2
      go_ret2
      exact ⟨rfl, rfl⟩
end Go.Proofs.Ytokpmpmlbmpnmab
