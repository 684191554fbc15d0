/-
  The functions of one byte of package token, and its function skip with each of the three that it is handed, at this translation.
-/
import Derived.Test.YthkjdllpgcocpaaGreatDoorBytes2
import Derived.LoopTactic
import Derived.Lib.Hide
namespace Go.Proofs.YthkjdllpgcocpaaGreatDoor
open Go.RowKit

def blkB (c : Int) : Bool := c == 9 || (c == 32 || (c == 10 || c == 13))
def inlB (c : Int) : Bool := c != 10 && c != 13
def idcB (c : Int) : Bool := letB c || digB c
def runLen (p : Int → Bool) (l : List UInt8) : Nat := (l.takeWhile (fun c => p c.toNat)).length
theorem run_nil (p : Int → Bool) : runLen p [] = 0 := rfl
theorem run_yes {p : Int → Bool} {c : UInt8} {t : List UInt8} (h : p c.toNat = true) : runLen p (c :: t) = runLen p t + 1 := by simp [runLen, h]
theorem run_no {p : Int → Bool} {c : UInt8} {t : List UInt8} (h : p c.toNat = false) : runLen p (c :: t) = 0 := by simp [runLen, h]
theorem run_le (p : Int → Bool) (l : List UInt8) : runLen p l ≤ l.length := by
  unfold runLen
  induction l with
  | nil => simp
  | cons a t ih => rw [List.takeWhile_cons]; split <;> simp <;> omega
theorem drop_cons (s : ByteArray) (j : Nat) (h : j < s.size) : s.data.toList.drop j = s[j] :: s.data.toList.drop (j + 1) := by
  rw [List.drop_eq_getElem_cons (by simpa using h)]
  rfl
theorem drop_none (s : ByteArray) (j : Nat) (h : s.size ≤ j) : s.data.toList.drop j = [] := List.drop_of_length_le (by simpa using h)

set_option maxHeartbeats 1000000 in
theorem isBlank_any (c : Int) (w : World) : Calls Tryz.prog 63 #[.int .u8 c] w fun e w' => e = .returned (.bool (blkB c)) ∧ w = w' := by
  unfold blkB
  cases h1 : (c == 9) <;> cases h2 : (c == 32) <;> cases h3 : (c == 10) <;> cases h4 : (c == 13) <;> (
    go_enter Tryz.func63, Tryz.ntmps63
    go_wp2
    go_ret
    exact ⟨rfl, rfl⟩)
set_option maxHeartbeats 1000000 in
theorem inl_any (c : Int) (w : World) : Calls Tryz.prog 65 #[.int .u8 c] w fun e w' => e = .returned (.bool (inlB c)) ∧ w = w' := by
  unfold inlB
  cases h1 : (c != 10) <;> cases h2 : (c != 13) <;> (
    go_enter Tryz.func65, Tryz.ntmps65
    go_wp2
    go_ret
    exact ⟨rfl, rfl⟩)
set_option maxHeartbeats 400000 in
theorem tokLetter_any (c : Int) (w : World) (h0 : 0 ≤ c) (h1 : c ≤ 255) :
    Calls Tryz.prog 67 #[.int .u8 c] w fun e w' => e = .returned (.bool (letB c)) ∧ w = w' := by
  go_enter Tryz.func67, Tryz.ntmps67
  go_wp2
  all_goals
    go_ret
    exact ⟨ret_b (by unfold letB; rw [Bool.eq_iff_iff]; simp <;> omega), rfl⟩
set_option maxHeartbeats 400000 in
theorem tokDigit_any (c : Int) (w : World) (h0 : 0 ≤ c) (h1 : c ≤ 255) :
    Calls Tryz.prog 69 #[.int .u8 c] w fun e w' => e = .returned (.bool (digB c)) ∧ w = w' := by
  go_enter Tryz.func69, Tryz.ntmps69
  go_wp2
  all_goals
    go_ret
    exact ⟨ret_b (by unfold digB; rw [Bool.eq_iff_iff]; simp <;> omega), rfl⟩
set_option maxHeartbeats 400000 in
theorem idc_any (c : Int) (w : World) (h0 : 0 ≤ c) (h1 : c ≤ 255) :
    Calls Tryz.prog 100 #[.int .u8 c] w fun e w' => e = .returned (.bool (idcB c)) ∧ w = w' := by
  unfold idcB
  cases hl : letB c with
  | true =>
    go_enter Tryz.func100, Tryz.ntmps100
    go_wp2_with (first | (go_at_call 67; refine (tokLetter_any _ _ h0 h1).mono ?_; rintro e w' ⟨rfl, rfl⟩) | (go_at_call 69; refine (tokDigit_any _ _ h0 h1).mono ?_; rintro e w' ⟨rfl, rfl⟩))
    go_ret
    exact ⟨rfl, rfl⟩
  | false =>
    cases hd : digB c <;> (
      go_enter Tryz.func100, Tryz.ntmps100
      go_wp2_with (first | (go_at_call 67; refine (tokLetter_any _ _ h0 h1).mono ?_; rintro e w' ⟨rfl, rfl⟩) | (go_at_call 69; refine (tokDigit_any _ _ h0 h1).mono ?_; rintro e w' ⟨rfl, rfl⟩))
      go_ret
      exact ⟨rfl, rfl⟩)

set_option maxHeartbeats 1000000 in
theorem skip_blank (s : ByteArray) (k : Nat) (w : World) (hs : s.size ≤ 4000000) (hk : k ≤ s.size) :
    Calls Tryz.prog 62 #[.string s, .int .i64 k, .func (.func 63) #[] #[]] w fun e w' => e = .returned (.int .i64 ((k + runLen blkB (s.data.toList.drop k) : Nat) : Int)) ∧ w = w' := by
  obtain ⟨E, hE⟩ : ∃ E, E = k + runLen blkB (s.data.toList.drop k) := ⟨_, rfl⟩
  rw [← hE]
  have HE := Lib.hid hE
  clear hE
  go_enter Tryz.func62, Tryz.ntmps62
  go_wp2_with fail
  go_loop [1] (fun i => ∃ j : Nat, i = .int .i64 j ∧ j ≤ s.size ∧ E = j + runLen blkB (s.data.toList.drop j)) (fun i => s.size - (intOf i).toNat)
  case atStart => exact ⟨k, rfl, hk, HE.out⟩
  case round =>
    obtain ⟨j, rfl, hj, hEj⟩ := hrel
    have HJ := Lib.hid hEj
    clear hEj HE
    by_cases hjs : j < s.size
    · obtain ⟨c, hc⟩ : ∃ c : UInt8, s[j] = c := ⟨_, rfl⟩
      have c0 : (0 : Int) ≤ c.toNat := by omega
      have c1 : (c.toNat : Int) ≤ 255 := by have := c.toNat_lt; omega
      cases hp : blkB c.toNat with
      | true =>
        go_wp2_with (go_at_call 63; refine (isBlank_any _ _).mono ?_; rintro e w' ⟨rfl, rfl⟩)
        go_round
        case rel => exact ⟨j + 1, by go_num, by omega, by rw [HJ.out, drop_cons s j hjs, hc, run_yes hp]; omega⟩
        case measure => simp [intOf]; omega
      | false =>
        go_wp2_with (go_at_call 63; refine (isBlank_any _ _).mono ?_; rintro e w' ⟨rfl, rfl⟩)
        go_ret
        exact ⟨ret_i (by rw [HJ.out, drop_cons s j hjs, hc, run_no hp]; rfl), rfl⟩
    · have hE : E = j := by rw [HJ.out, drop_none s j (by omega), run_nil]; rfl
      have HE := Lib.hid hE
      clear hE HJ
      go_wp2_with fail
      go_ret
      exact ⟨ret_i (by rw [HE.out]), rfl⟩

set_option maxHeartbeats 1000000 in
theorem skip_inl (s : ByteArray) (k : Nat) (w : World) (hs : s.size ≤ 4000000) (hk : k ≤ s.size) :
    Calls Tryz.prog 62 #[.string s, .int .i64 k, .func (.func 65) #[] #[]] w fun e w' => e = .returned (.int .i64 ((k + runLen inlB (s.data.toList.drop k) : Nat) : Int)) ∧ w = w' := by
  obtain ⟨E, hE⟩ : ∃ E, E = k + runLen inlB (s.data.toList.drop k) := ⟨_, rfl⟩
  rw [← hE]
  have HE := Lib.hid hE
  clear hE
  go_enter Tryz.func62, Tryz.ntmps62
  go_wp2_with fail
  go_loop [1] (fun i => ∃ j : Nat, i = .int .i64 j ∧ j ≤ s.size ∧ E = j + runLen inlB (s.data.toList.drop j)) (fun i => s.size - (intOf i).toNat)
  case atStart => exact ⟨k, rfl, hk, HE.out⟩
  case round =>
    obtain ⟨j, rfl, hj, hEj⟩ := hrel
    have HJ := Lib.hid hEj
    clear hEj HE
    by_cases hjs : j < s.size
    · obtain ⟨c, hc⟩ : ∃ c : UInt8, s[j] = c := ⟨_, rfl⟩
      have c0 : (0 : Int) ≤ c.toNat := by omega
      have c1 : (c.toNat : Int) ≤ 255 := by have := c.toNat_lt; omega
      cases hp : inlB c.toNat with
      | true =>
        go_wp2_with (go_at_call 65; refine (inl_any _ _).mono ?_; rintro e w' ⟨rfl, rfl⟩)
        go_round
        case rel => exact ⟨j + 1, by go_num, by omega, by rw [HJ.out, drop_cons s j hjs, hc, run_yes hp]; omega⟩
        case measure => simp [intOf]; omega
      | false =>
        go_wp2_with (go_at_call 65; refine (inl_any _ _).mono ?_; rintro e w' ⟨rfl, rfl⟩)
        go_ret
        exact ⟨ret_i (by rw [HJ.out, drop_cons s j hjs, hc, run_no hp]; rfl), rfl⟩
    · have hE : E = j := by rw [HJ.out, drop_none s j (by omega), run_nil]; rfl
      have HE := Lib.hid hE
      clear hE HJ
      go_wp2_with fail
      go_ret
      exact ⟨ret_i (by rw [HE.out]), rfl⟩

set_option maxHeartbeats 1000000 in
theorem skip_idc (s : ByteArray) (k : Nat) (w : World) (hs : s.size ≤ 4000000) (hk : k ≤ s.size) :
    Calls Tryz.prog 62 #[.string s, .int .i64 k, .func (.func 100) #[] #[]] w fun e w' => e = .returned (.int .i64 ((k + runLen idcB (s.data.toList.drop k) : Nat) : Int)) ∧ w = w' := by
  obtain ⟨E, hE⟩ : ∃ E, E = k + runLen idcB (s.data.toList.drop k) := ⟨_, rfl⟩
  rw [← hE]
  have HE := Lib.hid hE
  clear hE
  go_enter Tryz.func62, Tryz.ntmps62
  go_wp2_with fail
  go_loop [1] (fun i => ∃ j : Nat, i = .int .i64 j ∧ j ≤ s.size ∧ E = j + runLen idcB (s.data.toList.drop j)) (fun i => s.size - (intOf i).toNat)
  case atStart => exact ⟨k, rfl, hk, HE.out⟩
  case round =>
    obtain ⟨j, rfl, hj, hEj⟩ := hrel
    have HJ := Lib.hid hEj
    clear hEj HE
    by_cases hjs : j < s.size
    · obtain ⟨c, hc⟩ : ∃ c : UInt8, s[j] = c := ⟨_, rfl⟩
      have c0 : (0 : Int) ≤ c.toNat := by omega
      have c1 : (c.toNat : Int) ≤ 255 := by have := c.toNat_lt; omega
      cases hp : idcB c.toNat with
      | true =>
        go_wp2_with (go_at_call 100; refine (idc_any _ _ c0 c1).mono ?_; rintro e w' ⟨rfl, rfl⟩)
        go_round
        case rel => exact ⟨j + 1, by go_num, by omega, by rw [HJ.out, drop_cons s j hjs, hc, run_yes hp]; omega⟩
        case measure => simp [intOf]; omega
      | false =>
        go_wp2_with (go_at_call 100; refine (idc_any _ _ c0 c1).mono ?_; rintro e w' ⟨rfl, rfl⟩)
        go_ret
        exact ⟨ret_i (by rw [HJ.out, drop_cons s j hjs, hc, run_no hp]; rfl), rfl⟩
    · have hE : E = j := by rw [HJ.out, drop_none s j (by omega), run_nil]; rfl
      have HE := Lib.hid hE
      clear hE HJ
      go_wp2_with fail
      go_ret
      exact ⟨ret_i (by rw [HE.out]), rfl⟩
end Go.Proofs.YthkjdllpgcocpaaGreatDoor
