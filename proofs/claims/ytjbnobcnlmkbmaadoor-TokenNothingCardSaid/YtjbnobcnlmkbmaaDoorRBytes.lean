/-
  The reference of package token at this translation: the functions of one byte, begins, and skip.
-/
import Derived.Test.YtjbnobcnlmkbmaaDoorTNext
namespace Go.Proofs.YtjbnobcnlmkbmaaDoor
open Go.RowKit

set_option maxHeartbeats 400000 in
theorem rDigit_any (c : Int) (w : World) (h0 : 0 ≤ c) (h1 : c ≤ 255) :
    Calls Tryd.prog 35 #[.int .u8 c] w fun e w' => e = .returned (.bool (digB c)) ∧ w = w' := by
  go_enter Tryd.func35, Tryd.ntmps35
  go_wp2
  all_goals
    go_ret
    exact ⟨ret_b (by unfold digB; rw [Bool.eq_iff_iff]; simp <;> omega), rfl⟩
set_option maxHeartbeats 400000 in
theorem rLetter_any (c : Int) (w : World) (h0 : 0 ≤ c) (h1 : c ≤ 255) :
    Calls Tryd.prog 34 #[.int .u8 c] w fun e w' => e = .returned (.bool (letB c)) ∧ w = w' := by
  go_enter Tryd.func34, Tryd.ntmps34
  go_wp2
  all_goals
    go_ret
    exact ⟨ret_b (by unfold letB; rw [Bool.eq_iff_iff]; simp <;> omega), rfl⟩
set_option maxHeartbeats 1000000 in
theorem rHex_any (c : Int) (w : World) (h0 : 0 ≤ c) (h1 : c ≤ 255) :
    Calls Tryd.prog 54 #[.int .u8 c] w fun e w' => e = .returned (.int .i64 (hexV c)) ∧ w = w' := by
  cases hd : digB c with
  | true =>
    have g := hex_dig hd
    obtain ⟨g0, g1⟩ := g
    go_enter Tryd.func54, Tryd.ntmps54
    go_wp2_with (go_at_call 35; refine (rDigit_any _ _ h0 h1).mono ?_; rintro e w' ⟨rfl, rfl⟩)
    all_goals
      go_ret
      exact ⟨ret_i (by unfold hexV; repeat' split; all_goals omega), rfl⟩
  | false =>
    have g := hex_nodig hd
    go_enter Tryd.func54, Tryd.ntmps54
    go_wp2_with (go_at_call 35; refine (rDigit_any _ _ h0 h1).mono ?_; rintro e w' ⟨rfl, rfl⟩)
    all_goals
      go_ret
      exact ⟨ret_i (by unfold hexV; repeat' split; all_goals omega), rfl⟩

theorem prefix_take (l p : List UInt8) : Lib.hasPrefix l p = (l.take p.length == p) := by
  unfold Lib.hasPrefix
  induction p generalizing l with
  | nil => simp [List.isPrefixOf]
  | cons a p ih =>
    cases l with
    | nil => simp [List.isPrefixOf]
    | cons b l =>
      simp only [List.isPrefixOf, List.length_cons, List.take_succ_cons, ih]
      rw [Bool.eq_iff_iff]
      simp
      intro _
      exact eq_comm
set_option maxHeartbeats 1000000 in
theorem begins_at (s t : ByteArray) (k : Nat) (b : Bool) (w : World) (hs : s.size ≤ 4000000) (ht : t.size ≤ 4000000) (hk : k ≤ s.size) (hb : Lib.hasPrefix (s.data.toList.drop k) t.data.toList = b) :
    Calls Tryd.prog 20 #[.string s, .int .i64 k, .string t] w fun e w' => e = .returned (.bool b) ∧ w = w' := by
  rw [prefix_take] at hb
  have htl : t.data.toList.length = t.size := by simp
  rw [htl] at hb
  by_cases h : k + t.size ≤ s.size
  · have h' : (k : Int) + t.size ≤ s.size := by omega
    have he : ((s.extract k (k + t.size)).toList == t.toList) = b := by
      rw [ByteArray.toList_eq, ByteArray.toList_eq, Lib.extract_data, show k + t.size - k = t.size from by omega]
      exact hb
    clear hb htl
    go_enter Tryd.func20, Tryd.ntmps20
    go_wp2
    go_ret
    exact ⟨rfl, rfl⟩
  · have h' : ¬ (k : Int) + t.size ≤ s.size := by omega
    have he : b = false := by
      rw [← hb]
      have hl : ((s.data.toList.drop k).take t.size).length < t.data.toList.length := by
        simp
        omega
      cases hq : ((s.data.toList.drop k).take t.size == t.data.toList) with
      | false => rfl
      | true =>
        have := congrArg List.length (eq_of_beq hq)
        omega
    subst he
    clear hb htl
    go_enter Tryd.func20, Tryd.ntmps20
    go_wp2
    go_ret
    exact ⟨rfl, rfl⟩
end Go.Proofs.YtjbnobcnlmkbmaaDoor
