/-
  LiteralNames answers true at this translation, whatever the string and the offset, and turns nothing that was there.
-/
import Derived.Test.YtokpmpmlbmpnmabNames2
import Derived.Test.YtokpmpmlbmpnmabLives
namespace Go.Proofs.Ytokpmpmlbmpnmab
open Go.RowKit

set_option maxHeartbeats 2000000 in
set_option maxRecDepth 100000 in
theorem isname_same (s : ByteArray) (hs : s.size ≤ 4000000) : ∃ b : Bool,
    (∀ w, Calls Try.prog 15 #[.string s] w fun e w' => e = .returned (.bool b) ∧ w = w') ∧ (∀ w, Calls Try.prog 16 #[.string s] w fun e w' => e = .returned (.bool b) ∧ w = w') := by
  by_cases h0 : s.size = 0
  · have he : s = ⟨#[]⟩ := by
      obtain ⟨d⟩ := s
      have : d = #[] := Array.eq_empty_of_size_eq_zero h0
      rw [this]
    subst he
    have N1 := fun w => name_out ⟨#[]⟩ 0 w (Or.inr (by decide))
    have N2 := fun w => refname_out ⟨#[]⟩ 0 w (Or.inr (by decide))
    unfold nonameR at N1 N2
    have H1 := Lib.hid N1
    have H2 := Lib.hid N2
    clear N1 N2
    refine ⟨false, fun w => ?_, fun w => ?_⟩
    · go_enter Try.func15, Try.ntmps15
      go_wp2_with (go_at_call 13; refine (H1.out _).mono ?_; rintro e w' ⟨rfl, rfl⟩)
      go_ret
      exact ⟨rfl, rfl⟩
    · go_enter Try.func16, Try.ntmps16
      go_wp2_with (go_at_call 14; refine (H2.out _).mono ?_; rintro e w' ⟨rfl, rfl⟩)
      go_ret
      exact ⟨rfl, rfl⟩
  · have hk : 0 < s.size := by omega
    have hne : ¬ s.toList = [] := by
      intro h
      rw [Lib.toList_data] at h
      have : s.data.size = 0 := by rw [← Array.length_toList, h]; rfl
      exact h0 this
    obtain ⟨x, hx⟩ : ∃ x : UInt8, s[0] = x := ⟨_, rfl⟩
    have g1 : (s.toList == []) = false := by simpa using hne
    have g2 : ([] == s.toList) = false := by simpa using hne
    have g3 : s.toList.isEmpty = false := by simpa using hne
    cases hl : letB x.toNat with
    | false =>
      have N1 := fun w => name_no s 0 x w hk hx hl
      have N2 := fun w => refname_no s 0 x w hk hx hl
      unfold nonameR at N1 N2
      have H1 := Lib.hid N1
      have H2 := Lib.hid N2
      clear N1 N2
      refine ⟨false, fun w => ?_, fun w => ?_⟩
      · go_enter Try.func15, Try.ntmps15
        go_wp2_with (go_at_call 13; refine (H1.out _).mono ?_; rintro e w' ⟨rfl, rfl⟩)
        go_ret
        exact ⟨rfl, rfl⟩
      · go_enter Try.func16, Try.ntmps16
        go_wp2_with (go_at_call 14; refine (H2.out _).mono ?_; rintro e w' ⟨rfl, rfl⟩)
        go_ret
        exact ⟨rfl, rfl⟩
    | true =>
      have N1 := fun w => name_in s 0 x w hs hk hx hl
      have N2 := fun w => refname_in s 0 x w hs hk hx hl
      unfold nameR at N1 N2
      have hE0 : 0 + 1 + idLen (s.data.toList.drop (0 + 1)) ≤ s.size := by
        have := id_le (s.data.toList.drop (0 + 1))
        rw [List.length_drop] at this
        have e : s.data.toList.length = s.size := by simp
        omega
      have hE1 : 1 ≤ 0 + 1 + idLen (s.data.toList.drop (0 + 1)) := by omega
      obtain ⟨E, hE⟩ : ∃ E, E = 0 + 1 + idLen (s.data.toList.drop (0 + 1)) := ⟨_, rfl⟩
      rw [← hE] at hE0 hE1
      simp only [← hE] at N1 N2
      clear hE
      have hesz : (s.extract 0 E).toList.length = E := by
        rw [Lib.toList_data, Lib.extract_data]
        simp
        omega
      have g4 : ((s.extract 0 E).toList == []) = false := by
        rw [beq_eq_false_iff_ne]
        intro h
        rw [h] at hesz
        simp at hesz
        omega
      have g5 : (s.extract 0 E).toList.isEmpty = false := by
        have : ¬ (s.extract 0 E).toList = [] := by simpa using g4
        simpa using this
      have W1 := fun w => word_any s w
      have W2 := fun w => refword_any s w
      have H1 := Lib.hid N1
      have H2 := Lib.hid N2
      have H3 := Lib.hid W1
      have H4 := Lib.hid W2
      clear N1 N2 W1 W2
      have hsz : s.toList.length = s.size := by rw [Lib.toList_data]; simp
      by_cases hEs : E = s.size
      · have g6 : ((s.extract 0 E).toList == s.toList) = true := by
          rw [beq_iff_eq, Lib.toList_data, Lib.toList_data, hEs, Lib.extract_to_end]
          simp
        have g7 : ((E : Int) == (s.size : Int)) = true := beq_t (by omega)
        clear hEs hesz hsz
        refine ⟨wordI s.data.toList != 1, fun w => ?_, fun w => ?_⟩
        · go_enter Try.func15, Try.ntmps15
          go_wp2_with (first | (go_at_call 13; refine (H1.out _).mono ?_; rintro e w' ⟨rfl, rfl⟩) | (go_at_call 17; refine (H3.out _).mono ?_; rintro e w' ⟨rfl, rfl⟩))
          go_ret
          exact ⟨rfl, rfl⟩
        · go_enter Try.func16, Try.ntmps16
          go_wp2_with (first | (go_at_call 14; refine (H2.out _).mono ?_; rintro e w' ⟨rfl, rfl⟩) | (go_at_call 18; refine (H4.out _).mono ?_; rintro e w' ⟨rfl, rfl⟩))
          go_ret
          exact ⟨rfl, rfl⟩
      · have g6 : ((s.extract 0 E).toList == s.toList) = false := by
          rw [beq_eq_false_iff_ne]
          intro h
          rw [h, hsz] at hesz
          omega
        have g7 : ((E : Int) == (s.size : Int)) = false := beq_f (by omega)
        clear hesz hsz
        refine ⟨false, fun w => ?_, fun w => ?_⟩
        · go_enter Try.func15, Try.ntmps15
          go_wp2_with (first | (go_at_call 13; refine (H1.out _).mono ?_; rintro e w' ⟨rfl, rfl⟩) | (go_at_call 17; refine (H3.out _).mono ?_; rintro e w' ⟨rfl, rfl⟩))
          go_ret
          exact ⟨rfl, rfl⟩
        · go_enter Try.func16, Try.ntmps16
          go_wp2_with (first | (go_at_call 14; refine (H2.out _).mono ?_; rintro e w' ⟨rfl, rfl⟩) | (go_at_call 18; refine (H4.out _).mono ?_; rintro e w' ⟨rfl, rfl⟩))
          go_ret
          exact ⟨rfl, rfl⟩

theorem names_same (s : ByteArray) (k : Int) (hs : s.size ≤ 4000000) : ∃ (t : ByteArray) (n : Int),
    (∀ w, Calls Try.prog 13 #[.string s, .int .i64 k] w fun e w' => e = .returned (.tuple #[.string t, .int .i64 n]) ∧ w = w') ∧ (∀ w, Calls Try.prog 14 #[.string s, .int .i64 k] w fun e w' => e = .returned (.tuple #[.string t, .int .i64 n]) ∧ w = w') := by
  by_cases hk : k < 0 ∨ s.size ≤ k
  · exact ⟨_, _, fun w => name_out s k w hk, fun w => refname_out s k w hk⟩
  · obtain ⟨j, rfl⟩ := Int.eq_ofNat_of_zero_le (show 0 ≤ k by omega)
    have hj : j < s.size := by omega
    cases hl : letB s[j].toNat with
    | false => exact ⟨_, _, fun w => name_no s j s[j] w hj rfl hl, fun w => refname_no s j s[j] w hj rfl hl⟩
    | true => exact ⟨_, _, fun w => name_in s j s[j] w hs hj rfl hl, fun w => refname_in s j s[j] w hs hj rfl hl⟩

theorem extract_size3 (s : ByteArray) (n : Nat) (h : n ≤ s.size) : (s.extract 0 n).size = n := by
  simp; omega

set_option maxHeartbeats 1000000 in
set_option maxRecDepth 100000 in
theorem litNames_walk (s : ByteArray) (k : Int) (hs : s.size ≤ maxLen) (w : World) :
    Calls Try.prog 5 #[.string s, .int .i64 k] w fun e w' => e = .returned (.bool true) ∧ Below w.heap.size w w' := by
  unfold maxLen at hs
  by_cases h2 : 2000 < s.size
  · have h2b : decide (2000 < s.size) = true := by simpa using h2
    have hz := extract_size3 s 2000 (by omega)
    obtain ⟨t, n, H1, H2⟩ := names_same (s.extract 0 2000) k (by omega)
    obtain ⟨b, H3, H4⟩ := isname_same (s.extract 0 2000) (by omega)
    have H5 := fun w => word_any (s.extract 0 2000) w
    have H6 := fun w => refword_any (s.extract 0 2000) w
    obtain ⟨n2, hn2⟩ : ∃ n2, n2 = wordI (s.extract 0 2000).data.toList := ⟨_, rfl⟩
    simp only [← hn2] at H5 H6
    clear hz hn2
    have K1 := Lib.hid H1
    have K2 := Lib.hid H2
    have K3 := Lib.hid H3
    have K4 := Lib.hid H4
    have K5 := Lib.hid H5
    have K6 := Lib.hid H6
    clear H1 H2 H3 H4 H5 H6
    go_enter Try.func5, Try.ntmps5
    go_wp2_with (first | (go_at_call 13; refine (K1.out _).mono ?_; rintro e w' ⟨rfl, rfl⟩) | (go_at_call 14; refine (K2.out _).mono ?_; rintro e w' ⟨rfl, rfl⟩) | (go_at_call 15; refine (K3.out _).mono ?_; rintro e w' ⟨rfl, rfl⟩) | (go_at_call 16; refine (K4.out _).mono ?_; rintro e w' ⟨rfl, rfl⟩) | (go_at_call 17; refine (K5.out _).mono ?_; rintro e w' ⟨rfl, rfl⟩) | (go_at_call 18; refine (K6.out _).mono ?_; rintro e w' ⟨rfl, rfl⟩) | (go_at_call 10; refine (lives_any _).mono ?_; rintro e w3 ⟨rfl, hb3⟩))
    go_ret
    exact ⟨rfl, hb3⟩
  · have h2b : decide (2000 < s.size) = false := by simpa using h2
    obtain ⟨t, n, H1, H2⟩ := names_same s k (by omega)
    obtain ⟨b, H3, H4⟩ := isname_same s (by omega)
    have H5 := fun w => word_any s w
    have H6 := fun w => refword_any s w
    obtain ⟨n2, hn2⟩ : ∃ n2, n2 = wordI s.data.toList := ⟨_, rfl⟩
    simp only [← hn2] at H5 H6
    clear hn2
    have K1 := Lib.hid H1
    have K2 := Lib.hid H2
    have K3 := Lib.hid H3
    have K4 := Lib.hid H4
    have K5 := Lib.hid H5
    have K6 := Lib.hid H6
    clear H1 H2 H3 H4 H5 H6
    go_enter Try.func5, Try.ntmps5
    go_wp2_with (first | (go_at_call 13; refine (K1.out _).mono ?_; rintro e w' ⟨rfl, rfl⟩) | (go_at_call 14; refine (K2.out _).mono ?_; rintro e w' ⟨rfl, rfl⟩) | (go_at_call 15; refine (K3.out _).mono ?_; rintro e w' ⟨rfl, rfl⟩) | (go_at_call 16; refine (K4.out _).mono ?_; rintro e w' ⟨rfl, rfl⟩) | (go_at_call 17; refine (K5.out _).mono ?_; rintro e w' ⟨rfl, rfl⟩) | (go_at_call 18; refine (K6.out _).mono ?_; rintro e w' ⟨rfl, rfl⟩) | (go_at_call 10; refine (lives_any _).mono ?_; rintro e w3 ⟨rfl, hb3⟩))
    go_ret
    exact ⟨rfl, hb3⟩
#print axioms litNames_walk
end Go.Proofs.Ytokpmpmlbmpnmab
