/-
  LiteralPieces answers true at this translation, whatever the string and the offset, and turns nothing that was there.
-/
import Derived.Test.YtokpmpmlbmpnmabLives
import Derived.Test.YtokpmpmlbmpnmabRefPiece
namespace Go.Proofs.Ytokpmpmlbmpnmab
open Go.RowKit

theorem pieces_same (s : ByteArray) (k : Int) (hs : s.size ≤ 4000000) : ∃ (t : ByteArray) (n : Int) (o : Bool) (e : Int),
    (∀ w, Calls Try.prog 11 #[.string s, .int .i64 k] w fun x w' => x = .returned (.tuple #[.string t, .int .i64 n, .bool o, .int .i64 e]) ∧ Below w.heap.size w w') ∧
    (∀ w, Calls Try.prog 12 #[.string s, .int .i64 k] w fun x w' => x = .returned (.tuple #[.string t, .int .i64 n, .bool o, .int .i64 e]) ∧ Below w.heap.size w w') := by
  by_cases hk : k < 0 ∨ s.size ≤ k
  · exact ⟨⟨#[]⟩, 0, false, 1, fun w => piece_out s k w hs hk, fun w => refpiece_out s k w hk⟩
  · obtain ⟨j, rfl⟩ := Int.eq_ofNat_of_zero_le (show 0 ≤ k by omega)
    have hj : j < s.size := by omega
    by_cases hq : ((s[j].toNat : Int) = 96 ∨ (s[j].toNat : Int) = 125)
    · obtain ⟨r, hr⟩ : ∃ r, r = pcV s.size (s.data.toList.drop (j + 1)) (j + 1) [] := ⟨_, rfl⟩
      refine ⟨⟨r.1.toArray⟩, (r.2.1 : Nat), r.2.2.1, r.2.2.2, fun w => ?_, fun w => ?_⟩
      · have h := piece_in s j s[j] w hs hj rfl hq
        rw [← hr] at h
        exact h
      · have h := refpiece_in s j s[j] w hs hj rfl hq
        rw [← hr] at h
        exact h
    · exact ⟨_, _, _, _, fun w => piece_no s j s[j] w hj rfl hq, fun w => refpiece_no s j s[j] w hj rfl hq⟩

theorem extract_size2 (s : ByteArray) (n : Nat) (h : n ≤ s.size) : (s.extract 0 n).size = n := by
  simp; omega

set_option maxHeartbeats 1000000 in
set_option maxRecDepth 100000 in
theorem litPieces_walk (s : ByteArray) (k : Int) (hs : s.size ≤ maxLen) (w : World) :
    Calls Try.prog 4 #[.string s, .int .i64 k] w fun e w' => e = .returned (.bool true) ∧ Below w.heap.size w w' := by
  unfold maxLen at hs
  by_cases h2 : 2000 < s.size
  · have h2b : decide (2000 < s.size) = true := by simpa using h2
    have hz := extract_size2 s 2000 (by omega)
    obtain ⟨t, n, o, e, H1, H2⟩ := pieces_same (s.extract 0 2000) k (by omega)
    clear hz
    go_enter Try.func4, Try.ntmps4
    go_wp2_with fail
    refine (H1 _).mono ?_
    rintro e w1 ⟨rfl, hb1⟩
    go_wp2_with fail
    refine (H2 _).mono ?_
    rintro e w2 ⟨rfl, hb2⟩
    go_wp2_with (go_at_call 10; refine (lives_any _).mono ?_; rintro e w3 ⟨rfl, hb3⟩)
    go_ret
    exact ⟨rfl, (hb1.trans (hb2.mono hb1.size)).trans (hb3.mono (Nat.le_trans hb1.size hb2.size))⟩
  · have h2b : decide (2000 < s.size) = false := by simpa using h2
    obtain ⟨t, n, o, e, H1, H2⟩ := pieces_same s k (by omega)
    go_enter Try.func4, Try.ntmps4
    go_wp2_with fail
    refine (H1 _).mono ?_
    rintro e w1 ⟨rfl, hb1⟩
    go_wp2_with fail
    refine (H2 _).mono ?_
    rintro e w2 ⟨rfl, hb2⟩
    go_wp2_with (go_at_call 10; refine (lives_any _).mono ?_; rintro e w3 ⟨rfl, hb3⟩)
    go_ret
    exact ⟨rfl, (hb1.trans (hb2.mono hb1.size)).trans (hb3.mono (Nat.le_trans hb1.size hb2.size))⟩
#print axioms litPieces_walk
end Go.Proofs.Ytokpmpmlbmpnmab
