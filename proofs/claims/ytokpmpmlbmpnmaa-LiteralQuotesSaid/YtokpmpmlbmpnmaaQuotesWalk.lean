/-
  LiteralQuotes answers true at this translation, whatever the string, and turns nothing that was there.
-/
import Derived.Test.YtokpmpmlbmpnmaaLives
import Derived.Test.YtokpmpmlbmpnmaaRefQuote
namespace Go.Proofs.Ytokpmpmlbmpnmaa
open Go.RowKit

theorem extract_size (s : ByteArray) (n : Nat) (h : n ≤ s.size) : (s.extract 0 n).size = n := by
  simp; omega

theorem quotes_same (s : ByteArray) (hs : s.size ≤ 4000000) : ∃ t : ByteArray,
    (∀ w, Calls Try.prog 4 #[.string s] w fun x w' => x = .returned (.string t) ∧ Below w.heap.size w w') ∧
    (∀ w, Calls Try.prog 5 #[.string s] w fun x w' => x = .returned (.string t) ∧ Below w.heap.size w w') :=
  ⟨_, fun w => quote_any s w hs, fun w => refquote_any s w hs⟩

set_option maxHeartbeats 1000000 in
set_option maxRecDepth 100000 in
theorem litQuotes_walk (s : ByteArray) (hs : s.size ≤ maxLen) (w : World) :
    Calls Try.prog 3 #[.string s] w fun e w' => e = .returned (.bool true) ∧ Below w.heap.size w w' := by
  unfold maxLen at hs
  by_cases h2 : 2000 < s.size
  · have h2b : decide (2000 < s.size) = true := by simpa using h2
    have hz := extract_size s 2000 (by omega)
    obtain ⟨t, H1, H2⟩ := quotes_same (s.extract 0 2000) (by omega)
    clear hz
    go_enter Try.func3, Try.ntmps3
    go_wp2_with fail
    refine (H1 _).mono ?_
    rintro e w1 ⟨rfl, hb1⟩
    go_wp2_with fail
    refine (H2 _).mono ?_
    rintro e w2 ⟨rfl, hb2⟩
    go_wp2_with (go_at_call 6; refine (lives_any _).mono ?_; rintro e w3 ⟨rfl, hb3⟩)
    go_ret
    exact ⟨rfl, (hb1.trans (hb2.mono hb1.size)).trans (hb3.mono (Nat.le_trans hb1.size hb2.size))⟩
  · have h2b : decide (2000 < s.size) = false := by simpa using h2
    obtain ⟨t, H1, H2⟩ := quotes_same s (by omega)
    go_enter Try.func3, Try.ntmps3
    go_wp2_with fail
    refine (H1 _).mono ?_
    rintro e w1 ⟨rfl, hb1⟩
    go_wp2_with fail
    refine (H2 _).mono ?_
    rintro e w2 ⟨rfl, hb2⟩
    go_wp2_with (go_at_call 6; refine (lives_any _).mono ?_; rintro e w3 ⟨rfl, hb3⟩)
    go_ret
    exact ⟨rfl, (hb1.trans (hb2.mono hb1.size)).trans (hb3.mono (Nat.le_trans hb1.size hb2.size))⟩
#print axioms litQuotes_walk
end Go.Proofs.Ytokpmpmlbmpnmaa
