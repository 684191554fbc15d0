/-
  The law's own look at the three examples of the specification answers true at this translation.
-/
import Derived.Test.YtokpmpmlbmpnmaaPiece
import Derived.Test.YtokpmpmlbmpnmaaQuote
namespace Go.Proofs.Ytokpmpmlbmpnmaa
open Go.RowKit

theorem ex1v : rdV 39 7 [97, 92, 120, 52, 49, 39] 1 [] = ([97, 65], 7, 0) := by decide +kernel
theorem ex2v : pcV 5 [97, 36, 123, 98] 1 [] = ([97], 4, true, 0) := by decide +kernel
theorem ex3v : quoteL [97, 10, 34] = [34, 97, 92, 110, 92, 34, 34] := by decide +kernel

theorem ex1 (w : World) : Calls Try.prog 10 #[.string ⟨#[39, 97, 92, 120, 52, 49, 39]⟩, .int .i64 0] w fun e w' => e = .returned (.tuple #[.string ⟨#[97, 65]⟩, .int .i64 7, .int .i64 0]) ∧ Below w.heap.size w w' := by
  have h := read_in ⟨#[39, 97, 92, 120, 52, 49, 39]⟩ 0 39 w (by decide) (by decide) rfl (by decide)
  have e : rdR (rdV 39 (⟨#[39, 97, 92, 120, 52, 49, 39]⟩ : ByteArray).size ((⟨#[39, 97, 92, 120, 52, 49, 39]⟩ : ByteArray).data.toList.drop (0 + 1)) (0 + 1) []) = .returned (.tuple #[.string ⟨#[97, 65]⟩, .int .i64 7, .int .i64 0]) := congrArg rdR ex1v
  rw [e] at h
  exact h
theorem ex2 (w : World) : Calls Try.prog 11 #[.string ⟨#[96, 97, 36, 123, 98]⟩, .int .i64 0] w fun e w' => e = .returned (.tuple #[.string ⟨#[97]⟩, .int .i64 4, .bool true, .int .i64 0]) ∧ Below w.heap.size w w' := by
  have h := piece_in ⟨#[96, 97, 36, 123, 98]⟩ 0 96 w (by decide) (by decide) rfl (by decide)
  have e : pcR (pcV (⟨#[96, 97, 36, 123, 98]⟩ : ByteArray).size ((⟨#[96, 97, 36, 123, 98]⟩ : ByteArray).data.toList.drop (0 + 1)) (0 + 1) []) = .returned (.tuple #[.string ⟨#[97]⟩, .int .i64 4, .bool true, .int .i64 0]) := congrArg pcR ex2v
  rw [e] at h
  exact h
theorem ex3 (w : World) : Calls Try.prog 4 #[.string ⟨#[97, 10, 34]⟩] w fun e w' => e = .returned (.string ⟨#[34, 97, 92, 110, 92, 34, 34]⟩) ∧ Below w.heap.size w w' := by
  have h := quote_any ⟨#[97, 10, 34]⟩ w (by decide)
  have e : Ending.returned (.string ⟨(quoteL (⟨#[97, 10, 34]⟩ : ByteArray).data.toList).toArray⟩) = .returned (.string ⟨#[34, 97, 92, 110, 92, 34, 34]⟩) := congrArg (fun l : List UInt8 => Ending.returned (.string ⟨l.toArray⟩)) ex3v
  rw [e] at h
  exact h

set_option maxHeartbeats 1000000 in
set_option maxRecDepth 100000 in
theorem lives_any (w : World) : Calls Try.prog 6 #[] w fun e w' => e = .returned (.bool true) ∧ Below w.heap.size w w' := by
  go_enter Try.func6, Try.ntmps6
  go_wp2_with fail
  refine (ex1 _).mono ?_
  rintro e w1 ⟨rfl, hb1⟩
  go_wp2_with fail
  refine (ex2 _).mono ?_
  rintro e w2 ⟨rfl, hb2⟩
  go_wp2_with fail
  refine (ex3 _).mono ?_
  rintro e w3 ⟨rfl, hb3⟩
  go_wp2
  go_ret
  exact ⟨rfl, (hb1.trans (hb2.mono hb1.size)).trans (hb3.mono (Nat.le_trans hb1.size hb2.size))⟩

#print axioms lives_any
end Go.Proofs.Ytokpmpmlbmpnmaa
