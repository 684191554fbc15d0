/-
  What further functions of one byte answer, at this translation (isLetter of package literal): for every byte.
-/
import Derived.Test.YthkjdllpgcocpaaGreatDoorBytes
import Derived.WalkKit
import Derived.WalkSpells
import Derived.WalkLawsBesides
namespace Go.Proofs.YthkjdllpgcocpaaGreatDoor
open Go.RowKit

set_option maxHeartbeats 400000 in
theorem isLetter_any (c : Int) (w : World) (h0 : 0 ≤ c) (h1 : c ≤ 255) :
    Calls Tryz.prog 146 #[.int .u8 c] w fun e w' => e = .returned (.bool (letB c)) ∧ w = w' := by
  go_enter Tryz.func146, Tryz.ntmps146
  go_wp2
  all_goals
    go_ret
    exact ⟨ret_b (by unfold letB; rw [Bool.eq_iff_iff]; simp <;> omega), rfl⟩

end Go.Proofs.YthkjdllpgcocpaaGreatDoor
