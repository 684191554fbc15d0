/-
  What the rows of package num list: that the table of powers reads as it stands, and that a world which meets the list is there.
-/
import Derived.Test.YtokpmpmlbmpnmaaDoorText
import Derived.Test.YtokpmpmlbmpnmaaDoorTie
import Derived.Test.YtokpmpmlbmpnmaaDoorCards
import Derived.ProofKit
import Derived.OpenShut
import Derived.LaidMore
import Derived.Lay
import Derived.SevenTiedAt
import Derived.Stop.Joined
import Derived.Stop.LaidErr
import Derived.Lib.LaidTab
namespace Go.Proofs.YtokpmpmlbmpnmaaDoor
open Go.ChangeShapes Go.WideShapes Go.ChangeAt Go.RowKit

theorem own : ownKnob Tryd.prog.godebug = none := by kernel_rfl
theorem tab_of_laid {W : World} (h : laidMetH Tryd.prog Rows.numRestsRow.laid W) : Tab W := by
  rw [MakeChecks.laidMetH_plain _ _ _ (by kernel_rfl)] at h
  have h2 := laidMet.tail (laidMet.tail h)
  exact Lib.tabIs_of_head (g := 0) (t := 81) (e := 73) (n := 20) (by kernel_rfl) (by kernel_rfl) Tryd.underlying81 Tryd.underlying73 (by kernel_rfl) (by kernel_rfl) h2
end Go.Proofs.YtokpmpmlbmpnmaaDoor
