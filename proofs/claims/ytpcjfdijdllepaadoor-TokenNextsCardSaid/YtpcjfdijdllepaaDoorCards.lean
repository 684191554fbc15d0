/-
  DERIVED. GIVEN WITH THE SEED: THE CARDS: each row of YtpcjfdijdllepaaDoorRows.lean that lists a variable, with what it lists TIED to the program's text (the seventh form; the later family's looks); each row that meets fmt, with fmt's text TOLD by the authors' own Lean function (tested against real Go, not proved from fmt's source: count such statements apart). THE CARD IS WHAT COUNTS. Prove the row's statement (the work); the ties are given (YtpcjfdijdllepaaDoorTie.lean); close each card by the builder's one call (the guide's Derived/Test/ToyasCard.lean, 'card_holds'). Laid BY PROGRAM, IN A SANDBOX (cutbox-door.mjs). By AI agents, Wed Nov 11 2026. No macro, syntax, notation, axiom, sorry.
-/
import Derived.Test.YtpcjfdijdllepaaDoorRows
import GoSem.ClaimSeven
namespace Go.Proofs.YtpcjfdijdllepaaDoor
namespace Rows

/-- THE TIED CARD OF 'pantomimelaw03.TokenNexts'. -/
def tokenNextsCard : Claim7 := { stood := { row := tokenNextsRow, standIns := [], harness := (true, "bd8e22d4ba773906df0577e19f123b1231cab494e1ade45fae073a33d86cabdd"), looks := false }, kinds := [], alts := [], laidByText := true, laidKinds := [.data, .data, .pinned], laidTests := true, laidLooks := .later }
def TokenNextsCardSaid : Prop := Claim7.holds Tryd.pinned (.plain (OpenSpec.ofChange tokenNextsSpec)) tokenNextsCard

/-- THE TIED CARD OF 'pantomimelaw03.TokenAll'. -/
def tokenAllCard : Claim7 := { stood := { row := tokenAllRow, standIns := [], harness := (true, "bd8e22d4ba773906df0577e19f123b1231cab494e1ade45fae073a33d86cabdd"), looks := false }, kinds := [], alts := [], laidByText := true, laidKinds := [.data, .data, .pinned], laidTests := true, laidLooks := .later }
def TokenAllCardSaid : Prop := Claim7.holds Tryd.pinned (.plain (OpenSpec.ofChange tokenAllSpec)) tokenAllCard

/-- THE TIED CARD OF 'pantomimelaw03.TokenNothing'. -/
def tokenNothingCard : Claim7 := { stood := { row := tokenNothingRow, standIns := [], harness := (true, "bd8e22d4ba773906df0577e19f123b1231cab494e1ade45fae073a33d86cabdd"), looks := false }, kinds := [], alts := [], laidByText := true, laidKinds := [.data, .data, .pinned], laidTests := true, laidLooks := .later }
def TokenNothingCardSaid : Prop := Claim7.holds Tryd.pinned (.plain (OpenSpec.ofChange tokenNothingSpec)) tokenNothingCard

/-- THE TIED CARD OF 'pantomimelaw04.TreeCounts'. -/
def treeCountsCard : Claim7 := { stood := { row := treeCountsRow, standIns := [], harness := (true, "bd8e22d4ba773906df0577e19f123b1231cab494e1ade45fae073a33d86cabdd"), looks := false }, kinds := [], alts := [], laidByText := true, laidKinds := [.data, .data, .data, .data], laidTests := true, laidLooks := .later }
def TreeCountsCardSaid : Prop := Claim7.holds Tryd.pinned (.plain (OpenSpec.ofChange treeCountsSpec)) treeCountsCard

/-- THE TIED CARD OF 'pantomimelaw04.TreeWalks'. -/
def treeWalksCard : Claim7 := { stood := { row := treeWalksRow, standIns := [], harness := (true, "bd8e22d4ba773906df0577e19f123b1231cab494e1ade45fae073a33d86cabdd"), looks := false }, kinds := [], alts := [], laidByText := true, laidKinds := [.data, .data, .data, .data], laidTests := true, laidLooks := .later }
def TreeWalksCardSaid : Prop := Claim7.holds Tryd.pinned (.plain (OpenSpec.ofChange treeWalksSpec)) treeWalksCard

/-- THE TIED CARD OF 'pantomimelaw04.TreeDumps'. -/
def treeDumpsCard : Claim7 := { stood := { row := treeDumpsRow, standIns := [], harness := (true, "bd8e22d4ba773906df0577e19f123b1231cab494e1ade45fae073a33d86cabdd"), looks := false }, kinds := [], alts := [], laidByText := true, laidKinds := [.data, .data, .data, .data], laidTests := true, laidLooks := .later }
def TreeDumpsCardSaid : Prop := Claim7.holds Tryd.pinned (.plain (OpenSpec.ofChange treeDumpsSpec)) treeDumpsCard

/-- THE SECOND FORM's CARD OF 'pantomimelaw03.TokenNexts'. -/
def tokenNextsUptoCard : Claim7 := { stood := { row := tokenNextsUptoRow, standIns := [], harness := (true, "bd8e22d4ba773906df0577e19f123b1231cab494e1ade45fae073a33d86cabdd"), looks := false }, kinds := [], alts := [], laidByText := true, laidKinds := [.data, .data, .pinned], laidTests := true, laidLooks := .later }
def TokenNextsUptoCardSaid : Prop := Claim7.holds Tryd.pinned (.plain (OpenSpec.upto tokenNextsSpec)) tokenNextsUptoCard

/-- THE SECOND FORM's CARD OF 'pantomimelaw03.TokenAll'. -/
def tokenAllUptoCard : Claim7 := { stood := { row := tokenAllUptoRow, standIns := [], harness := (true, "bd8e22d4ba773906df0577e19f123b1231cab494e1ade45fae073a33d86cabdd"), looks := false }, kinds := [], alts := [], laidByText := true, laidKinds := [.data, .data, .pinned], laidTests := true, laidLooks := .later }
def TokenAllUptoCardSaid : Prop := Claim7.holds Tryd.pinned (.plain (OpenSpec.upto tokenAllSpec)) tokenAllUptoCard

/-- THE SECOND FORM's CARD OF 'pantomimelaw03.TokenNothing'. -/
def tokenNothingUptoCard : Claim7 := { stood := { row := tokenNothingUptoRow, standIns := [], harness := (true, "bd8e22d4ba773906df0577e19f123b1231cab494e1ade45fae073a33d86cabdd"), looks := false }, kinds := [], alts := [], laidByText := true, laidKinds := [.data, .data, .pinned], laidTests := true, laidLooks := .later }
def TokenNothingUptoCardSaid : Prop := Claim7.holds Tryd.pinned (.plain (OpenSpec.upto tokenNothingSpec)) tokenNothingUptoCard

/-- THE SECOND FORM's CARD OF 'pantomimelaw04.TreeCounts'. -/
def treeCountsUptoCard : Claim7 := { stood := { row := treeCountsUptoRow, standIns := [], harness := (true, "bd8e22d4ba773906df0577e19f123b1231cab494e1ade45fae073a33d86cabdd"), looks := false }, kinds := [], alts := [], laidByText := true, laidKinds := [.data, .data, .data, .data], laidTests := true, laidLooks := .later }
def TreeCountsUptoCardSaid : Prop := Claim7.holds Tryd.pinned (.plain (OpenSpec.upto treeCountsSpec)) treeCountsUptoCard

/-- THE SECOND FORM's CARD OF 'pantomimelaw04.TreeWalks'. -/
def treeWalksUptoCard : Claim7 := { stood := { row := treeWalksUptoRow, standIns := [], harness := (true, "bd8e22d4ba773906df0577e19f123b1231cab494e1ade45fae073a33d86cabdd"), looks := false }, kinds := [], alts := [], laidByText := true, laidKinds := [.data, .data, .data, .data], laidTests := true, laidLooks := .later }
def TreeWalksUptoCardSaid : Prop := Claim7.holds Tryd.pinned (.plain (OpenSpec.upto treeWalksSpec)) treeWalksUptoCard

/-- THE SECOND FORM's CARD OF 'pantomimelaw04.TreeDumps'. -/
def treeDumpsUptoCard : Claim7 := { stood := { row := treeDumpsUptoRow, standIns := [], harness := (true, "bd8e22d4ba773906df0577e19f123b1231cab494e1ade45fae073a33d86cabdd"), looks := false }, kinds := [], alts := [], laidByText := true, laidKinds := [.data, .data, .data, .data], laidTests := true, laidLooks := .later }
def TreeDumpsUptoCardSaid : Prop := Claim7.holds Tryd.pinned (.plain (OpenSpec.upto treeDumpsSpec)) treeDumpsUptoCard
end Rows
end Go.Proofs.YtpcjfdijdllepaaDoor
