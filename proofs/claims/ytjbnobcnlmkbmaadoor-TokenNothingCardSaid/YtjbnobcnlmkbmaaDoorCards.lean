/-
  DERIVED. GIVEN WITH THE SEED: THE CARDS: each row of YtjbnobcnlmkbmaaDoorRows.lean that lists a variable, with what it lists TIED to the program's text (the seventh form; the later family's looks); each row that meets fmt, with fmt's text TOLD by the authors' own Lean function (tested against real Go, not proved from fmt's source: count such statements apart). THE CARD IS WHAT COUNTS. Prove the row's statement (the work); the ties are given (YtjbnobcnlmkbmaaDoorTie.lean); close each card by the builder's one call (the guide's Derived/Test/ToyasCard.lean, 'card_holds'). Laid BY PROGRAM, IN A SANDBOX (cutbox-door.mjs). By AI agents, Wed Nov 11 2026. No macro, syntax, notation, axiom, sorry.
-/
import Derived.Test.YtjbnobcnlmkbmaaDoorRows
import GoSem.ClaimSeven
namespace Go.Proofs.YtjbnobcnlmkbmaaDoor
namespace Rows

/-- THE TIED CARD OF 'pantomimelaw03.TokenAll'. -/
def tokenAllCard : Claim7 := { stood := { row := tokenAllRow, standIns := [], harness := (true, "f1d9c06e3a78956acce24b4d52014129c826f878f72fde14fe4ae50529ac4d4d"), looks := false }, kinds := [], alts := [], laidByText := true, laidKinds := [.data, .data, .pinned], laidTests := true, laidLooks := .later }
def TokenAllCardSaid : Prop := Claim7.holds Tryd.pinned (.plain (OpenSpec.ofChange tokenAllSpec)) tokenAllCard

/-- THE TIED CARD OF 'pantomimelaw03.TokenNothing'. -/
def tokenNothingCard : Claim7 := { stood := { row := tokenNothingRow, standIns := [], harness := (true, "f1d9c06e3a78956acce24b4d52014129c826f878f72fde14fe4ae50529ac4d4d"), looks := false }, kinds := [], alts := [], laidByText := true, laidKinds := [.data, .data, .pinned], laidTests := true, laidLooks := .later }
def TokenNothingCardSaid : Prop := Claim7.holds Tryd.pinned (.plain (OpenSpec.ofChange tokenNothingSpec)) tokenNothingCard

/-- THE SECOND FORM's CARD OF 'pantomimelaw03.TokenAll'. -/
def tokenAllUptoCard : Claim7 := { stood := { row := tokenAllUptoRow, standIns := [], harness := (true, "f1d9c06e3a78956acce24b4d52014129c826f878f72fde14fe4ae50529ac4d4d"), looks := false }, kinds := [], alts := [], laidByText := true, laidKinds := [.data, .data, .pinned], laidTests := true, laidLooks := .later }
def TokenAllUptoCardSaid : Prop := Claim7.holds Tryd.pinned (.plain (OpenSpec.upto tokenAllSpec)) tokenAllUptoCard

/-- THE SECOND FORM's CARD OF 'pantomimelaw03.TokenNothing'. -/
def tokenNothingUptoCard : Claim7 := { stood := { row := tokenNothingUptoRow, standIns := [], harness := (true, "f1d9c06e3a78956acce24b4d52014129c826f878f72fde14fe4ae50529ac4d4d"), looks := false }, kinds := [], alts := [], laidByText := true, laidKinds := [.data, .data, .pinned], laidTests := true, laidLooks := .later }
def TokenNothingUptoCardSaid : Prop := Claim7.holds Tryd.pinned (.plain (OpenSpec.upto tokenNothingSpec)) tokenNothingUptoCard
end Rows
end Go.Proofs.YtjbnobcnlmkbmaaDoor
