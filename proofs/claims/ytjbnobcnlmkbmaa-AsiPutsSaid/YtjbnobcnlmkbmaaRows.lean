/-
  No cell of these rows narrows 'for every input' (looked for: loops, veiled, ifaces, maps, wideKeys, modest, calm, conditions, laid).
  DERIVED. THE GIVEN ROWS OF THIS SEAT. 4 by the template 'for every input the law returns true; each argument reads behind the call as it read before'; 0 by the template 'total and deterministic' (their statements: YtjbnobcnlmkbmaaTotals.lean).
  GIVEN WITH THE SEED: the statements are not yours to turn. If you find one false, say at which input.
  Laid BY PROGRAM, IN A SANDBOX (cutbox-rows.mjs): the forced cells as the released guide's own fill.sh prints them over the translation b27d95c8705d12ce… (all of the seat's roots in one cut). By AI agents, Wed Nov 11 2026. No macro, syntax, notation, axiom, sorry.
-/
import Derived.Test.YtjbnobcnlmkbmaaChecked
import GoSem.Claim
import GoSem.ClaimJoined
import GoSem.ClaimMapViews
import Derived.JoinedTies
import Derived.KernelRfl
namespace Go.Proofs.Ytjbnobcnlmkbmaa
/- THE CELL 'sum', in the pinned program and in every row, IS THE sha256 OF THE DUMP (.gsa) THAT YtjbnobcnlmkbmaaProg.lean LOADS. Nothing in Lean hashes anything: it is a label: what it is worth is what the hold of that sum in a sandbox is worth. -/
noncomputable def Try.pinned : Pinned := { name := "ytjbnobcnlmkbmaa", sum := "b27d95c8705d12ce0c8181cbe0d73165eb51b6d604098ee72e4b15a0b4e79d3c", checked := Try.checked }
namespace Rows
def none {H : Type} : Left H := { results := [], args := [] }

/-- 'pantomimelaw06.AsiMays': WHATEVER THE INPUT: true; the input reads as it did. -/
def asiMaysSpec : ChangeSpec := { name := "asiMays", fn := fun _ => fun
  | [d1, d2] => { results := [.lit (.bool true)], args := [d1, d2] }
  | _ => none }
def asiMaysRow : OpenClaim := { program := "ytjbnobcnlmkbmaa", sum := "b27d95c8705d12ce0c8181cbe0d73165eb51b6d604098ee72e4b15a0b4e79d3c", func := "pantomime/pantomimelaw06.AsiMays", spec := "asiMays", apart := false }
def AsiMaysSaid : Prop := asiMaysRow.holds Try.pinned (OpenSpec.ofChange asiMaysSpec)

/-- ITS FALSE NEIGHBOUR: 'it returns false'. Refute it at one input. -/
def asiMaysWrong : ChangeSpec := { name := "asiMays", fn := fun _ => fun
  | [d1, d2] => { results := [.lit (.bool false)], args := [d1, d2] }
  | _ => none }
def AsiMaysWrongFalsely : Prop := asiMaysRow.holds Try.pinned (OpenSpec.ofChange asiMaysWrong)

/-- 'pantomimelaw06.AsiEnds': WHATEVER THE INPUT: true; the input reads as it did. -/
def asiEndsSpec : ChangeSpec := { name := "asiEnds", fn := fun _ => fun
  | [d1, d2] => { results := [.lit (.bool true)], args := [d1, d2] }
  | _ => none }
def asiEndsRow : OpenClaim := { program := "ytjbnobcnlmkbmaa", sum := "b27d95c8705d12ce0c8181cbe0d73165eb51b6d604098ee72e4b15a0b4e79d3c", func := "pantomime/pantomimelaw06.AsiEnds", spec := "asiEnds", apart := false }
def AsiEndsSaid : Prop := asiEndsRow.holds Try.pinned (OpenSpec.ofChange asiEndsSpec)

/-- ITS FALSE NEIGHBOUR: 'it returns false'. Refute it at one input. -/
def asiEndsWrong : ChangeSpec := { name := "asiEnds", fn := fun _ => fun
  | [d1, d2] => { results := [.lit (.bool false)], args := [d1, d2] }
  | _ => none }
def AsiEndsWrongFalsely : Prop := asiEndsRow.holds Try.pinned (OpenSpec.ofChange asiEndsWrong)

/-- 'pantomimelaw06.AsiPuts': WHATEVER THE INPUT: true; the input reads as it did. -/
def asiPutsSpec : ChangeSpec := { name := "asiPuts", fn := fun _ => fun
  | [d1, d2] => { results := [.lit (.bool true)], args := [d1, d2] }
  | _ => none }
def asiPutsRow : OpenClaim := { program := "ytjbnobcnlmkbmaa", sum := "b27d95c8705d12ce0c8181cbe0d73165eb51b6d604098ee72e4b15a0b4e79d3c", func := "pantomime/pantomimelaw06.AsiPuts", spec := "asiPuts", apart := false }
def AsiPutsSaid : Prop := asiPutsRow.holds Try.pinned (OpenSpec.ofChange asiPutsSpec)

/-- ITS FALSE NEIGHBOUR: 'it returns false'. Refute it at one input. -/
def asiPutsWrong : ChangeSpec := { name := "asiPuts", fn := fun _ => fun
  | [d1, d2] => { results := [.lit (.bool false)], args := [d1, d2] }
  | _ => none }
def AsiPutsWrongFalsely : Prop := asiPutsRow.holds Try.pinned (OpenSpec.ofChange asiPutsWrong)

/-- 'pantomimelaw06.AsiPlain': WHATEVER THE INPUT: true; the input reads as it did. -/
def asiPlainSpec : ChangeSpec := { name := "asiPlain", fn := fun _ => fun
  | [d] => { results := [.lit (.bool true)], args := [d] }
  | _ => none }
def asiPlainRow : OpenClaim := { program := "ytjbnobcnlmkbmaa", sum := "b27d95c8705d12ce0c8181cbe0d73165eb51b6d604098ee72e4b15a0b4e79d3c", func := "pantomime/pantomimelaw06.AsiPlain", spec := "asiPlain", apart := false }
def AsiPlainSaid : Prop := asiPlainRow.holds Try.pinned (OpenSpec.ofChange asiPlainSpec)

/-- ITS FALSE NEIGHBOUR: 'it returns false'. Refute it at one input. -/
def asiPlainWrong : ChangeSpec := { name := "asiPlain", fn := fun _ => fun
  | [d] => { results := [.lit (.bool false)], args := [d] }
  | _ => none }
def AsiPlainWrongFalsely : Prop := asiPlainRow.holds Try.pinned (OpenSpec.ofChange asiPlainWrong)

/- THE SECOND FORM. 'bulk': how many values and letters a reading holds, each counted each time it is reached (what is shared counts as often as it is met; a slice's spare places count too). A statement '..UptoSaid' is the law's where the arguments, and the package variables that the reading takes, are together of bulk at most 1048576: NARROWER than '..Said'. Prove '..Said' where nothing that the law and all that it calls make is longer than what came in: it says more and counts as full. Else prove '..UptoSaid'. A law counts once. -/
mutual
def uptoBulk {H : Type} : DataW H → Nat
  | .lit (.string bytes) => bytes.length + 1
  | .lit _ => 1
  | .nil => 1
  | .ptr d => uptoBulk d + 1
  | .slice elems spare => uptoBulkAll elems + uptoBulkAll spare + 1
  | .agg parts => uptoBulkAll parts + 1
  | .iface _ d => uptoBulk d + 1
  | .map entries => uptoBulkEntries entries + 1
  | .held _ => 1
def uptoBulkAll {H : Type} : List (DataW H) → Nat
  | [] => 0
  | d :: r => uptoBulk d + uptoBulkAll r
def uptoBulkEntries {H : Type} : List (Lit × DataW H) → Nat
  | [] => 0
  | x :: r => uptoBulkEntry x + uptoBulkEntries r
def uptoBulkEntry {H : Type} : Lit × DataW H → Nat
  | (.string bytes, d) => bytes.length + uptoBulk d + 1
  | (_, d) => uptoBulk d + 1
 end
def uptoSmall : (H : Type) → List (DataW H) → Bool := fun _ ds => decide (uptoBulkAll ds ≤ 1048576)
def OpenSpec.upto (s : _root_.Go.ChangeSpec) : _root_.Go.OpenSpec := { _root_.Go.OpenSpec.ofChange s with cond := some uptoSmall }

/-- 'pantomimelaw06.AsiMays', WHERE WHAT IT READS IS OF BULK AT MOST 1048576: true; the input reads as it did. -/
def asiMaysUptoRow : OpenClaim := { program := "ytjbnobcnlmkbmaa", sum := "b27d95c8705d12ce0c8181cbe0d73165eb51b6d604098ee72e4b15a0b4e79d3c", func := "pantomime/pantomimelaw06.AsiMays", spec := "asiMays", apart := false, narrowed := true }
def AsiMaysUptoSaid : Prop := asiMaysUptoRow.holds Try.pinned (OpenSpec.upto asiMaysSpec)

/-- 'pantomimelaw06.AsiEnds', WHERE WHAT IT READS IS OF BULK AT MOST 1048576: true; the input reads as it did. -/
def asiEndsUptoRow : OpenClaim := { program := "ytjbnobcnlmkbmaa", sum := "b27d95c8705d12ce0c8181cbe0d73165eb51b6d604098ee72e4b15a0b4e79d3c", func := "pantomime/pantomimelaw06.AsiEnds", spec := "asiEnds", apart := false, narrowed := true }
def AsiEndsUptoSaid : Prop := asiEndsUptoRow.holds Try.pinned (OpenSpec.upto asiEndsSpec)

/-- 'pantomimelaw06.AsiPuts', WHERE WHAT IT READS IS OF BULK AT MOST 1048576: true; the input reads as it did. -/
def asiPutsUptoRow : OpenClaim := { program := "ytjbnobcnlmkbmaa", sum := "b27d95c8705d12ce0c8181cbe0d73165eb51b6d604098ee72e4b15a0b4e79d3c", func := "pantomime/pantomimelaw06.AsiPuts", spec := "asiPuts", apart := false, narrowed := true }
def AsiPutsUptoSaid : Prop := asiPutsUptoRow.holds Try.pinned (OpenSpec.upto asiPutsSpec)

/-- 'pantomimelaw06.AsiPlain', WHERE WHAT IT READS IS OF BULK AT MOST 1048576: true; the input reads as it did. -/
def asiPlainUptoRow : OpenClaim := { program := "ytjbnobcnlmkbmaa", sum := "b27d95c8705d12ce0c8181cbe0d73165eb51b6d604098ee72e4b15a0b4e79d3c", func := "pantomime/pantomimelaw06.AsiPlain", spec := "asiPlain", apart := false, narrowed := true }
def AsiPlainUptoSaid : Prop := asiPlainUptoRow.holds Try.pinned (OpenSpec.upto asiPlainSpec)

end Rows
end Go.Proofs.Ytjbnobcnlmkbmaa
