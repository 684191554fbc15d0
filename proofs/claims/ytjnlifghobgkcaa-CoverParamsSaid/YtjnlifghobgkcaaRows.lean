/-
  No cell of these rows narrows 'for every input' (looked for: loops, veiled, ifaces, maps, wideKeys, modest, calm, conditions, laid).
  DERIVED. THE GIVEN ROWS OF THIS SEAT. 5 by the template 'for every input the law returns true; each argument reads behind the call as it read before'; 0 by the template 'total and deterministic' (their statements: YtjnlifghobgkcaaTotals.lean).
  GIVEN WITH THE SEED: the statements are not yours to turn. If you find one false, say at which input.
  Laid BY PROGRAM, IN A SANDBOX (cutbox-rows.mjs): the forced cells as the released guide's own fill.sh prints them over the translation 8d6b605215ac9cca… (all of the seat's roots in one cut). By AI agents, Wed Nov 11 2026. No macro, syntax, notation, axiom, sorry.
-/
import Derived.Test.YtjnlifghobgkcaaChecked
import GoSem.Claim
import GoSem.ClaimJoined
import GoSem.ClaimMapViews
import Derived.JoinedTies
import Derived.KernelRfl
namespace Go.Proofs.Ytjnlifghobgkcaa
/- THE CELL 'sum', in the pinned program and in every row, IS THE sha256 OF THE DUMP (.gsa) THAT YtjnlifghobgkcaaProg.lean LOADS. Nothing in Lean hashes anything: it is a label: what it is worth is what the hold of that sum in a sandbox is worth. -/
noncomputable def Try.pinned : Pinned := { name := "ytjnlifghobgkcaa", sum := "8d6b605215ac9cca8a3c3f5e799acc427a5216b3ff275683a28443a652753ce7", checked := Try.checked }
namespace Rows
def none {H : Type} : Left H := { results := [], args := [] }

/-- 'pantomimelaw05.CoverPatterns': WHATEVER THE INPUT: true; the input reads as it did. -/
def coverPatternsSpec : ChangeSpec := { name := "coverPatterns", fn := fun _ => fun
  | [d] => { results := [.lit (.bool true)], args := [d] }
  | _ => none }
def coverPatternsRow : OpenClaim := { program := "ytjnlifghobgkcaa", sum := "8d6b605215ac9cca8a3c3f5e799acc427a5216b3ff275683a28443a652753ce7", func := "pantomime/pantomimelaw05.CoverPatterns", spec := "coverPatterns", unfollowed := true, recurses := true, apart := false }
def CoverPatternsSaid : Prop := coverPatternsRow.holds Try.pinned (OpenSpec.ofChange coverPatternsSpec)

/-- ITS FALSE NEIGHBOUR: 'it returns false'. Refute it at one input. -/
def coverPatternsWrong : ChangeSpec := { name := "coverPatterns", fn := fun _ => fun
  | [d] => { results := [.lit (.bool false)], args := [d] }
  | _ => none }
def CoverPatternsWrongFalsely : Prop := coverPatternsRow.holds Try.pinned (OpenSpec.ofChange coverPatternsWrong)

/-- 'pantomimelaw05.CoverParams': WHATEVER THE INPUT: true; the input reads as it did. -/
def coverParamsSpec : ChangeSpec := { name := "coverParams", fn := fun _ => fun
  | [d] => { results := [.lit (.bool true)], args := [d] }
  | _ => none }
def coverParamsRow : OpenClaim := { program := "ytjnlifghobgkcaa", sum := "8d6b605215ac9cca8a3c3f5e799acc427a5216b3ff275683a28443a652753ce7", func := "pantomime/pantomimelaw05.CoverParams", spec := "coverParams", unfollowed := true, recurses := true, apart := false }
def CoverParamsSaid : Prop := coverParamsRow.holds Try.pinned (OpenSpec.ofChange coverParamsSpec)

/-- ITS FALSE NEIGHBOUR: 'it returns false'. Refute it at one input. -/
def coverParamsWrong : ChangeSpec := { name := "coverParams", fn := fun _ => fun
  | [d] => { results := [.lit (.bool false)], args := [d] }
  | _ => none }
def CoverParamsWrongFalsely : Prop := coverParamsRow.holds Try.pinned (OpenSpec.ofChange coverParamsWrong)

/-- 'pantomimelaw05.CoverNames': WHATEVER THE INPUT: true; the input reads as it did. -/
def coverNamesSpec : ChangeSpec := { name := "coverNames", fn := fun _ => fun
  | [d] => { results := [.lit (.bool true)], args := [d] }
  | _ => none }
def coverNamesRow : OpenClaim := { program := "ytjnlifghobgkcaa", sum := "8d6b605215ac9cca8a3c3f5e799acc427a5216b3ff275683a28443a652753ce7", func := "pantomime/pantomimelaw05.CoverNames", spec := "coverNames", unfollowed := true, recurses := true, apart := false }
def CoverNamesSaid : Prop := coverNamesRow.holds Try.pinned (OpenSpec.ofChange coverNamesSpec)

/-- ITS FALSE NEIGHBOUR: 'it returns false'. Refute it at one input. -/
def coverNamesWrong : ChangeSpec := { name := "coverNames", fn := fun _ => fun
  | [d] => { results := [.lit (.bool false)], args := [d] }
  | _ => none }
def CoverNamesWrongFalsely : Prop := coverNamesRow.holds Try.pinned (OpenSpec.ofChange coverNamesWrong)

/-- 'pantomimelaw05.CoverTwice': WHATEVER THE INPUT: true; the input reads as it did. -/
def coverTwiceSpec : ChangeSpec := { name := "coverTwice", fn := fun _ => fun
  | [d] => { results := [.lit (.bool true)], args := [d] }
  | _ => none }
def coverTwiceRow : OpenClaim := { program := "ytjnlifghobgkcaa", sum := "8d6b605215ac9cca8a3c3f5e799acc427a5216b3ff275683a28443a652753ce7", func := "pantomime/pantomimelaw05.CoverTwice", spec := "coverTwice", unfollowed := true, recurses := true, apart := false }
def CoverTwiceSaid : Prop := coverTwiceRow.holds Try.pinned (OpenSpec.ofChange coverTwiceSpec)

/-- ITS FALSE NEIGHBOUR: 'it returns false'. Refute it at one input. -/
def coverTwiceWrong : ChangeSpec := { name := "coverTwice", fn := fun _ => fun
  | [d] => { results := [.lit (.bool false)], args := [d] }
  | _ => none }
def CoverTwiceWrongFalsely : Prop := coverTwiceRow.holds Try.pinned (OpenSpec.ofChange coverTwiceWrong)

/-- 'pantomimelaw05.CoverDeep': WHATEVER THE INPUT: true; the input reads as it did. -/
def coverDeepSpec : ChangeSpec := { name := "coverDeep", fn := fun _ => fun
  | [d] => { results := [.lit (.bool true)], args := [d] }
  | _ => none }
def coverDeepRow : OpenClaim := { program := "ytjnlifghobgkcaa", sum := "8d6b605215ac9cca8a3c3f5e799acc427a5216b3ff275683a28443a652753ce7", func := "pantomime/pantomimelaw05.CoverDeep", spec := "coverDeep", unfollowed := true, recurses := true, apart := false }
def CoverDeepSaid : Prop := coverDeepRow.holds Try.pinned (OpenSpec.ofChange coverDeepSpec)

/-- ITS FALSE NEIGHBOUR: 'it returns false'. Refute it at one input. -/
def coverDeepWrong : ChangeSpec := { name := "coverDeep", fn := fun _ => fun
  | [d] => { results := [.lit (.bool false)], args := [d] }
  | _ => none }
def CoverDeepWrongFalsely : Prop := coverDeepRow.holds Try.pinned (OpenSpec.ofChange coverDeepWrong)

/- THE SECOND FORM. 'bulk': how many values and letters a reading holds, each counted each time it is reached (what is shared counts as often as it is met; a slice's spare places count too). A statement '..UptoSaid' is the law's where the arguments, and the package variables that the reading takes, are together of bulk at most 1048576: NARROWER than '..Said'. Prove '..Said' where nothing that the law and all that it calls make is longer than what came in: it says more and counts as full. Else prove '..UptoSaid'. A law counts once. -/
mutual
def uptoBulk {H : Type} : DataW H → Nat
  | .lit (.string bytes) => bytes.length + 1
  | .lit _ => 1
  | .nil => 1
  | .ptr d => uptoBulk d + 1
  | .slice elems spare => uptoBulkAll elems + uptoBulkAll spare + 1
  | .agg parts => uptoBulkAll parts + 1
  | .iface _ d => uptoBulk d + 1
  | .map entries => uptoBulkEntries entries + 1
  | .held _ => 1
def uptoBulkAll {H : Type} : List (DataW H) → Nat
  | [] => 0
  | d :: r => uptoBulk d + uptoBulkAll r
def uptoBulkEntries {H : Type} : List (Lit × DataW H) → Nat
  | [] => 0
  | x :: r => uptoBulkEntry x + uptoBulkEntries r
def uptoBulkEntry {H : Type} : Lit × DataW H → Nat
  | (.string bytes, d) => bytes.length + uptoBulk d + 1
  | (_, d) => uptoBulk d + 1
 end
def uptoSmall : (H : Type) → List (DataW H) → Bool := fun _ ds => decide (uptoBulkAll ds ≤ 1048576)
def OpenSpec.upto (s : _root_.Go.ChangeSpec) : _root_.Go.OpenSpec := { _root_.Go.OpenSpec.ofChange s with cond := some uptoSmall }

/-- 'pantomimelaw05.CoverPatterns', WHERE WHAT IT READS IS OF BULK AT MOST 1048576: true; the input reads as it did. -/
def coverPatternsUptoRow : OpenClaim := { program := "ytjnlifghobgkcaa", sum := "8d6b605215ac9cca8a3c3f5e799acc427a5216b3ff275683a28443a652753ce7", func := "pantomime/pantomimelaw05.CoverPatterns", spec := "coverPatterns", unfollowed := true, recurses := true, apart := false, narrowed := true }
def CoverPatternsUptoSaid : Prop := coverPatternsUptoRow.holds Try.pinned (OpenSpec.upto coverPatternsSpec)

/-- 'pantomimelaw05.CoverParams', WHERE WHAT IT READS IS OF BULK AT MOST 1048576: true; the input reads as it did. -/
def coverParamsUptoRow : OpenClaim := { program := "ytjnlifghobgkcaa", sum := "8d6b605215ac9cca8a3c3f5e799acc427a5216b3ff275683a28443a652753ce7", func := "pantomime/pantomimelaw05.CoverParams", spec := "coverParams", unfollowed := true, recurses := true, apart := false, narrowed := true }
def CoverParamsUptoSaid : Prop := coverParamsUptoRow.holds Try.pinned (OpenSpec.upto coverParamsSpec)

/-- 'pantomimelaw05.CoverNames', WHERE WHAT IT READS IS OF BULK AT MOST 1048576: true; the input reads as it did. -/
def coverNamesUptoRow : OpenClaim := { program := "ytjnlifghobgkcaa", sum := "8d6b605215ac9cca8a3c3f5e799acc427a5216b3ff275683a28443a652753ce7", func := "pantomime/pantomimelaw05.CoverNames", spec := "coverNames", unfollowed := true, recurses := true, apart := false, narrowed := true }
def CoverNamesUptoSaid : Prop := coverNamesUptoRow.holds Try.pinned (OpenSpec.upto coverNamesSpec)

/-- 'pantomimelaw05.CoverTwice', WHERE WHAT IT READS IS OF BULK AT MOST 1048576: true; the input reads as it did. -/
def coverTwiceUptoRow : OpenClaim := { program := "ytjnlifghobgkcaa", sum := "8d6b605215ac9cca8a3c3f5e799acc427a5216b3ff275683a28443a652753ce7", func := "pantomime/pantomimelaw05.CoverTwice", spec := "coverTwice", unfollowed := true, recurses := true, apart := false, narrowed := true }
def CoverTwiceUptoSaid : Prop := coverTwiceUptoRow.holds Try.pinned (OpenSpec.upto coverTwiceSpec)

/-- 'pantomimelaw05.CoverDeep', WHERE WHAT IT READS IS OF BULK AT MOST 1048576: true; the input reads as it did. -/
def coverDeepUptoRow : OpenClaim := { program := "ytjnlifghobgkcaa", sum := "8d6b605215ac9cca8a3c3f5e799acc427a5216b3ff275683a28443a652753ce7", func := "pantomime/pantomimelaw05.CoverDeep", spec := "coverDeep", unfollowed := true, recurses := true, apart := false, narrowed := true }
def CoverDeepUptoSaid : Prop := coverDeepUptoRow.holds Try.pinned (OpenSpec.upto coverDeepSpec)

end Rows
end Go.Proofs.Ytjnlifghobgkcaa
