/-
  No cell of these rows narrows 'for every input' (looked for: loops, veiled, ifaces, maps, wideKeys, modest, calm, conditions, laid).
  DERIVED. THE GIVEN ROWS OF THIS SEAT. 3 by the template 'for every input the law returns true; each argument reads behind the call as it read before'; 0 by the template 'total and deterministic' (their statements: YtngldfheneegcaaTotals.lean).
  GIVEN WITH THE SEED: the statements are not yours to turn. If you find one false, say at which input.
  Laid BY PROGRAM, IN A SANDBOX (cutbox-rows.mjs): the forced cells as the released guide's own fill.sh prints them over the translation 80f7f433f4eed27b… (all of the seat's roots in one cut). By AI agents, Wed Nov 11 2026. No macro, syntax, notation, axiom, sorry.
-/
import Derived.Test.YtngldfheneegcaaChecked
import GoSem.Claim
import GoSem.ClaimJoined
import GoSem.ClaimMapViews
import Derived.JoinedTies
import Derived.KernelRfl
namespace Go.Proofs.Ytngldfheneegcaa
/- THE CELL 'sum', in the pinned program and in every row, IS THE sha256 OF THE DUMP (.gsa) THAT YtngldfheneegcaaProg.lean LOADS. Nothing in Lean hashes anything: it is a label: what it is worth is what the hold of that sum in a sandbox is worth. -/
noncomputable def Try.pinned : Pinned := { name := "ytngldfheneegcaa", sum := "80f7f433f4eed27b88be188f362e14c98af8997d35e560825beee01898c1b54e", checked := Try.checked }
namespace Rows
def none {H : Type} : Left H := { results := [], args := [] }

/-- 'catchmentlaw13.PivotSpans': WHATEVER THE INPUT: true; the input reads as it did. -/
def pivotSpansSpec : ChangeSpec := { name := "pivotSpans", fn := fun _ => fun
  | [d1, d2, d3, d4] => { results := [.lit (.bool true)], args := [d1, d2, d3, d4] }
  | _ => none }
def pivotSpansRow : OpenClaim := { program := "ytngldfheneegcaa", sum := "80f7f433f4eed27b88be188f362e14c98af8997d35e560825beee01898c1b54e", func := "catchment/catchmentlaw13.PivotSpans", spec := "pivotSpans", unfollowed := true, recurses := true, apart := false }
def PivotSpansSaid : Prop := pivotSpansRow.holds Try.pinned (OpenSpec.ofChange pivotSpansSpec)

/-- ITS FALSE NEIGHBOUR: 'it returns false'. Refute it at one input. -/
def pivotSpansWrong : ChangeSpec := { name := "pivotSpans", fn := fun _ => fun
  | [d1, d2, d3, d4] => { results := [.lit (.bool false)], args := [d1, d2, d3, d4] }
  | _ => none }
def PivotSpansWrongFalsely : Prop := pivotSpansRow.holds Try.pinned (OpenSpec.ofChange pivotSpansWrong)

/-- 'catchmentlaw13.PivotParts': WHATEVER THE INPUT: true; the input reads as it did. -/
def pivotPartsSpec : ChangeSpec := { name := "pivotParts", fn := fun _ => fun
  | [d1, d2, d3] => { results := [.lit (.bool true)], args := [d1, d2, d3] }
  | _ => none }
def pivotPartsRow : OpenClaim := { program := "ytngldfheneegcaa", sum := "80f7f433f4eed27b88be188f362e14c98af8997d35e560825beee01898c1b54e", func := "catchment/catchmentlaw13.PivotParts", spec := "pivotParts", unfollowed := true, recurses := true, apart := false }
def PivotPartsSaid : Prop := pivotPartsRow.holds Try.pinned (OpenSpec.ofChange pivotPartsSpec)

/-- ITS FALSE NEIGHBOUR: 'it returns false'. Refute it at one input. -/
def pivotPartsWrong : ChangeSpec := { name := "pivotParts", fn := fun _ => fun
  | [d1, d2, d3] => { results := [.lit (.bool false)], args := [d1, d2, d3] }
  | _ => none }
def PivotPartsWrongFalsely : Prop := pivotPartsRow.holds Try.pinned (OpenSpec.ofChange pivotPartsWrong)

/-- 'catchmentlaw13.PivotSplits': WHATEVER THE INPUT: true; the input reads as it did. -/
def pivotSplitsSpec : ChangeSpec := { name := "pivotSplits", fn := fun _ => fun
  | [d1, d2, d3] => { results := [.lit (.bool true)], args := [d1, d2, d3] }
  | _ => none }
def pivotSplitsRow : OpenClaim := { program := "ytngldfheneegcaa", sum := "80f7f433f4eed27b88be188f362e14c98af8997d35e560825beee01898c1b54e", func := "catchment/catchmentlaw13.PivotSplits", spec := "pivotSplits", unfollowed := true, recurses := true, apart := false }
def PivotSplitsSaid : Prop := pivotSplitsRow.holds Try.pinned (OpenSpec.ofChange pivotSplitsSpec)

/-- ITS FALSE NEIGHBOUR: 'it returns false'. Refute it at one input. -/
def pivotSplitsWrong : ChangeSpec := { name := "pivotSplits", fn := fun _ => fun
  | [d1, d2, d3] => { results := [.lit (.bool false)], args := [d1, d2, d3] }
  | _ => none }
def PivotSplitsWrongFalsely : Prop := pivotSplitsRow.holds Try.pinned (OpenSpec.ofChange pivotSplitsWrong)

/- THE SECOND FORM. 'bulk': how many values and letters a reading holds, each counted each time it is reached (what is shared counts as often as it is met; a slice's spare places count too). A statement '..UptoSaid' is the law's where the arguments, and the package variables that the reading takes, are together of bulk at most 1048576: NARROWER than '..Said'. Prove '..Said' where nothing that the law and all that it calls make is longer than what came in: it says more and counts as full. Else prove '..UptoSaid'. A law counts once. -/
mutual
def uptoBulk {H : Type} : DataW H → Nat
  | .lit (.string bytes) => bytes.length + 1
  | .lit _ => 1
  | .nil => 1
  | .ptr d => uptoBulk d + 1
  | .slice elems spare => uptoBulkAll elems + uptoBulkAll spare + 1
  | .agg parts => uptoBulkAll parts + 1
  | .iface _ d => uptoBulk d + 1
  | .map entries => uptoBulkEntries entries + 1
  | .held _ => 1
def uptoBulkAll {H : Type} : List (DataW H) → Nat
  | [] => 0
  | d :: r => uptoBulk d + uptoBulkAll r
def uptoBulkEntries {H : Type} : List (Lit × DataW H) → Nat
  | [] => 0
  | x :: r => uptoBulkEntry x + uptoBulkEntries r
def uptoBulkEntry {H : Type} : Lit × DataW H → Nat
  | (.string bytes, d) => bytes.length + uptoBulk d + 1
  | (_, d) => uptoBulk d + 1
 end
def uptoSmall : (H : Type) → List (DataW H) → Bool := fun _ ds => decide (uptoBulkAll ds ≤ 1048576)
def OpenSpec.upto (s : _root_.Go.ChangeSpec) : _root_.Go.OpenSpec := { _root_.Go.OpenSpec.ofChange s with cond := some uptoSmall }

/-- 'catchmentlaw13.PivotSpans', WHERE WHAT IT READS IS OF BULK AT MOST 1048576: true; the input reads as it did. -/
def pivotSpansUptoRow : OpenClaim := { program := "ytngldfheneegcaa", sum := "80f7f433f4eed27b88be188f362e14c98af8997d35e560825beee01898c1b54e", func := "catchment/catchmentlaw13.PivotSpans", spec := "pivotSpans", unfollowed := true, recurses := true, apart := false, narrowed := true }
def PivotSpansUptoSaid : Prop := pivotSpansUptoRow.holds Try.pinned (OpenSpec.upto pivotSpansSpec)

/-- 'catchmentlaw13.PivotParts', WHERE WHAT IT READS IS OF BULK AT MOST 1048576: true; the input reads as it did. -/
def pivotPartsUptoRow : OpenClaim := { program := "ytngldfheneegcaa", sum := "80f7f433f4eed27b88be188f362e14c98af8997d35e560825beee01898c1b54e", func := "catchment/catchmentlaw13.PivotParts", spec := "pivotParts", unfollowed := true, recurses := true, apart := false, narrowed := true }
def PivotPartsUptoSaid : Prop := pivotPartsUptoRow.holds Try.pinned (OpenSpec.upto pivotPartsSpec)

/-- 'catchmentlaw13.PivotSplits', WHERE WHAT IT READS IS OF BULK AT MOST 1048576: true; the input reads as it did. -/
def pivotSplitsUptoRow : OpenClaim := { program := "ytngldfheneegcaa", sum := "80f7f433f4eed27b88be188f362e14c98af8997d35e560825beee01898c1b54e", func := "catchment/catchmentlaw13.PivotSplits", spec := "pivotSplits", unfollowed := true, recurses := true, apart := false, narrowed := true }
def PivotSplitsUptoSaid : Prop := pivotSplitsUptoRow.holds Try.pinned (OpenSpec.upto pivotSplitsSpec)

end Rows
end Go.Proofs.Ytngldfheneegcaa
