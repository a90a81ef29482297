/-
  No cell of these rows narrows 'for every input' (looked for: loops, veiled, ifaces, maps, wideKeys, modest, calm, conditions, laid).
  DERIVED. THE GIVEN ROWS OF THIS SEAT. 3 by the template 'for every input the law returns true; each argument reads behind the call as it read before'; 0 by the template 'total and deterministic' (their statements: YtniffjjkjgfacaaTotals.lean).
  GIVEN WITH THE SEED: the statements are not yours to turn. If you find one false, say at which input.
  Laid BY PROGRAM, IN A SANDBOX (cutbox-rows.mjs): the forced cells as the released guide's own fill.sh prints them over the translation 8790982c2bd7288a… (all of the seat's roots in one cut). By AI agents, Wed Nov 11 2026. No macro, syntax, notation, axiom, sorry.
-/
import Derived.Test.YtniffjjkjgfacaaChecked
import GoSem.Claim
import GoSem.ClaimJoined
import GoSem.ClaimMapViews
import Derived.JoinedTies
import Derived.KernelRfl
namespace Go.Proofs.Ytniffjjkjgfacaa
/- THE CELL 'sum', in the pinned program and in every row, IS THE sha256 OF THE DUMP (.gsa) THAT YtniffjjkjgfacaaProg.lean LOADS. Nothing in Lean hashes anything: it is a label: what it is worth is what the hold of that sum in a sandbox is worth. -/
noncomputable def Try.pinned : Pinned := { name := "ytniffjjkjgfacaa", sum := "8790982c2bd7288afb5683c3d7024cefd322c585878f58d40a6b7ab596780b99", checked := Try.checked }
namespace Rows
def none {H : Type} : Left H := { results := [], args := [] }

/-- 'catchmentlaw39.MeasureShares': WHATEVER THE INPUT: true; the input reads as it did. -/
def measureSharesSpec : ChangeSpec := { name := "measureShares", fn := fun _ => fun
  | [d1, d2, d3, d4] => { results := [.lit (.bool true)], args := [d1, d2, d3, d4] }
  | _ => none }
def measureSharesRow : OpenClaim := { program := "ytniffjjkjgfacaa", sum := "8790982c2bd7288afb5683c3d7024cefd322c585878f58d40a6b7ab596780b99", func := "catchment/catchmentlaw39.MeasureShares", spec := "measureShares", unfollowed := true, recurses := true, named := ["math/bits.divideError", "math/bits.overflowError"], apart := false }
def MeasureSharesSaid : Prop := measureSharesRow.holds Try.pinned (OpenSpec.ofChange measureSharesSpec)

/-- ITS FALSE NEIGHBOUR: 'it returns false'. Refute it at one input. -/
def measureSharesWrong : ChangeSpec := { name := "measureShares", fn := fun _ => fun
  | [d1, d2, d3, d4] => { results := [.lit (.bool false)], args := [d1, d2, d3, d4] }
  | _ => none }
def MeasureSharesWrongFalsely : Prop := measureSharesRow.holds Try.pinned (OpenSpec.ofChange measureSharesWrong)

/-- 'catchmentlaw39.MeasureSpreads': WHATEVER THE INPUT: true; the input reads as it did. -/
def measureSpreadsSpec : ChangeSpec := { name := "measureSpreads", fn := fun _ => fun
  | [d1, d2] => { results := [.lit (.bool true)], args := [d1, d2] }
  | _ => none }
def measureSpreadsRow : OpenClaim := { program := "ytniffjjkjgfacaa", sum := "8790982c2bd7288afb5683c3d7024cefd322c585878f58d40a6b7ab596780b99", func := "catchment/catchmentlaw39.MeasureSpreads", spec := "measureSpreads", unfollowed := true, recurses := true, named := ["math/bits.divideError", "math/bits.overflowError"], apart := false }
def MeasureSpreadsSaid : Prop := measureSpreadsRow.holds Try.pinned (OpenSpec.ofChange measureSpreadsSpec)

/-- ITS FALSE NEIGHBOUR: 'it returns false'. Refute it at one input. -/
def measureSpreadsWrong : ChangeSpec := { name := "measureSpreads", fn := fun _ => fun
  | [d1, d2] => { results := [.lit (.bool false)], args := [d1, d2] }
  | _ => none }
def MeasureSpreadsWrongFalsely : Prop := measureSpreadsRow.holds Try.pinned (OpenSpec.ofChange measureSpreadsWrong)

/-- 'catchmentlaw39.MeasureCosts': WHATEVER THE INPUT: true; the input reads as it did. -/
def measureCostsSpec : ChangeSpec := { name := "measureCosts", fn := fun _ => fun
  | [d] => { results := [.lit (.bool true)], args := [d] }
  | _ => none }
def measureCostsRow : OpenClaim := { program := "ytniffjjkjgfacaa", sum := "8790982c2bd7288afb5683c3d7024cefd322c585878f58d40a6b7ab596780b99", func := "catchment/catchmentlaw39.MeasureCosts", spec := "measureCosts", unfollowed := true, recurses := true, named := ["math/bits.divideError", "math/bits.overflowError"], apart := false }
def MeasureCostsSaid : Prop := measureCostsRow.holds Try.pinned (OpenSpec.ofChange measureCostsSpec)

/-- ITS FALSE NEIGHBOUR: 'it returns false'. Refute it at one input. -/
def measureCostsWrong : ChangeSpec := { name := "measureCosts", fn := fun _ => fun
  | [d] => { results := [.lit (.bool false)], args := [d] }
  | _ => none }
def MeasureCostsWrongFalsely : Prop := measureCostsRow.holds Try.pinned (OpenSpec.ofChange measureCostsWrong)

/- THE SECOND FORM. 'bulk': how many values and letters a reading holds, each counted each time it is reached (what is shared counts as often as it is met; a slice's spare places count too). A statement '..UptoSaid' is the law's where the arguments, and the package variables that the reading takes, are together of bulk at most 1048576: NARROWER than '..Said'. Prove '..Said' where nothing that the law and all that it calls make is longer than what came in: it says more and counts as full. Else prove '..UptoSaid'. A law counts once. -/
mutual
def uptoBulk {H : Type} : DataW H → Nat
  | .lit (.string bytes) => bytes.length + 1
  | .lit _ => 1
  | .nil => 1
  | .ptr d => uptoBulk d + 1
  | .slice elems spare => uptoBulkAll elems + uptoBulkAll spare + 1
  | .agg parts => uptoBulkAll parts + 1
  | .iface _ d => uptoBulk d + 1
  | .map entries => uptoBulkEntries entries + 1
  | .held _ => 1
def uptoBulkAll {H : Type} : List (DataW H) → Nat
  | [] => 0
  | d :: r => uptoBulk d + uptoBulkAll r
def uptoBulkEntries {H : Type} : List (Lit × DataW H) → Nat
  | [] => 0
  | x :: r => uptoBulkEntry x + uptoBulkEntries r
def uptoBulkEntry {H : Type} : Lit × DataW H → Nat
  | (.string bytes, d) => bytes.length + uptoBulk d + 1
  | (_, d) => uptoBulk d + 1
 end
def uptoSmall : (H : Type) → List (DataW H) → Bool := fun _ ds => decide (uptoBulkAll ds ≤ 1048576)
def OpenSpec.upto (s : _root_.Go.ChangeSpec) : _root_.Go.OpenSpec := { _root_.Go.OpenSpec.ofChange s with cond := some uptoSmall }

/-- 'catchmentlaw39.MeasureShares', WHERE WHAT IT READS IS OF BULK AT MOST 1048576: true; the input reads as it did. -/
def measureSharesUptoRow : OpenClaim := { program := "ytniffjjkjgfacaa", sum := "8790982c2bd7288afb5683c3d7024cefd322c585878f58d40a6b7ab596780b99", func := "catchment/catchmentlaw39.MeasureShares", spec := "measureShares", unfollowed := true, recurses := true, named := ["math/bits.divideError", "math/bits.overflowError"], apart := false, narrowed := true }
def MeasureSharesUptoSaid : Prop := measureSharesUptoRow.holds Try.pinned (OpenSpec.upto measureSharesSpec)

/-- 'catchmentlaw39.MeasureSpreads', WHERE WHAT IT READS IS OF BULK AT MOST 1048576: true; the input reads as it did. -/
def measureSpreadsUptoRow : OpenClaim := { program := "ytniffjjkjgfacaa", sum := "8790982c2bd7288afb5683c3d7024cefd322c585878f58d40a6b7ab596780b99", func := "catchment/catchmentlaw39.MeasureSpreads", spec := "measureSpreads", unfollowed := true, recurses := true, named := ["math/bits.divideError", "math/bits.overflowError"], apart := false, narrowed := true }
def MeasureSpreadsUptoSaid : Prop := measureSpreadsUptoRow.holds Try.pinned (OpenSpec.upto measureSpreadsSpec)

/-- 'catchmentlaw39.MeasureCosts', WHERE WHAT IT READS IS OF BULK AT MOST 1048576: true; the input reads as it did. -/
def measureCostsUptoRow : OpenClaim := { program := "ytniffjjkjgfacaa", sum := "8790982c2bd7288afb5683c3d7024cefd322c585878f58d40a6b7ab596780b99", func := "catchment/catchmentlaw39.MeasureCosts", spec := "measureCosts", unfollowed := true, recurses := true, named := ["math/bits.divideError", "math/bits.overflowError"], apart := false, narrowed := true }
def MeasureCostsUptoSaid : Prop := measureCostsUptoRow.holds Try.pinned (OpenSpec.upto measureCostsSpec)

end Rows
end Go.Proofs.Ytniffjjkjgfacaa
