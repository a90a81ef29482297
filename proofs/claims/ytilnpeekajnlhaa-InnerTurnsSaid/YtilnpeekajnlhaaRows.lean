/-
  No cell of these rows narrows 'for every input' (looked for: loops, veiled, ifaces, maps, wideKeys, modest, calm, conditions, laid).
  DERIVED. THE GIVEN ROWS OF THIS SEAT. 4 by the template 'for every input the law returns true; each argument reads behind the call as it read before'; 0 by the template 'total and deterministic' (their statements: YtilnpeekajnlhaaTotals.lean).
  GIVEN WITH THE SEED: the statements are not yours to turn. If you find one false, say at which input.
  Laid BY PROGRAM, IN A SANDBOX (cutbox-rows.mjs): the forced cells as the released guide's own fill.sh prints them over the translation 0b4b9927befda2f0… (all of the seat's roots in one cut). By AI agents, Wed Nov 11 2026. No macro, syntax, notation, axiom, sorry.
-/
import Derived.Test.YtilnpeekajnlhaaChecked
import GoSem.Claim
import GoSem.ClaimJoined
import GoSem.ClaimMapViews
import Derived.JoinedTies
import Derived.KernelRfl
namespace Go.Proofs.Ytilnpeekajnlhaa
/- THE CELL 'sum', in the pinned program and in every row, IS THE sha256 OF THE DUMP (.gsa) THAT YtilnpeekajnlhaaProg.lean LOADS. Nothing in Lean hashes anything: it is a label: what it is worth is what the hold of that sum in a sandbox is worth. -/
noncomputable def Try.pinned : Pinned := { name := "ytilnpeekajnlhaa", sum := "0b4b9927befda2f00a14b3452f066f0ecc951f6a0bce2445492e67f434fa988c", checked := Try.checked }
namespace Rows
def none {H : Type} : Left H := { results := [], args := [] }

/-- 'catchmentlaw14.InnerTakes': WHATEVER THE INPUT: true; the input reads as it did. -/
def innerTakesSpec : ChangeSpec := { name := "innerTakes", fn := fun _ => fun
  | [d1, d2, d3, d4] => { results := [.lit (.bool true)], args := [d1, d2, d3, d4] }
  | _ => none }
def innerTakesRow : OpenClaim := { program := "ytilnpeekajnlhaa", sum := "0b4b9927befda2f00a14b3452f066f0ecc951f6a0bce2445492e67f434fa988c", func := "catchment/catchmentlaw14.InnerTakes", spec := "innerTakes", unfollowed := true, recurses := true, apart := false }
def InnerTakesSaid : Prop := innerTakesRow.holds Try.pinned (OpenSpec.ofChange innerTakesSpec)

/-- ITS FALSE NEIGHBOUR: 'it returns false'. Refute it at one input. -/
def innerTakesWrong : ChangeSpec := { name := "innerTakes", fn := fun _ => fun
  | [d1, d2, d3, d4] => { results := [.lit (.bool false)], args := [d1, d2, d3, d4] }
  | _ => none }
def InnerTakesWrongFalsely : Prop := innerTakesRow.holds Try.pinned (OpenSpec.ofChange innerTakesWrong)

/-- 'catchmentlaw14.InnerTurns': WHATEVER THE INPUT: true; the input reads as it did. -/
def innerTurnsSpec : ChangeSpec := { name := "innerTurns", fn := fun _ => fun
  | [d1, d2, d3, d4, d5] => { results := [.lit (.bool true)], args := [d1, d2, d3, d4, d5] }
  | _ => none }
def innerTurnsRow : OpenClaim := { program := "ytilnpeekajnlhaa", sum := "0b4b9927befda2f00a14b3452f066f0ecc951f6a0bce2445492e67f434fa988c", func := "catchment/catchmentlaw14.InnerTurns", spec := "innerTurns", inPlace := ["slices.overlaps[int]"], unfollowed := true, recurses := true, apart := false }
def InnerTurnsSaid : Prop := innerTurnsRow.holds Try.pinned (OpenSpec.ofChange innerTurnsSpec)

/-- ITS FALSE NEIGHBOUR: 'it returns false'. Refute it at one input. -/
def innerTurnsWrong : ChangeSpec := { name := "innerTurns", fn := fun _ => fun
  | [d1, d2, d3, d4, d5] => { results := [.lit (.bool false)], args := [d1, d2, d3, d4, d5] }
  | _ => none }
def InnerTurnsWrongFalsely : Prop := innerTurnsRow.holds Try.pinned (OpenSpec.ofChange innerTurnsWrong)

/-- 'catchmentlaw14.InnerEven': WHATEVER THE INPUT: true; the input reads as it did. -/
def innerEvenSpec : ChangeSpec := { name := "innerEven", fn := fun _ => fun
  | [d1, d2, d3] => { results := [.lit (.bool true)], args := [d1, d2, d3] }
  | _ => none }
def innerEvenRow : OpenClaim := { program := "ytilnpeekajnlhaa", sum := "0b4b9927befda2f00a14b3452f066f0ecc951f6a0bce2445492e67f434fa988c", func := "catchment/catchmentlaw14.InnerEven", spec := "innerEven", unfollowed := true, recurses := true, apart := false }
def InnerEvenSaid : Prop := innerEvenRow.holds Try.pinned (OpenSpec.ofChange innerEvenSpec)

/-- ITS FALSE NEIGHBOUR: 'it returns false'. Refute it at one input. -/
def innerEvenWrong : ChangeSpec := { name := "innerEven", fn := fun _ => fun
  | [d1, d2, d3] => { results := [.lit (.bool false)], args := [d1, d2, d3] }
  | _ => none }
def InnerEvenWrongFalsely : Prop := innerEvenRow.holds Try.pinned (OpenSpec.ofChange innerEvenWrong)

/-- 'catchmentlaw14.InnerOwn': WHATEVER THE INPUT: true; the input reads as it did. -/
def innerOwnSpec : ChangeSpec := { name := "innerOwn", fn := fun _ => fun
  | [d1, d2] => { results := [.lit (.bool true)], args := [d1, d2] }
  | _ => none }
def innerOwnRow : OpenClaim := { program := "ytilnpeekajnlhaa", sum := "0b4b9927befda2f00a14b3452f066f0ecc951f6a0bce2445492e67f434fa988c", func := "catchment/catchmentlaw14.InnerOwn", spec := "innerOwn", unfollowed := true, recurses := true, apart := false }
def InnerOwnSaid : Prop := innerOwnRow.holds Try.pinned (OpenSpec.ofChange innerOwnSpec)

/-- ITS FALSE NEIGHBOUR: 'it returns false'. Refute it at one input. -/
def innerOwnWrong : ChangeSpec := { name := "innerOwn", fn := fun _ => fun
  | [d1, d2] => { results := [.lit (.bool false)], args := [d1, d2] }
  | _ => none }
def InnerOwnWrongFalsely : Prop := innerOwnRow.holds Try.pinned (OpenSpec.ofChange innerOwnWrong)

/- THE SECOND FORM. 'bulk': how many values and letters a reading holds, each counted each time it is reached (what is shared counts as often as it is met; a slice's spare places count too). A statement '..UptoSaid' is the law's where the arguments, and the package variables that the reading takes, are together of bulk at most 1048576: NARROWER than '..Said'. Prove '..Said' where nothing that the law and all that it calls make is longer than what came in: it says more and counts as full. Else prove '..UptoSaid'. A law counts once. -/
mutual
def uptoBulk {H : Type} : DataW H → Nat
  | .lit (.string bytes) => bytes.length + 1
  | .lit _ => 1
  | .nil => 1
  | .ptr d => uptoBulk d + 1
  | .slice elems spare => uptoBulkAll elems + uptoBulkAll spare + 1
  | .agg parts => uptoBulkAll parts + 1
  | .iface _ d => uptoBulk d + 1
  | .map entries => uptoBulkEntries entries + 1
  | .held _ => 1
def uptoBulkAll {H : Type} : List (DataW H) → Nat
  | [] => 0
  | d :: r => uptoBulk d + uptoBulkAll r
def uptoBulkEntries {H : Type} : List (Lit × DataW H) → Nat
  | [] => 0
  | x :: r => uptoBulkEntry x + uptoBulkEntries r
def uptoBulkEntry {H : Type} : Lit × DataW H → Nat
  | (.string bytes, d) => bytes.length + uptoBulk d + 1
  | (_, d) => uptoBulk d + 1
 end
def uptoSmall : (H : Type) → List (DataW H) → Bool := fun _ ds => decide (uptoBulkAll ds ≤ 1048576)
def OpenSpec.upto (s : _root_.Go.ChangeSpec) : _root_.Go.OpenSpec := { _root_.Go.OpenSpec.ofChange s with cond := some uptoSmall }

/-- 'catchmentlaw14.InnerTakes', WHERE WHAT IT READS IS OF BULK AT MOST 1048576: true; the input reads as it did. -/
def innerTakesUptoRow : OpenClaim := { program := "ytilnpeekajnlhaa", sum := "0b4b9927befda2f00a14b3452f066f0ecc951f6a0bce2445492e67f434fa988c", func := "catchment/catchmentlaw14.InnerTakes", spec := "innerTakes", unfollowed := true, recurses := true, apart := false, narrowed := true }
def InnerTakesUptoSaid : Prop := innerTakesUptoRow.holds Try.pinned (OpenSpec.upto innerTakesSpec)

/-- 'catchmentlaw14.InnerTurns', WHERE WHAT IT READS IS OF BULK AT MOST 1048576: true; the input reads as it did. -/
def innerTurnsUptoRow : OpenClaim := { program := "ytilnpeekajnlhaa", sum := "0b4b9927befda2f00a14b3452f066f0ecc951f6a0bce2445492e67f434fa988c", func := "catchment/catchmentlaw14.InnerTurns", spec := "innerTurns", inPlace := ["slices.overlaps[int]"], unfollowed := true, recurses := true, apart := false, narrowed := true }
def InnerTurnsUptoSaid : Prop := innerTurnsUptoRow.holds Try.pinned (OpenSpec.upto innerTurnsSpec)

/-- 'catchmentlaw14.InnerEven', WHERE WHAT IT READS IS OF BULK AT MOST 1048576: true; the input reads as it did. -/
def innerEvenUptoRow : OpenClaim := { program := "ytilnpeekajnlhaa", sum := "0b4b9927befda2f00a14b3452f066f0ecc951f6a0bce2445492e67f434fa988c", func := "catchment/catchmentlaw14.InnerEven", spec := "innerEven", unfollowed := true, recurses := true, apart := false, narrowed := true }
def InnerEvenUptoSaid : Prop := innerEvenUptoRow.holds Try.pinned (OpenSpec.upto innerEvenSpec)

/-- 'catchmentlaw14.InnerOwn', WHERE WHAT IT READS IS OF BULK AT MOST 1048576: true; the input reads as it did. -/
def innerOwnUptoRow : OpenClaim := { program := "ytilnpeekajnlhaa", sum := "0b4b9927befda2f00a14b3452f066f0ecc951f6a0bce2445492e67f434fa988c", func := "catchment/catchmentlaw14.InnerOwn", spec := "innerOwn", unfollowed := true, recurses := true, apart := false, narrowed := true }
def InnerOwnUptoSaid : Prop := innerOwnUptoRow.holds Try.pinned (OpenSpec.upto innerOwnSpec)

end Rows
end Go.Proofs.Ytilnpeekajnlhaa
