/-
  No cell of these rows narrows 'for every input' (looked for: loops, veiled, ifaces, maps, wideKeys, modest, calm, conditions, laid).
  DERIVED. THE GIVEN ROWS OF THIS SEAT. 4 by the template 'for every input the law returns true; each argument reads behind the call as it read before'; 0 by the template 'total and deterministic' (their statements: YtdbcaiggliiacaaTotals.lean).
  GIVEN WITH THE SEED: the statements are not yours to turn. If you find one false, say at which input.
  Laid BY PROGRAM, IN A SANDBOX (cutbox-rows.mjs): the forced cells as the released guide's own fill.sh prints them over the translation 941e19083a92d996… (all of the seat's roots in one cut). By AI agents, Wed Nov 11 2026. No macro, syntax, notation, axiom, sorry.
-/
import Derived.Test.YtdbcaiggliiacaaChecked
import GoSem.Claim
import GoSem.ClaimJoined
import GoSem.ClaimMapViews
import Derived.JoinedTies
import Derived.KernelRfl
namespace Go.Proofs.Ytdbcaiggliiacaa
/- THE CELL 'sum', in the pinned program and in every row, IS THE sha256 OF THE DUMP (.gsa) THAT YtdbcaiggliiacaaProg.lean LOADS. Nothing in Lean hashes anything: it is a label: what it is worth is what the hold of that sum in a sandbox is worth. -/
noncomputable def Try.pinned : Pinned := { name := "ytdbcaiggliiacaa", sum := "941e19083a92d9967ac0ccf41ac70b8e62233b939a0a637f0d4fc439d370586c", checked := Try.checked }
namespace Rows
def none {H : Type} : Left H := { results := [], args := [] }

/-- 'catchmentlaw27.CursorPlays': WHATEVER THE INPUT: true; the input reads as it did. -/
def cursorPlaysSpec : ChangeSpec := { name := "cursorPlays", fn := fun _ => fun
  | [d] => { results := [.lit (.bool true)], args := [d] }
  | _ => none }
def cursorPlaysRow : OpenClaim := { program := "ytdbcaiggliiacaa", sum := "941e19083a92d9967ac0ccf41ac70b8e62233b939a0a637f0d4fc439d370586c", func := "catchment/catchmentlaw27.CursorPlays", spec := "cursorPlays", inPlace := ["maps.clone"], unfollowed := true, recurses := true, apart := false }
def CursorPlaysSaid : Prop := cursorPlaysRow.holds Try.pinned (OpenSpec.ofChange cursorPlaysSpec)

/-- ITS FALSE NEIGHBOUR: 'it returns false'. Refute it at one input. -/
def cursorPlaysWrong : ChangeSpec := { name := "cursorPlays", fn := fun _ => fun
  | [d] => { results := [.lit (.bool false)], args := [d] }
  | _ => none }
def CursorPlaysWrongFalsely : Prop := cursorPlaysRow.holds Try.pinned (OpenSpec.ofChange cursorPlaysWrong)

/-- 'catchmentlaw27.CursorRises': WHATEVER THE INPUT: true; the input reads as it did. -/
def cursorRisesSpec : ChangeSpec := { name := "cursorRises", fn := fun _ => fun
  | [d1, d2] => { results := [.lit (.bool true)], args := [d1, d2] }
  | _ => none }
def cursorRisesRow : OpenClaim := { program := "ytdbcaiggliiacaa", sum := "941e19083a92d9967ac0ccf41ac70b8e62233b939a0a637f0d4fc439d370586c", func := "catchment/catchmentlaw27.CursorRises", spec := "cursorRises", unfollowed := true, recurses := true, apart := false }
def CursorRisesSaid : Prop := cursorRisesRow.holds Try.pinned (OpenSpec.ofChange cursorRisesSpec)

/-- ITS FALSE NEIGHBOUR: 'it returns false'. Refute it at one input. -/
def cursorRisesWrong : ChangeSpec := { name := "cursorRises", fn := fun _ => fun
  | [d1, d2] => { results := [.lit (.bool false)], args := [d1, d2] }
  | _ => none }
def CursorRisesWrongFalsely : Prop := cursorRisesRow.holds Try.pinned (OpenSpec.ofChange cursorRisesWrong)

/-- 'catchmentlaw27.CursorWalks': WHATEVER THE INPUT: true; the input reads as it did. -/
def cursorWalksSpec : ChangeSpec := { name := "cursorWalks", fn := fun _ => fun
  | [d1, d2, d3] => { results := [.lit (.bool true)], args := [d1, d2, d3] }
  | _ => none }
def cursorWalksRow : OpenClaim := { program := "ytdbcaiggliiacaa", sum := "941e19083a92d9967ac0ccf41ac70b8e62233b939a0a637f0d4fc439d370586c", func := "catchment/catchmentlaw27.CursorWalks", spec := "cursorWalks", unfollowed := true, recurses := true, apart := false }
def CursorWalksSaid : Prop := cursorWalksRow.holds Try.pinned (OpenSpec.ofChange cursorWalksSpec)

/-- ITS FALSE NEIGHBOUR: 'it returns false'. Refute it at one input. -/
def cursorWalksWrong : ChangeSpec := { name := "cursorWalks", fn := fun _ => fun
  | [d1, d2, d3] => { results := [.lit (.bool false)], args := [d1, d2, d3] }
  | _ => none }
def CursorWalksWrongFalsely : Prop := cursorWalksRow.holds Try.pinned (OpenSpec.ofChange cursorWalksWrong)

/-- 'catchmentlaw27.CursorForks': WHATEVER THE INPUT: true; the input reads as it did. -/
def cursorForksSpec : ChangeSpec := { name := "cursorForks", fn := fun _ => fun
  | [d1, d2] => { results := [.lit (.bool true)], args := [d1, d2] }
  | _ => none }
def cursorForksRow : OpenClaim := { program := "ytdbcaiggliiacaa", sum := "941e19083a92d9967ac0ccf41ac70b8e62233b939a0a637f0d4fc439d370586c", func := "catchment/catchmentlaw27.CursorForks", spec := "cursorForks", inPlace := ["maps.clone"], unfollowed := true, recurses := true, apart := false }
def CursorForksSaid : Prop := cursorForksRow.holds Try.pinned (OpenSpec.ofChange cursorForksSpec)

/-- ITS FALSE NEIGHBOUR: 'it returns false'. Refute it at one input. -/
def cursorForksWrong : ChangeSpec := { name := "cursorForks", fn := fun _ => fun
  | [d1, d2] => { results := [.lit (.bool false)], args := [d1, d2] }
  | _ => none }
def CursorForksWrongFalsely : Prop := cursorForksRow.holds Try.pinned (OpenSpec.ofChange cursorForksWrong)

/- THE SECOND FORM. 'bulk': how many values and letters a reading holds, each counted each time it is reached (what is shared counts as often as it is met; a slice's spare places count too). A statement '..UptoSaid' is the law's where the arguments, and the package variables that the reading takes, are together of bulk at most 1048576: NARROWER than '..Said'. Prove '..Said' where nothing that the law and all that it calls make is longer than what came in: it says more and counts as full. Else prove '..UptoSaid'. A law counts once. -/
mutual
def uptoBulk {H : Type} : DataW H → Nat
  | .lit (.string bytes) => bytes.length + 1
  | .lit _ => 1
  | .nil => 1
  | .ptr d => uptoBulk d + 1
  | .slice elems spare => uptoBulkAll elems + uptoBulkAll spare + 1
  | .agg parts => uptoBulkAll parts + 1
  | .iface _ d => uptoBulk d + 1
  | .map entries => uptoBulkEntries entries + 1
  | .held _ => 1
def uptoBulkAll {H : Type} : List (DataW H) → Nat
  | [] => 0
  | d :: r => uptoBulk d + uptoBulkAll r
def uptoBulkEntries {H : Type} : List (Lit × DataW H) → Nat
  | [] => 0
  | x :: r => uptoBulkEntry x + uptoBulkEntries r
def uptoBulkEntry {H : Type} : Lit × DataW H → Nat
  | (.string bytes, d) => bytes.length + uptoBulk d + 1
  | (_, d) => uptoBulk d + 1
 end
def uptoSmall : (H : Type) → List (DataW H) → Bool := fun _ ds => decide (uptoBulkAll ds ≤ 1048576)
def OpenSpec.upto (s : _root_.Go.ChangeSpec) : _root_.Go.OpenSpec := { _root_.Go.OpenSpec.ofChange s with cond := some uptoSmall }

/-- 'catchmentlaw27.CursorPlays', WHERE WHAT IT READS IS OF BULK AT MOST 1048576: true; the input reads as it did. -/
def cursorPlaysUptoRow : OpenClaim := { program := "ytdbcaiggliiacaa", sum := "941e19083a92d9967ac0ccf41ac70b8e62233b939a0a637f0d4fc439d370586c", func := "catchment/catchmentlaw27.CursorPlays", spec := "cursorPlays", inPlace := ["maps.clone"], unfollowed := true, recurses := true, apart := false, narrowed := true }
def CursorPlaysUptoSaid : Prop := cursorPlaysUptoRow.holds Try.pinned (OpenSpec.upto cursorPlaysSpec)

/-- 'catchmentlaw27.CursorRises', WHERE WHAT IT READS IS OF BULK AT MOST 1048576: true; the input reads as it did. -/
def cursorRisesUptoRow : OpenClaim := { program := "ytdbcaiggliiacaa", sum := "941e19083a92d9967ac0ccf41ac70b8e62233b939a0a637f0d4fc439d370586c", func := "catchment/catchmentlaw27.CursorRises", spec := "cursorRises", unfollowed := true, recurses := true, apart := false, narrowed := true }
def CursorRisesUptoSaid : Prop := cursorRisesUptoRow.holds Try.pinned (OpenSpec.upto cursorRisesSpec)

/-- 'catchmentlaw27.CursorWalks', WHERE WHAT IT READS IS OF BULK AT MOST 1048576: true; the input reads as it did. -/
def cursorWalksUptoRow : OpenClaim := { program := "ytdbcaiggliiacaa", sum := "941e19083a92d9967ac0ccf41ac70b8e62233b939a0a637f0d4fc439d370586c", func := "catchment/catchmentlaw27.CursorWalks", spec := "cursorWalks", unfollowed := true, recurses := true, apart := false, narrowed := true }
def CursorWalksUptoSaid : Prop := cursorWalksUptoRow.holds Try.pinned (OpenSpec.upto cursorWalksSpec)

/-- 'catchmentlaw27.CursorForks', WHERE WHAT IT READS IS OF BULK AT MOST 1048576: true; the input reads as it did. -/
def cursorForksUptoRow : OpenClaim := { program := "ytdbcaiggliiacaa", sum := "941e19083a92d9967ac0ccf41ac70b8e62233b939a0a637f0d4fc439d370586c", func := "catchment/catchmentlaw27.CursorForks", spec := "cursorForks", inPlace := ["maps.clone"], unfollowed := true, recurses := true, apart := false, narrowed := true }
def CursorForksUptoSaid : Prop := cursorForksUptoRow.holds Try.pinned (OpenSpec.upto cursorForksSpec)

end Rows
end Go.Proofs.Ytdbcaiggliiacaa
