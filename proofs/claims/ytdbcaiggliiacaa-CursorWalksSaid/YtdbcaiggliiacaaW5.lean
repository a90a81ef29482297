/- The law CursorWalks, whatever the range. -/
import Derived.Test.YtdbcaiggliiacaaW4
namespace Go.Proofs.Ytdbcaiggliiacaa
set_option linter.unusedSimpArgs false
open Go.RowKit Go.Maps Go.WideShapes
set_option linter.unusedVariables false
theorem walks_law (A : Option Addr) (len cap : Nat) (l : List TT) (a b : ByteArray) (mo : Int) (w : World) (hC : Came w A len cap l) (hmo : (Lit.int .u8 mo).wf = true) :
    Calls Try.prog 5 #[.slice A len cap, .agg #[.string a, .string b], .int .u8 mo] w fun e w' => e = .returned (.bool true) ∧ Below w.heap.size w w' := by
  cases hr : sb a b with
  | true =>
    refine walks_yes A len cap l a b mo w hC hr ?_
    simp [Lit.wf, IntKind.min, IntKind.max, IntKind.signed, IntKind.bits] at hmo
    omega
  | false => exact walks_no A len cap l a b mo w hC hr
end Go.Proofs.Ytdbcaiggliiacaa
