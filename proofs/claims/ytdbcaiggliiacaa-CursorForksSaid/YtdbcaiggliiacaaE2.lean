/- The law CursorRises, whatever the range; how great what came in may be. -/
import Derived.Test.YtdbcaiggliiacaaE1
namespace Go.Proofs.Ytdbcaiggliiacaa
set_option linter.unusedSimpArgs false
open Go.RowKit Go.Maps Go.WideShapes
set_option linter.unusedVariables false
theorem sz_of {H : Type} {ts : List TypeId} {ds : List (DataW H)} (h : (DataW.weightsEach Try.prog ts ds).all (· ≤ reachBytes) = true) {j : Nat} {t : TypeId} {d : DataW H} (ht : ts[j]? = some t) (hd : ds[j]? = some d) : ∀ q ∈ d.weights Try.prog t, q ≤ reachBytes :=
  fun q hq => by simpa using List.all_eq_true.1 h q (DataW.weights_mem_each ht hd q hq)
theorem rises_law (a b : ByteArray) (A : Option Addr) (n c : Nat) (f : Nat → DD) (w : World) (hD : Deeds w A n f) :
    Calls Try.prog 4 #[.agg #[.string a, .string b], .slice A n c] w fun e w' => e = .returned (.bool true) ∧ Below w.heap.size w w' := by
  cases hr : sb a b with
  | true => exact rises_yes a b A n c f w hD hr
  | false => exact rises_no a b A n c w hr
end Go.Proofs.Ytdbcaiggliiacaa
