/- Words. -/
import Derived.Test.YtpihoegikojlaaaMR
import Derived.Test.YtpihoegikojlaaaS8
namespace Go.Proofs.Ytpihoegikojlaaa
set_option linter.unusedSimpArgs false
open Go.RowKit Go.Maps
set_option linter.unusedVariables false
variable {F : Nat → Prop}

def SPostR (lo N : Nat) (K R : Nat → Prop) (b : AB) (w : World) (e : Ending) (w' : World) : Prop := ∃ cs', e = .returned (.tuple #[.agg cs', .bool true]) ∧ SR lo N K R b b w' cs' ∧ Below lo w w' ∧ ∀ g, K g ∨ R g → w'.heap[g]? = w.heap[g]?
end Go.Proofs.Ytpihoegikojlaaa
