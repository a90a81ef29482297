/- A deed on both, where other blocks are kept. -/
import Derived.Test.YtpihoegikojlaaaT1
import Derived.Test.YtpihoegikojlaaaT2
import Derived.Test.YtpihoegikojlaaaT3
import Derived.Test.YtpihoegikojlaaaT4
import Derived.Test.YtpihoegikojlaaaT5
namespace Go.Proofs.Ytpihoegikojlaaa
set_option linter.unusedSimpArgs false
open Go.RowKit Go.Maps
set_option linter.unusedVariables false
variable {F : Nat → Prop}

theorem stepr_any {lo N : Nat} {K R : Nat → Prop} {b : AB} {w : World} {cs : Array Value} (h : SR lo N K R b b w cs) (hlo : lo ≤ w.heap.size) (x i n : Int) : Calls Try.prog 10 #[.pointer (some ⟨N, 0, none⟩), .agg cs, .agg #[.int .i64 x, .int .i64 i, .int .i64 n]] w (SPostR lo N K R (stepA b x i n) w) := by
  unfold stepA
  by_cases h0 : x = 0
  · subst h0; rw [if_pos rfl]; exact stepr_0 h hlo
  · rw [if_neg h0]
    by_cases h1 : x = 1
    · subst h1; rw [if_pos rfl]; exact stepr_1 h hlo
    · rw [if_neg h1]
      by_cases h2 : x = 2
      · subst h2; rw [if_pos rfl]; exact stepr_2 h hlo
      · rw [if_neg h2]
        by_cases h3 : x = 3
        · subst h3; rw [if_pos rfl]; exact stepr_3 h hlo
        · rw [if_neg h3]
          exact stepr_5 h hlo (by simpa using h0) (by simpa using h1) (by simpa using h2) (by simpa using h3)
end Go.Proofs.Ytpihoegikojlaaa
