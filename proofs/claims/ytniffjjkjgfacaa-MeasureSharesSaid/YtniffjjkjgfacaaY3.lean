/- Pivots that are none: the one part of all. -/
import Derived.Test.YtniffjjkjgfacaaY1
namespace Go.Proofs.Ytniffjjkjgfacaa
set_option linter.unusedSimpArgs false
open Go.RowKit Go.Maps Go.Shelf
set_option linter.unusedVariables false
attribute [local go_sem] Oper.semAt_some
abbrev E0 : Value := .string ⟨#[]⟩
abbrev RG0 : Value := .agg #[E0, E0]
set_option maxHeartbeats 1000000 in
theorem sb0 (w : World) : Calls Try.prog 72 #[E0, E0] w fun e w' => e = .returned (.bool true) ∧ Below w.heap.size w w' := by
  go_enter Try.func72, Try.ntmps72
  go_wp2
  go_ret
  exact ⟨by first | rfl | simp, Below.refl _ _⟩
set_option maxHeartbeats 1000000 in
theorem rr0 (w : World) : Calls Try.prog 66 #[RG0] w fun e w' => e = .returned (.bool true) ∧ Below w.heap.size w w' := by
  go_enter Try.func66, Try.ntmps66
  go_wp2_with (first
    | (go_at_call 72; ((with_reducible refine (sb0 _).mono ?_); rintro e w1 ⟨rfl, b1⟩; have B1 := Lib.hid (bel_a b1); clear b1))
    | fail)
  go_ret
  exact ⟨rfl, B1.out⟩
set_option maxHeartbeats 1000000 in
theorem rises0 (w : World) : Calls Try.prog 67 #[S0] w fun e w' => e = .returned (.bool true) ∧ Below w.heap.size w w' := by
  go_enter Try.func67, Try.ntmps67
  go_wp2
  go_loop [3] (fun i => i = .int .i64 1) (fun _ => 0)
  case atStart => rfl
  case round =>
    subst hrel
    go_wp2
    go_ret
    exact ⟨rfl, Below.refl _ _⟩
set_option maxHeartbeats 1000000 in
theorem own0 (w : World) : Calls Try.prog 73 #[S0] w fun e w' => e = .returned S0 ∧ Below w.heap.size w w' := by
  go_enter Try.func73, Try.ntmps73
  go_wp2
  go_ret
  exact ⟨rfl, Below.refl _ _⟩
end Go.Proofs.Ytniffjjkjgfacaa
