/- What live asks of Share and Spread. -/
import Derived.Test.YtniffjjkjgfacaaV4
import Derived.Test.YtniffjjkjgfacaaS2
namespace Go.Proofs.Ytniffjjkjgfacaa
set_option linter.unusedSimpArgs false
open Go.RowKit Go.Maps Go.Shelf
set_option linter.unusedVariables false
theorem srt4 : srt [5, 1, 9, 7] = [1, 5, 7, 9] := by simp [srt, List.mergeSort, List.merge, List.MergeSort.Internal.splitInTwo]
theorem sp4 : spA [5, 1, 9, 7] = 1 ∧ spB [5, 1, 9, 7] = 7 ∧ spC [5, 1, 9, 7] = 9 := by
  simp [spA, spB, spC, srt4]
theorem spread4 (w : World) : Calls Try.prog 9 #[.slice (some ⟨w.heap.size, 0, none⟩) 4 4] (w.alloc (.cells #[.int .i64 5, .int .i64 1, .int .i64 9, .int .i64 7] 3)) fun e w' => e = .returned (.tuple #[.int .i64 1, .int .i64 7, .int .i64 9]) ∧ Below w.heap.size w w' := by
  have h := spread_any (some ⟨w.heap.size, 0, none⟩) 4 4 [5, 1, 9, 7] (w.alloc (.cells #[.int .i64 5, .int .i64 1, .int .i64 9, .int .i64 7] 3)) rfl (by omega) (RE.Rd.lit (E := EI) w 3 [5, 1, 9, 7] #[.int .i64 5, .int .i64 1, .int .i64 9, .int .i64 7] rfl)
  rw [sp4.1, sp4.2.1, sp4.2.2] at h
  exact h.mono fun e w' ⟨h1, h2⟩ => ⟨h1, bel_a h2⟩
theorem share13 (w : World) : Calls Try.prog 6 #[.int .i64 1, .int .i64 3] w fun e w' => e = .returned (.int .i64 333) ∧ Below w.heap.size w w' :=
  share_small 1 3 (by omega) (by omega) (by omega) w
set_option maxRecDepth 10000 in
set_option maxHeartbeats 2000000 in
theorem share_big (w : World) : Calls Try.prog 6 #[.int .i64 4611686018427387904, .int .i64 1] w fun e w' => e = .returned (.int .i64 1000000) ∧ Below w.heap.size w w' := by
  have M : Hid (∀ W, Calls Try.prog 14 #[.int .u64 1000, .int .u64 4611686018427387904] W fun e w' => e = .returned (.tuple #[.int .u64 250, .int .u64 0]) ∧ w' = W) := Lib.hid (fun W => mul_at 1000 4611686018427387904 (by omega) (by omega) W)
  have u1 : IntKind.u64.wrap 4611686018427387904 = 4611686018427387904 := u64_in _ (by omega) (by omega)
  have u2 : IntKind.u64.wrap 1 = 1 := u64_in _ (by omega) (by omega)
  go_enter Try.func6, Try.ntmps6
  go_wp2_with (first
    | (go_at_call 14; ((with_reducible refine (M.out _).mono ?_); rintro e w1 ⟨rfl, rfl⟩))
    | fail)
  go_ret
  exact ⟨rfl, Below.refl _ _⟩
end Go.Proofs.Ytniffjjkjgfacaa
