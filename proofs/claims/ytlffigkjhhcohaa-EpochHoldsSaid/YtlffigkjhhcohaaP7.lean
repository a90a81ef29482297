/- The program's book: a new one. -/
import Derived.Test.YtlffigkjhhcohaaP6
namespace Go.Proofs.Ytlffigkjhhcohaa
set_option linter.unusedSimpArgs false
open Go.RowKit Go.Maps
set_option linter.unusedVariables false

theorem pnew_no (w : World) (ss : Int) (h : ss < 1 ∨ 64 < ss) : Calls Try.prog 7 #[.int .i64 ss] w fun e w' => e = .returned (.tuple #[.pointer none, .int .i64 2]) ∧ Below w.heap.size w w' := by
  by_cases h1 : ss < 1
  · go_enter Try.func7, Try.ntmps7
    go_wp2
    all_goals
      refine bodyPost_ret (v := .tuple #[.pointer none, .int .i64 2]) (by simp [results, Try.results7, go_sem]) rfl ⟨rfl, ?_⟩
      first | exact Below.refl _ _ | exact bel_drewN (Below.refl _ _) _
  · have h2 : 64 < ss := by omega
    go_enter Try.func7, Try.ntmps7
    go_wp2
    all_goals
      refine bodyPost_ret (v := .tuple #[.pointer none, .int .i64 2]) (by simp [results, Try.results7, go_sem]) rfl ⟨rfl, ?_⟩
      first | exact Below.refl _ _ | exact bel_drewN (Below.refl _ _) _
set_option maxHeartbeats 1000000 in
theorem pnew_yes (w : World) (ss : Int) (h1 : ¬ ss < 1) (h2 : ¬ 64 < ss) : Calls Try.prog 7 #[.int .i64 ss] w fun e w' => ∃ N M, e = .returned (.tuple #[.pointer (some ⟨N, 0, none⟩), .int .i64 0]) ∧ PB w' w.heap.size N M none none 0 0 0 ss 0 (fun _ => none) [] [] ∧ Below w.heap.size w w' := by
  have hmm := @run_makeMap Try.prog
  go_enter Try.func7, Try.ntmps7
  go_wp2
  refine bodyPost_ret (v := .tuple #[.pointer (some ⟨w.heap.size + 1, 0, none⟩), .int .i64 0]) (by simp [results, Try.results7, go_sem]) rfl ⟨w.heap.size + 1, rfl, ⟨w.heap.size, ?_⟩, ?_⟩
  · refine ⟨⟨by omega, by simp⟩, ⟨Nat.le_refl _, by omega⟩, ?_, ?_, ?_, ?_, ?_, fun j => ?_, ⟨_, (World.ownsMap_made (H := Unit) w Try.prog 3 (plainElem Try.prog 3)).kept (al_grown _ _) (by simp), MF.empty⟩, .inl ⟨rfl, rfl⟩, .inl ⟨rfl, rfl⟩, ⟨by simp [fpr], by simp [fpr]⟩, ⟨by simp [fpr], by simp [fpr]⟩, .inl (by simp [fpr])⟩
    all_goals
      simp [go_sem]
  · exact (al_below w _).trans ((al_below _ _).mono (by simp))
end Go.Proofs.Ytlffigkjhhcohaa
