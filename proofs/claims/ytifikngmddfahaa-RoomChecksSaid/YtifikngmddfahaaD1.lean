/- Which sizes a machine may have: the document's answer. -/
import Derived.Test.YtifikngmddfahaaA4
namespace Go.Proofs.Ytifikngmddfahaa
set_option linter.unusedSimpArgs false
open Go.RowKit
set_option linter.unusedVariables false

theorem checkF_eq (k v f b l bl n bu ch : Int) : checkF k v f b l bl n bu ch = if (1 ≤ k ∧ k ≤ 256 ∧ 8 ≤ v ∧ v ≤ 4096 ∧ 4 ≤ f ∧ f ≤ 64 ∧ 0 ≤ b ∧ b ≤ 1048576 ∧ 4 ≤ l ∧ l ≤ 256 ∧ 2 ≤ bl ∧ bl ≤ l ∧ 2 ≤ n ∧ n ≤ 4096 ∧ 0 ≤ bu ∧ bu ≤ 1000 ∧ 1 ≤ ch ∧ ch ≤ 1024) then 0 else 2 := by
  unfold checkF
  have h : (sizes k v f b l bl n bu ch).all inB = true ↔ (1 ≤ k ∧ k ≤ 256 ∧ 8 ≤ v ∧ v ≤ 4096 ∧ 4 ≤ f ∧ f ≤ 64 ∧ 0 ≤ b ∧ b ≤ 1048576 ∧ 4 ≤ l ∧ l ≤ 256 ∧ 2 ≤ bl ∧ bl ≤ l ∧ 2 ≤ n ∧ n ≤ 4096 ∧ 0 ≤ bu ∧ bu ≤ 1000 ∧ 1 ≤ ch ∧ ch ≤ 1024) := by
    simp [sizes, inB, and_assoc]
  by_cases hc : (sizes k v f b l bl n bu ch).all inB = true
  · rw [if_pos hc, if_pos (h.1 hc)]
  · rw [if_neg hc, if_neg (fun x => hc (h.2 x))]
set_option maxRecDepth 100000 in
set_option maxHeartbeats 4000000 in
theorem rcheck_any (k v f b l bl n bu ch : Int) (w : World) :
    Calls Try.prog 8 #[cfg k v f b l bl n bu ch] w fun e w' => e = .returned (.int .i64 (checkF k v f b l bl n bu ch)) ∧ Below w.heap.size w w' := by
  obtain ⟨r, hr⟩ : ∃ r, r = checkF k v f b l bl n bu ch := ⟨_, rfl⟩
  rw [← hr]
  have HR := Lib.hid hr
  clear hr
  unfold cfg
  go_enter Try.func8, Try.ntmps8
  go_wp2
  all_goals
    go_ret
    refine ⟨?_, by go_grown⟩
    have hR := HR.out
    rw [checkF_eq] at hR
    first
    | (rw [if_neg (by omega)] at hR; rw [hR]; rfl)
    | (rw [if_pos (by omega)] at hR; rw [hR]; rfl)
end Go.Proofs.Ytifikngmddfahaa
