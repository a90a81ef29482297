/- Contracts of the key functions: what the document says that two ranges have in common. -/
import Derived.Test.YtdbnkeihnoglcaaA3
namespace Go.Proofs.Ytdbnkeihnoglcaa
set_option linter.unusedSimpArgs false
open Go.RowKit
set_option linter.unusedVariables false

theorem meetF_E (a0 a1 b0 b1 : ByteArray) (h1 : sb a0 a1 = true) (h2 : sb b0 b1 = true) : meetF a0 a1 b0 b1 = meetE a0 a1 b0 b1 := by
  unfold meetF
  rw [if_pos ⟨h1, h2⟩]
  split
  · rename_i h
    have e1 : maxS a0 b0 = a0 := by unfold maxS lt; rw [h.1, bl_irr]; rfl
    have e2 : firstS a1 b1 = a1 := by
      unfold firstS bef emp lt; rw [h.2, bl_irr]; cases b1.toList.isEmpty <;> rfl
    unfold meetE; rw [e1, e2, h1]; rfl
  · rfl
set_option maxHeartbeats 2000000 in
theorem rmeet_any (a0 a1 b0 b1 : ByteArray) (w : World) :
    Calls Try.prog 39 #[.agg #[.string a0, .string a1], .agg #[.string b0, .string b1]] w fun e w' => e = .returned (mv (meetF a0 a1 b0 b1)) ∧ Below w.heap.size w w' := by
  cases h1 : sb a0 a1
  · have e : meetF a0 a1 b0 b1 = (emptyS, emptyS, false) := by unfold meetF; rw [if_neg (by simp [h1])]
    rw [e]; clear e
    go_enter Try.func39, Try.ntmps39
    go_wp2_with (first | (go_at_call 28; refine (rright_at _ _ _).mono ?_; rintro e w' ⟨rfl, rfl⟩) | (go_at_call 62; refine (rbefore_any _ _ _).mono ?_; rintro e w' ⟨rfl, rfl⟩))
    refine bodyPost_ret (v := mv (emptyS, emptyS, false)) (by simp [results, Try.results39, go_sem]) rfl ⟨rfl, ((((Below.refl _ _).alloc (Nat.le_refl _) _).alloc (by simp; try omega) _).alloc (by simp; try omega) _).alloc (by simp; try omega) _⟩
  · cases h2 : sb b0 b1
    · have e : meetF a0 a1 b0 b1 = (emptyS, emptyS, false) := by unfold meetF; rw [if_neg (by simp [h2])]
      rw [e]; clear e
      go_enter Try.func39, Try.ntmps39
      go_wp2_with (first | (go_at_call 28; refine (rright_at _ _ _).mono ?_; rintro e w' ⟨rfl, rfl⟩) | (go_at_call 62; refine (rbefore_any _ _ _).mono ?_; rintro e w' ⟨rfl, rfl⟩))
      refine bodyPost_ret (v := mv (emptyS, emptyS, false)) (by simp [results, Try.results39, go_sem]) rfl ⟨rfl, (((((Below.refl _ _).alloc (Nat.le_refl _) _).alloc (by simp; try omega) _).alloc (by simp; try omega) _).alloc (by simp; try omega) _).alloc (by simp; try omega) _⟩
    · rw [meetF_E a0 a1 b0 b1 h1 h2]
      have hf : ∃ k1 k2 k3 : Bool, Op.bytesLess b0.toList a0.toList = k1 ∧ (b0.toList == a0.toList) = k2 ∧ lt a0 b0 = k3 ∧ (k1 || k2) = !k3 := by
        refine ⟨_, _, _, rfl, rfl, rfl, ?_⟩
        exact bl_le _ _
      obtain ⟨k1, k2, k3, g1, g2, g3, g4⟩ := hf
      cases h4 : bef b1 a1
      all_goals
        cases k3
        all_goals
          have em : maxS a0 b0 = if lt a0 b0 then b0 else a0 := rfl
          have ef : firstS a1 b1 = if bef b1 a1 then b1 else a1 := rfl
          rw [g3] at em
          rw [h4] at ef
          simp only [if_true, Bool.false_eq_true, if_false] at em ef
          have ee : ∀ r : Bool, sb (maxS a0 b0) (firstS a1 b1) = r → meetE a0 a1 b0 b1 = if r = true then (maxS a0 b0, firstS a1 b1, true) else (emptyS, emptyS, false) := fun r h => by unfold meetE; rw [h]
          rw [em, ef] at ee
          cases h5 : sb (maxS a0 b0) (firstS a1 b1)
          all_goals
            rw [em, ef] at h5
            have e := ee _ h5
            simp only [if_true, Bool.false_eq_true, if_false] at e
            rw [e]
            clear ee e em ef g3
            cases k1 <;> cases k2 <;> simp at g4
            all_goals first | (exfalso; rw [h1] at h5; cases h5; done) | (exfalso; rw [h2] at h5; cases h5; done) | skip
            all_goals
              go_enter Try.func39, Try.ntmps39
              go_wp2_with (first | (go_at_call 28; refine (rright_at _ _ _).mono ?_; rintro e w' ⟨rfl, rfl⟩) | (go_at_call 62; refine (rbefore_any _ _ _).mono ?_; rintro e w' ⟨rfl, rfl⟩))
              refine bodyPost_ret (v := mv (_, _, _)) (by simp [results, Try.results39, go_sem]) rfl ⟨rfl, (((((((Below.refl _ _).alloc (Nat.le_refl _) _).alloc (by simp; try omega) _).alloc (by simp; try omega) _).alloc (by simp; try omega) _).alloc (by simp; try omega) _).alloc (by simp; try omega) _).alloc (by simp; try omega) _⟩

end Go.Proofs.Ytdbnkeihnoglcaa
