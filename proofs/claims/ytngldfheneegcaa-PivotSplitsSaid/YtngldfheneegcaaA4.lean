/- Contracts of the key functions: both parts of a range, and what the document says that two ranges have in common. -/
import Derived.Test.YtngldfheneegcaaA2
import Derived.RegionTactic
namespace Go.Proofs.Ytngldfheneegcaa
set_option linter.unusedSimpArgs false
open Go.RowKit
set_option linter.unusedVariables false

abbrev sv (a b c d : ByteArray) (ok : Bool) : Value := .tuple #[.agg #[.string a, .string b], .agg #[.string c, .string d], .bool ok]
theorem le_facts (a b : ByteArray) (h : lt a b = false) : (Op.bytesLess b.toList a.toList = true ∧ (b.toList == a.toList) = false) ∨ (Op.bytesLess b.toList a.toList = false ∧ (b.toList == a.toList) = true) := by
  unfold lt at h
  rcases bl_tri a.toList b.toList with k | k | k
  · rw [h] at k; cases k
  · right; rw [k]; exact ⟨bl_irr _, by simp⟩
  · left; exact ⟨k, by rw [beq_eq_false_iff_ne]; intro e; rw [e, bl_irr] at k; cases k⟩
theorem gt_facts (a b : ByteArray) (h : lt a b = true) : Op.bytesLess b.toList a.toList = false ∧ (b.toList == a.toList) = false := by
  unfold lt at h
  exact ⟨bl_asymm _ _ h, by rw [beq_eq_false_iff_ne]; intro e; rw [e, bl_irr] at h; cases h⟩

theorem sb_facts (s t : ByteArray) (h : sb s t = true) : (t.toList.isEmpty = true) ∨ (t.toList.isEmpty = false ∧ Op.bytesLess s.toList t.toList = true) := by
  unfold sb emp lt at h
  cases k : t.toList.isEmpty
  · right; exact ⟨rfl, by simpa [k] using h⟩
  · left; rfl
theorem sb_nfacts (s t : ByteArray) (h : sb s t = false) : t.toList.isEmpty = false ∧ Op.bytesLess s.toList t.toList = false := by
  unfold sb emp lt at h
  simpa using h

set_option maxHeartbeats 2000000 in
theorem rsplit_no (a0 a1 s : ByteArray) (w : World) (h : sb a0 a1 = false ∨ lt a0 s = false ∨ sb s a1 = false) :
    Calls Try.prog 20 #[.agg #[.string a0, .string a1], .string s] w fun e w' => e = .returned (sv emptyS emptyS emptyS emptyS false) ∧ Below w.heap.size w w' := by
  cases h1 : sb a0 a1
  · clear h
    go_enter Try.func20, Try.ntmps20
    go_wp2_with (go_at_call 30; refine (rright_at _ _ _).mono ?_; rintro e w' ⟨rfl, rfl⟩)
    refine bodyPost_ret (v := sv emptyS emptyS emptyS emptyS false) (by simp [results, Try.results20, go_sem]) rfl ⟨rfl, ((((Below.refl _ _).alloc (Nat.le_refl _) _).alloc (by simp; try omega) _).alloc (by simp; try omega) _).alloc (by simp; try omega) _⟩
  · cases h2 : lt a0 s
    · clear h
      rcases le_facts a0 s h2 with ⟨k1, k2⟩ | ⟨k1, k2⟩
      all_goals
        clear h2
        go_enter Try.func20, Try.ntmps20
        go_wp2_with (go_at_call 30; refine (rright_at _ _ _).mono ?_; rintro e w' ⟨rfl, rfl⟩)
        all_goals
          refine bodyPost_ret (v := sv emptyS emptyS emptyS emptyS false) (by simp [results, Try.results20, go_sem]) rfl ⟨rfl, ((((Below.refl _ _).alloc (Nat.le_refl _) _).alloc (by simp; try omega) _).alloc (by simp; try omega) _).alloc (by simp; try omega) _⟩
    · have h3 : sb s a1 = false := by simpa [h1, h2] using h
      obtain ⟨k1, k2⟩ := gt_facts a0 s h2
      obtain ⟨k3, k4⟩ := sb_nfacts s a1 h3
      clear h h2 h3
      go_enter Try.func20, Try.ntmps20
      go_wp2_with (go_at_call 30; refine (rright_at _ _ _).mono ?_; rintro e w' ⟨rfl, rfl⟩)
      refine bodyPost_ret (v := sv emptyS emptyS emptyS emptyS false) (by simp [results, Try.results20, go_sem]) rfl ⟨rfl, ((((Below.refl _ _).alloc (Nat.le_refl _) _).alloc (by simp; try omega) _).alloc (by simp; try omega) _).alloc (by simp; try omega) _⟩
set_option maxHeartbeats 2000000 in
theorem rsplit_yes (a0 a1 s : ByteArray) (w : World) (h1 : sb a0 a1 = true) (h2 : lt a0 s = true) (h3 : sb s a1 = true) :
    Calls Try.prog 20 #[.agg #[.string a0, .string a1], .string s] w fun e w' => e = .returned (sv a0 s s a1 true) ∧ Below w.heap.size w w' := by
  obtain ⟨k1, k2⟩ := gt_facts a0 s h2
  rcases sb_facts s a1 h3 with k3 | ⟨k3, k4⟩
  all_goals
    clear h2 h3
    go_enter Try.func20, Try.ntmps20
    go_wp2_with (go_at_call 30; refine (rright_at _ _ _).mono ?_; rintro e w' ⟨rfl, rfl⟩)
    go_region
    go_wp2
    refine bodyPost_ret (v := sv a0 s s a1 true) (by simp [results, Try.results20, go_sem]) rfl ⟨rfl, (((((Below.refl _ _).alloc (Nat.le_refl _) _).alloc (by simp; try omega) _).alloc (by simp; try omega) _).alloc (by simp; try omega) _).drew⟩

end Go.Proofs.Ytngldfheneegcaa
