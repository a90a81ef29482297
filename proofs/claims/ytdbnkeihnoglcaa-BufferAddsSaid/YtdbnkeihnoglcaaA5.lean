/- Contracts of the key functions: both parts of a range, and what the document says that two ranges have in common. -/
import Derived.Test.YtdbnkeihnoglcaaA4
import Derived.RegionTactic
namespace Go.Proofs.Ytdbnkeihnoglcaa
set_option linter.unusedSimpArgs false
open Go.RowKit
set_option linter.unusedVariables false

abbrev sv (a b c d : ByteArray) (ok : Bool) : Value := .tuple #[.agg #[.string a, .string b], .agg #[.string c, .string d], .bool ok]
theorem le_facts (a b : ByteArray) (h : lt a b = false) : (Op.bytesLess b.toList a.toList = true ∧ (b.toList == a.toList) = false) ∨ (Op.bytesLess b.toList a.toList = false ∧ (b.toList == a.toList) = true) := by
  unfold lt at h
  rcases bl_tri a.toList b.toList with k | k | k
  · rw [h] at k; cases k
  · right; rw [k]; exact ⟨bl_irr _, by simp⟩
  · left; exact ⟨k, by rw [beq_eq_false_iff_ne]; intro e; rw [e, bl_irr] at k; cases k⟩
theorem gt_facts (a b : ByteArray) (h : lt a b = true) : Op.bytesLess b.toList a.toList = false ∧ (b.toList == a.toList) = false := by
  unfold lt at h
  exact ⟨bl_asymm _ _ h, by rw [beq_eq_false_iff_ne]; intro e; rw [e, bl_irr] at h; cases h⟩

theorem sb_facts (s t : ByteArray) (h : sb s t = true) : (t.toList.isEmpty = true) ∨ (t.toList.isEmpty = false ∧ Op.bytesLess s.toList t.toList = true) := by
  unfold sb emp lt at h
  cases k : t.toList.isEmpty
  · right; exact ⟨rfl, by simpa [k] using h⟩
  · left; rfl
theorem sb_nfacts (s t : ByteArray) (h : sb s t = false) : t.toList.isEmpty = false ∧ Op.bytesLess s.toList t.toList = false := by
  unfold sb emp lt at h
  simpa using h

end Go.Proofs.Ytdbnkeihnoglcaa
