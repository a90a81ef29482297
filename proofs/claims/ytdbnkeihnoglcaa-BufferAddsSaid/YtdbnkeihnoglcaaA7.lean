/- The law KeyMeets answers true. -/
import Derived.Test.YtdbnkeihnoglcaaA6
namespace Go.Proofs.Ytdbnkeihnoglcaa
set_option linter.unusedSimpArgs false
open Go.RowKit
set_option linter.unusedVariables false

theorem lt_irr (a : ByteArray) : lt a a = false := bl_irr _
theorem not_lt_max (a b s : ByteArray) : (!lt s (maxS a b)) = (!lt s a && !lt s b) := by
  unfold maxS
  cases h : lt a b
  · simp only [Bool.false_eq_true, if_false]
    cases k : lt s a
    · have : lt s b = false := by
        cases k2 : lt s b with
        | false => rfl
        | true =>
          exfalso
          rcases bl_tri a.toList b.toList with x | x | x
          · unfold lt at h; rw [h] at x; cases x
          · unfold lt at k k2; rw [x, k2] at k; cases k
          · have := bl_trans _ _ _ k2 x; unfold lt at k; rw [k] at this; cases this
      simp [this]
    · simp
  · simp only [if_true]
    cases k : lt s b
    · have : lt s a = false := by
        cases k2 : lt s a with
        | false => rfl
        | true => exfalso; have := bl_trans _ _ _ k2 h; unfold lt at k; rw [k] at this; cases this
      simp [this]
    · simp
theorem sb_first (a b s : ByteArray) : sb s (firstS a b) = (sb s a && sb s b) := by
  unfold firstS
  cases h : bef b a
  · simp only [Bool.false_eq_true, if_false]
    unfold bef sb emp lt at *
    cases ea : a.toList.isEmpty <;> cases eb : b.toList.isEmpty <;> simp_all
    intro k
    rcases bl_tri a.toList b.toList with x | x | x
    · exact bl_trans _ _ _ k x
    · rw [← x]; exact k
    · rw [h] at x; cases x
  · simp only [if_true]
    unfold bef sb emp lt at *
    cases ea : a.toList.isEmpty <;> cases eb : b.toList.isEmpty <;> simp_all
    intro k
    exact bl_trans _ _ _ k h
theorem has_none (f t s : ByteArray) (h : sb f t = false) : has f t s = false := by
  unfold sb emp lt at h
  unfold has sb emp lt
  simp only [Bool.or_eq_false_iff] at h
  obtain ⟨h1, h2⟩ := h
  cases k : Op.bytesLess s.toList f.toList
  · cases k2 : Op.bytesLess s.toList t.toList
    · simp [h1]
    · exfalso
      rcases bl_tri s.toList f.toList with x | x | x
      · rw [k] at x; cases x
      · rw [x, h2] at k2; cases k2
      · have := bl_trans _ _ _ x k2; rw [h2] at this; cases this
  · simp
theorem has_meetE (a0 a1 b0 b1 s : ByteArray) : (has a0 a1 s && has b0 b1 s) = ((meetE a0 a1 b0 b1).2.2 && has (meetE a0 a1 b0 b1).1 (meetE a0 a1 b0 b1).2.1 s) := by
  have e : (has a0 a1 s && has b0 b1 s) = has (maxS a0 b0) (firstS a1 b1) s := by
    unfold has; rw [not_lt_max, sb_first]
    cases lt s a0 <;> cases lt s b0 <;> cases sb s a1 <;> cases sb s b1 <;> rfl
  rw [e]
  unfold meetE
  cases h : sb (maxS a0 b0) (firstS a1 b1)
  · simp [has_none _ _ s h]
  · simp
theorem has_list (a0 a1 b0 b1 s : ByteArray) (h : a0.toList = b0.toList) (k : a1.toList = b1.toList) : has a0 a1 s = has b0 b1 s := by
  unfold has sb emp lt; rw [h, k]
theorem has_meet (a0 a1 b0 b1 s : ByteArray) (h1 : sb a0 a1 = true) (h2 : sb b0 b1 = true) : (has a0 a1 s && has b0 b1 s) = ((meetF a0 a1 b0 b1).2.2 && has (meetF a0 a1 b0 b1).1 (meetF a0 a1 b0 b1).2.1 s) := by
  unfold meetF
  rw [if_pos ⟨h1, h2⟩]
  by_cases h : a0.toList = b0.toList ∧ a1.toList = b1.toList
  · rw [if_pos h, ← has_list a0 a1 b0 b1 s h.1 h.2]; simp
  · rw [if_neg h]; exact has_meetE a0 a1 b0 b1 s
theorem within_has (a0 a1 b0 b1 s : ByteArray) (h1 : sb a0 a1 = true) (h2 : sb b0 b1 = true) (hw : withinB a0 a1 b0 b1 = true) (ha : has a0 a1 s = true) : has b0 b1 s = true := by
  have k := has_meet a0 a1 b0 b1 s h1 h2
  unfold withinB at hw
  simp only [Bool.and_eq_true, beq_iff_eq] at hw
  rw [has_list _ _ _ _ s hw.2.1 hw.2.2, hw.1, ha] at k
  simpa using k

end Go.Proofs.Ytdbnkeihnoglcaa
