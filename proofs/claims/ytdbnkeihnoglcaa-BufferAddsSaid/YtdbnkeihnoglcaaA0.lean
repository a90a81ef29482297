/- The order of texts: total, transitive; the empty text is the least. -/
import GoSem.Op.String
namespace Go.Proofs.Ytdbnkeihnoglcaa
set_option linter.unusedSimpArgs false

theorem bl_irr : ∀ x : List UInt8, Op.bytesLess x x = false
  | [] => rfl
  | a :: x => by simp [Op.bytesLess, bl_irr x, UInt8.lt_iff_toNat_lt]

theorem bl_tri : ∀ x y : List UInt8, Op.bytesLess x y = true ∨ x = y ∨ Op.bytesLess y x = true
  | [], [] => .inr (.inl rfl)
  | [], _ :: _ => .inl rfl
  | _ :: _, [] => .inr (.inr rfl)
  | a :: x, b :: y => by
    rcases Nat.lt_trichotomy a.toNat b.toNat with h | h | h
    · left; simp [Op.bytesLess, UInt8.lt_iff_toNat_lt, h]
    · have e : a = b := UInt8.toNat_inj.1 h
      subst e
      rcases bl_tri x y with k | k | k
      · left; simp [Op.bytesLess, k]
      · right; left; rw [k]
      · right; right; simp [Op.bytesLess, k]
    · right; right; simp [Op.bytesLess, UInt8.lt_iff_toNat_lt, h]

theorem bl_trans : ∀ x y z : List UInt8, Op.bytesLess x y = true → Op.bytesLess y z = true → Op.bytesLess x z = true
  | _, [], _ => by simp [Op.bytesLess]
  | _, _ :: _, [] => by simp [Op.bytesLess]
  | [], _ :: _, _ :: _ => by simp [Op.bytesLess]
  | a :: x, b :: y, c :: z => by
    intro h k
    simp only [Op.bytesLess, Bool.or_eq_true, decide_eq_true_eq, Bool.and_eq_true, beq_iff_eq, UInt8.lt_iff_toNat_lt] at h k ⊢
    rcases h with h | ⟨rfl, h⟩
    · rcases k with k | ⟨rfl, k⟩
      · left; omega
      · left; exact h
    · rcases k with k | ⟨rfl, k⟩
      · left; exact k
      · right; exact ⟨rfl, bl_trans x y z h k⟩

theorem bl_asymm (x y : List UInt8) (h : Op.bytesLess x y = true) : Op.bytesLess y x = false := by
  cases k : Op.bytesLess y x with
  | false => rfl
  | true => have := bl_trans _ _ _ h k; rw [bl_irr] at this; cases this

theorem bl_le (x y : List UInt8) : (Op.bytesLess x y || x == y) = !Op.bytesLess y x := by
  rcases bl_tri x y with h | h | h
  · rw [h, bl_asymm _ _ h]; rfl
  · subst h; simp [bl_irr]
  · rw [bl_asymm _ _ h, h]
    have : (x == y) = false := by
      cases k : x == y with
      | false => rfl
      | true => rw [beq_iff_eq] at k; subst k; rw [bl_irr] at h; cases h
    rw [this]; rfl

theorem bl_nil (x : List UInt8) : Op.bytesLess x [] = false := by cases x <;> rfl
theorem bl_nil_left (x : List UInt8) : Op.bytesLess [] x = !x.isEmpty := by cases x <;> rfl

end Go.Proofs.Ytdbnkeihnoglcaa
