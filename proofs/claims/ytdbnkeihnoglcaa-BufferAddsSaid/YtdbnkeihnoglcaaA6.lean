/- The laws of the key functions answer true. -/
import Derived.Test.YtdbnkeihnoglcaaA5
namespace Go.Proofs.Ytdbnkeihnoglcaa
set_option linter.unusedSimpArgs false
open Go.RowKit
set_option linter.unusedVariables false

theorem toList_eq (a : ByteArray) : a.toList = a.data.toList := by
  exact ByteArray.toList_eq a
theorem len_eq (a : ByteArray) : a.toList.length = a.size := by rw [toList_eq]; rfl

theorem bef_asymm (a b : ByteArray) (h : bef a b = true) : bef b a = false := by
  unfold bef emp lt at *
  cases ha : a.toList.isEmpty <;> cases hb : b.toList.isEmpty <;> simp_all
  exact bl_asymm _ _ h
theorem bef_tri (a b : ByteArray) (h : bef a b = false) (k : bef b a = false) : a.toList = b.toList := by
  unfold bef emp lt at *
  cases ha : a.toList.isEmpty <;> cases hb : b.toList.isEmpty <;> simp_all
  rcases bl_tri a.toList b.toList with h1 | h1 | h1
  · rw [h1] at h; cases h
  · exact h1
  · rw [h1] at k; cases k

theorem bl_snoc : ∀ x : List UInt8, Op.bytesLess x (x ++ [0]) = true
  | [] => rfl
  | a :: x => by simp [Op.bytesLess, bl_snoc x]
theorem no_between : ∀ x y : List UInt8, Op.bytesLess x y = true → Op.bytesLess y (x ++ [0]) = false
  | _, [] => by simp [bl_nil]
  | [], b :: y => by
    intro _
    simp [Op.bytesLess, bl_nil, UInt8.lt_iff_toNat_lt]
  | a :: x, b :: y => by
    intro h
    simp only [Op.bytesLess, Bool.or_eq_true, decide_eq_true_eq, Bool.and_eq_true, beq_iff_eq, UInt8.lt_iff_toNat_lt] at h
    simp only [List.cons_append, Op.bytesLess]
    rcases h with h | ⟨rfl, h⟩
    · have h1 : ¬ b < a := by rw [UInt8.lt_iff_toNat_lt]; omega
      have h2 : (b == a) = false := by rw [beq_eq_false_iff_ne]; intro e; subst e; omega
      simp [h1, h2]
    · simp [no_between x y h, UInt8.lt_iff_toNat_lt]
theorem snoc_list (a : ByteArray) : (a ++ (⟨#[0]⟩ : ByteArray)).toList = a.toList ++ [0] := by
  rw [toList_eq, toList_eq]; simp
theorem has_point (a b : ByteArray) : has a (a ++ ⟨#[0]⟩) b = (a.toList == b.toList) := by
  unfold has sb emp lt
  rw [snoc_list]
  rcases bl_tri a.toList b.toList with h | h | h
  · rw [no_between _ _ h]
    have : (a.toList == b.toList) = false := by rw [beq_eq_false_iff_ne]; intro e; rw [e, bl_irr] at h; cases h
    simp [this]
  · rw [h]; simp [bl_irr, bl_snoc]
  · have : (a.toList == b.toList) = false := by rw [beq_eq_false_iff_ne]; intro e; rw [e, bl_irr] at h; cases h
    simp [this, h]

end Go.Proofs.Ytdbnkeihnoglcaa
