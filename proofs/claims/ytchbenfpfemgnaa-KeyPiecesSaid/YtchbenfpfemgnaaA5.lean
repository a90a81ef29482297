/- The laws of the key functions answer true. -/
import Derived.Test.YtchbenfpfemgnaaA4
namespace Go.Proofs.Ytchbenfpfemgnaa
set_option linter.unusedSimpArgs false
open Go.RowKit
set_option linter.unusedVariables false

theorem bef_asymm (a b : ByteArray) (h : bef a b = true) : bef b a = false := by
  unfold bef emp lt at *
  cases ha : a.toList.isEmpty <;> cases hb : b.toList.isEmpty <;> simp_all
  exact bl_asymm _ _ h
theorem bef_tri (a b : ByteArray) (h : bef a b = false) (k : bef b a = false) : a.toList = b.toList := by
  unfold bef emp lt at *
  cases ha : a.toList.isEmpty <;> cases hb : b.toList.isEmpty <;> simp_all
  rcases bl_tri a.toList b.toList with h1 | h1 | h1
  · rw [h1] at h; cases h
  · exact h1
  · rw [h1] at k; cases k

theorem bl_snoc : ∀ x : List UInt8, Op.bytesLess x (x ++ [0]) = true
  | [] => rfl
  | a :: x => by simp [Op.bytesLess, bl_snoc x]
theorem no_between : ∀ x y : List UInt8, Op.bytesLess x y = true → Op.bytesLess y (x ++ [0]) = false
  | _, [] => by simp [bl_nil]
  | [], b :: y => by
    intro _
    simp [Op.bytesLess, bl_nil, UInt8.lt_iff_toNat_lt]
  | a :: x, b :: y => by
    intro h
    simp only [Op.bytesLess, Bool.or_eq_true, decide_eq_true_eq, Bool.and_eq_true, beq_iff_eq, UInt8.lt_iff_toNat_lt] at h
    simp only [List.cons_append, Op.bytesLess]
    rcases h with h | ⟨rfl, h⟩
    · have h1 : ¬ b < a := by rw [UInt8.lt_iff_toNat_lt]; omega
      have h2 : (b == a) = false := by rw [beq_eq_false_iff_ne]; intro e; subst e; omega
      simp [h1, h2]
    · simp [no_between x y h, UInt8.lt_iff_toNat_lt]
theorem snoc_list (a : ByteArray) : (a ++ (⟨#[0]⟩ : ByteArray)).toList = a.toList ++ [0] := by
  rw [toList_eq, toList_eq]; simp
theorem has_point (a b : ByteArray) : has a (a ++ ⟨#[0]⟩) b = (a.toList == b.toList) := by
  unfold has sb emp lt
  rw [snoc_list]
  rcases bl_tri a.toList b.toList with h | h | h
  · rw [no_between _ _ h]
    have : (a.toList == b.toList) = false := by rw [beq_eq_false_iff_ne]; intro e; rw [e, bl_irr] at h; cases h
    simp [this]
  · rw [h]; simp [bl_irr, bl_snoc]
  · have : (a.toList == b.toList) = false := by rw [beq_eq_false_iff_ne]; intro e; rw [e, bl_irr] at h; cases h
    simp [this, h]

set_option maxHeartbeats 1000000 in
theorem ends_walk (a b : ByteArray) (n : Int) (w : World) (ha : a.size ≤ maxLen) (hb : b.size ≤ maxLen) :
    Calls Try.prog 3 #[.string a, .string b, .int .i64 n] w fun e w' => e = .returned (.bool true) ∧ Below w.heap.size w w' := by
  unfold maxLen at ha hb
  cases h1 : bef b a
  · have e1 : firstS a b = a := by simp [firstS, h1]
    have e2 : (lastS a b).toList = b.toList := by
      unfold lastS; cases k : bef a b
      · simp; exact bef_tri a b k h1
      · simp
    go_enter Try.func3, Try.ntmps3
    go_wp2_with fail
    refine (rbefore_any _ _ _).mono ?_
    rintro e w1 ⟨rfl, rfl⟩
    go_wp2_with fail
    refine (rbefore_any _ _ _).mono ?_
    rintro e w1 ⟨rfl, rfl⟩
    go_wp2_with fail
    refine (live_any _).mono ?_
    rintro e w1 ⟨rfl, hB⟩
    go_wp2_with (first | (go_at_call 11; refine (right_any _ _ _).mono ?_; rintro e w' ⟨rfl, rfl⟩) | (go_at_call 12; refine (before_any _ _ _).mono ?_; rintro e w' ⟨rfl, rfl⟩) | (go_at_call 13; refine (first_any _ _ _).mono ?_; rintro e w' ⟨rfl, rfl⟩) | (go_at_call 14; refine (last_any _ _ _).mono ?_; rintro e w' ⟨rfl, rfl⟩))
    all_goals
      go_ret
      refine ⟨?_, hB⟩
      simp_all [emp]
  · have e1 : firstS a b = b := by simp [firstS, h1]
    have e2 : lastS a b = a := by simp [lastS, bef_asymm b a h1]
    go_enter Try.func3, Try.ntmps3
    go_wp2_with fail
    refine (rbefore_any _ _ _).mono ?_
    rintro e w1 ⟨rfl, rfl⟩
    go_wp2_with fail
    refine (rbefore_any _ _ _).mono ?_
    rintro e w1 ⟨rfl, rfl⟩
    go_wp2_with fail
    refine (live_any _).mono ?_
    rintro e w1 ⟨rfl, hB⟩
    go_wp2_with (first | (go_at_call 11; refine (right_any _ _ _).mono ?_; rintro e w' ⟨rfl, rfl⟩) | (go_at_call 12; refine (before_any _ _ _).mono ?_; rintro e w' ⟨rfl, rfl⟩) | (go_at_call 13; refine (first_any _ _ _).mono ?_; rintro e w' ⟨rfl, rfl⟩) | (go_at_call 14; refine (last_any _ _ _).mono ?_; rintro e w' ⟨rfl, rfl⟩))
    all_goals
      go_ret
      refine ⟨?_, hB⟩
      simp_all [emp]

set_option maxHeartbeats 1000000 in
theorem after_walk (a b : ByteArray) (w : World) (ha : a.size ≤ 140737488351232) :
    Calls Try.prog 8 #[.string a, .string b] w fun e w' => e = .returned (.bool true) ∧ Below w.heap.size w w' := by
  have g1 : Op.bytesLess a.toList (a ++ (⟨#[0]⟩ : ByteArray)).toList = true := by rw [snoc_list]; exact bl_snoc _
  have g2 : has a (a ++ ⟨#[0]⟩) b = (a.toList == b.toList) := has_point a b
  have g3 : Op.bytesLess a.toList b.toList = true → Op.bytesLess b.toList (a ++ (⟨#[0]⟩ : ByteArray)).toList = false := by rw [snoc_list]; exact no_between _ _
  cases h : Op.bytesLess a.toList b.toList
  all_goals
    first
      | (have g4 := g3 h; clear g3)
      | clear g3
    go_enter Try.func8, Try.ntmps8
    go_wp2_with fail
    refine (after_any _ _ (by omega)).mono ?_
    rintro e w1 ⟨rfl, rfl⟩
    go_wp2_with fail
    refine (point_any _ _ (by omega)).mono ?_
    rintro e w1 ⟨rfl, hb⟩
    go_wp2_with fail
    refine (live_any _).mono ?_
    rintro e w2 ⟨rfl, hb2⟩
    have d0 := cell_later (a := ⟨w1.heap.size, 0, none⟩) (v := .string a) hb2 (by simp [go_sem])
    have d1 := cell_later (a := ⟨w1.heap.size, 1, none⟩) (v := .string (a ++ ⟨#[0]⟩)) hb2 (by simp [go_sem])
    have h2 : Below w.heap.size w w2 := (hb.alloc hb.size _).trans (hb2.mono (by have := hb.size; simp; omega))
    clear hb hb2
    go_wp2_with fail
    refine (holds_any _ _ _ _).mono ?_
    rintro e w3 ⟨rfl, hb3⟩
    have h3 : Below w.heap.size w w3 := h2.trans (hb3.mono h2.size)
    clear h2 hb3
    go_wp2_with fail
    go_ret
    exact ⟨rfl, h3⟩

end Go.Proofs.Ytchbenfpfemgnaa
