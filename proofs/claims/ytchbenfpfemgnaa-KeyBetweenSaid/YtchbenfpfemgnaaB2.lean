/- The document's text between two, and the law KeyBetween. -/
import Derived.Test.YtchbenfpfemgnaaA5
namespace Go.Proofs.Ytchbenfpfemgnaa
set_option linter.unusedSimpArgs false
open Go.RowKit
set_option linter.unusedVariables false

theorem ext_list (b : ByteArray) (n : Nat) : (b.extract 0 n).toList = b.toList.take n := by
  rw [toList_eq, toList_eq]
  simp
theorem pre_not : ∀ (x y : List UInt8) (n : Nat), n ≤ shN x y → Op.bytesLess x (y.take n) = false
  | x, y, 0, _ => by simp [bl_nil]
  | [], y, n + 1, h => by simp [shN] at h
  | _ :: _, [], n + 1, h => by simp [shN] at h
  | a :: x, b :: y, n + 1, h => by
    unfold shN at h
    split at h
    · rename_i e
      subst e
      have := pre_not x y n (by omega)
      simp [Op.bytesLess, this, UInt8.lt_iff_toNat_lt]
    · omega
theorem pre_yes : ∀ (x y : List UInt8), Op.bytesLess x y = true → Op.bytesLess x (y.take (shN x y + 1)) = true
  | _, [] => by simp [bl_nil]
  | [], b :: y => by intro _; simp [shN, Op.bytesLess]
  | a :: x, b :: y => by
    intro h
    unfold shN
    split
    · rename_i e
      subst e
      have h' : Op.bytesLess x y = true := by simpa [Op.bytesLess, UInt8.lt_iff_toNat_lt] using h
      have := pre_yes x y h'
      simp [Op.bytesLess, this]
    · rename_i e
      simp only [List.take_succ_cons, List.take_zero, Op.bytesLess, Bool.or_eq_true, decide_eq_true_eq, Bool.and_eq_true, beq_iff_eq] at h ⊢
      rcases h with h | ⟨h, _⟩
      · exact .inl h
      · exact absurd h e
theorem take_le : ∀ (y : List UInt8) (n : Nat), Op.bytesLess y (y.take n) = false
  | [], n => by simp [bl_nil]
  | b :: y, 0 => by simp [bl_nil]
  | b :: y, n + 1 => by simp [Op.bytesLess, take_le y n, UInt8.lt_iff_toNat_lt]
theorem shN_le : ∀ x y : List UInt8, shN x y ≤ x.length ∧ shN x y ≤ y.length
  | [], y => by simp [shN]
  | _ :: _, [] => by simp [shN]
  | a :: x, b :: y => by
    unfold shN
    have := shN_le x y
    split
    · simp; omega
    · simp
theorem shN_take : ∀ x y : List UInt8, x.take (shN x y) = y.take (shN x y)
  | [], y => by simp [shN]
  | _ :: _, [] => by simp [shN]
  | a :: x, b :: y => by
    unfold shN
    split
    · rename_i e; subst e; simp [shN_take x y]
    · simp
theorem shN_ne : ∀ (x y : List UInt8) (h1 : shN x y < x.length) (h2 : shN x y < y.length), x[shN x y] ≠ y[shN x y]
  | [], y, h1, _ => by simp at h1
  | _ :: _, [], _, h2 => by simp at h2
  | a :: x, b :: y, h1, h2 => by
    by_cases e : a = b
    · have k : shN (a :: x) (b :: y) = shN x y + 1 := by rw [shN, if_pos e]
      have := shN_ne x y (by rw [k] at h1; simp at h1; omega) (by rw [k] at h2; simp at h2; omega)
      simp only [k, List.getElem_cons_succ]
      exact this
    · have k : shN (a :: x) (b :: y) = 0 := by rw [shN, if_neg e]
      simp only [k, List.getElem_cons_zero]
      exact e

theorem leF (a b : ByteArray) (h : Op.bytesLess a.toList b.toList = false) : (Op.bytesLess b.toList a.toList = true ∧ (b.toList == a.toList) = false) ∨ (Op.bytesLess b.toList a.toList = false ∧ (b.toList == a.toList) = true) := by
  rcases bl_tri a.toList b.toList with k | k | k
  · rw [h] at k; cases k
  · right; rw [k]; exact ⟨bl_irr _, by simp⟩
  · left; exact ⟨k, by rw [beq_eq_false_iff_ne]; intro e; rw [e, bl_irr] at k; cases k⟩
theorem gtF (a b : ByteArray) (h : Op.bytesLess a.toList b.toList = true) : Op.bytesLess b.toList a.toList = false ∧ (b.toList == a.toList) = false :=
  ⟨bl_asymm _ _ h, by rw [beq_eq_false_iff_ne]; intro e; rw [e, bl_irr] at h; cases h⟩

set_option maxHeartbeats 2000000 in
theorem rbetween_lt (a b : ByteArray) (w : World) (hb : b.size ≤ maxLen) (h : Op.bytesLess a.toList b.toList = true) :
    Calls Try.prog 31 #[.string a, .string b] w fun e w' => e = .returned (.string (b.extract 0 (shN a.toList b.toList + 1))) ∧ Below w.heap.size w w' := by
  have hn : shN a.toList b.toList < b.size := by rw [← len_eq b]; exact shN_lt _ _ h
  unfold maxLen at hb
  obtain ⟨N, hN⟩ : ∃ N, shN a.toList b.toList = N := ⟨_, rfl⟩
  have hno : ∀ k, k ≤ N → Op.bytesLess a.toList (b.extract 0 k).toList = false := fun k hk => by rw [ext_list]; exact pre_not _ _ _ (by omega)
  have hyes : Op.bytesLess a.toList (b.extract 0 (N + 1)).toList = true := by rw [ext_list, ← hN]; exact pre_yes _ _ h
  rw [hN] at hn ⊢
  clear hN
  have Hno := Lib.hid hno
  have Hyes := Lib.hid hyes
  clear hno hyes
  go_enter Try.func31, Try.ntmps31
  go_wp2
  go_loop [5] (fun n => ∃ k : Nat, 1 ≤ k ∧ k ≤ N + 1 ∧ n = .int .i64 k) (fun n => b.size + 1 - (intOf n).toNat)
  case atStart => exact ⟨1, by omega, by omega, rfl⟩
  case round =>
    obtain ⟨k, hk1, hk2, rfl⟩ := hrel
    have i1 : (k : Int) ≤ (b.size : Int) := by omega
    by_cases e : k = N + 1
    · subst e
      obtain ⟨g1, g2⟩ := gtF a _ Hyes.out
      go_wp2
      go_ret
      exact ⟨rfl, Below.refl _ _⟩
    · rcases leF a _ (Hno.out k (by omega)) with ⟨g1, g2⟩ | ⟨g1, g2⟩
      all_goals
        have hkN : k ≤ N := by omega
        clear e
        go_wp2
        go_round
        case rel => exact ⟨k + 1, by omega, by omega, by go_num⟩
        case measure => simp [intOf]; omega
end Go.Proofs.Ytchbenfpfemgnaa
