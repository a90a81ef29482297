/- How many bytes two texts begin with alike. -/
import Derived.Test.YteiifcmdpoonmaaN3
namespace Go.Proofs.Yteiifcmdpoonmaa
set_option linter.unusedSimpArgs false
open Go.RowKit Go.Maps Go.Shelf
set_option linter.unusedVariables false
def shN : List UInt8 → List UInt8 → Nat
  | a :: x, b :: y => if a = b then shN x y + 1 else 0
  | _, _ => 0

theorem toList_eq (a : ByteArray) : a.toList = a.data.toList := by
  exact ByteArray.toList_eq a
theorem len_eq (a : ByteArray) : a.toList.length = a.size := by rw [toList_eq]; rfl

theorem drop_cons (a : ByteArray) (k : Nat) (h : k < a.size) : a.toList.drop k = a[k] :: a.toList.drop (k + 1) := by
  have h' : k < a.data.toList.length := by simpa using h
  rw [toList_eq, List.drop_eq_getElem_cons h']; rfl

theorem shN_step (a b : ByteArray) (k : Nat) (h1 : k < a.size) (h2 : k < b.size) (e : a[k] = b[k]) : shN (a.toList.drop k) (b.toList.drop k) = shN (a.toList.drop (k + 1)) (b.toList.drop (k + 1)) + 1 := by
  rw [drop_cons a k h1, drop_cons b k h2, shN, if_pos e]
theorem shN_stop (a b : ByteArray) (k : Nat) (h1 : k < a.size) (h2 : k < b.size) (e : ¬ a[k] = b[k]) : shN (a.toList.drop k) (b.toList.drop k) = 0 := by
  rw [drop_cons a k h1, drop_cons b k h2, shN, if_neg e]
theorem drop_nil (a : ByteArray) (k : Nat) (h : a.size ≤ k) : a.toList.drop k = [] := List.drop_eq_nil_of_le (by rw [len_eq]; exact h)
theorem shN_end (a b : ByteArray) (k : Nat) (h : a.size ≤ k ∨ b.size ≤ k) : shN (a.toList.drop k) (b.toList.drop k) = 0 := by
  rcases h with h | h
  · rw [drop_nil a k h]; rfl
  · rw [drop_nil b k h]; cases a.toList.drop k <;> rfl
theorem ret_int {k : IntKind} {a b : Int} (h : a = b) : Ending.returned (.int k a) = .returned (.int k b) := by rw [h]

set_option maxHeartbeats 1000000 in
theorem shared_any (a b : ByteArray) (w : World) (ha : a.size ≤ maxLen) (hb : b.size ≤ maxLen) :
    Calls Try.prog 28 #[.string a, .string b] w fun e w' => e = .returned (.int .i64 (shN a.toList b.toList)) ∧ Below w.heap.size w w' := by
  unfold maxLen at ha hb
  go_enter Try.func28, Try.ntmps28
  go_wp2
  go_loopw [5] (fun n wr => ∃ k : Nat, k ≤ a.size ∧ k ≤ b.size ∧ n = .int .i64 k ∧ Hid (shN (a.toList.drop k) (b.toList.drop k) + k = shN a.toList b.toList) ∧ Below w.heap.size w wr) (fun n _ => a.size - (intOf n).toNat)
  case atStart => exact ⟨0, Nat.zero_le _, Nat.zero_le _, rfl, rfl, Below.refl _ _⟩
  case round =>
    obtain ⟨k, hk1, hk2, rfl, H, hB⟩ := hrel
    by_cases h1 : k < a.size
    · by_cases h2 : k < b.size
      · have h3 : (k : Int) < (a.size : Int) := by omega
        have h4 : (k : Int) < (b.size : Int) := by omega
        by_cases e : a[k] = b[k]
        · have hs := Lib.hid (shN_step a b k h1 h2 e)
          have h5 : ((a[k].toNat : Int) == (b[k].toNat : Int)) = true := by rw [e]; simp
          clear e
          go_wp2
          go_quiet (fail)
          go_wp2
          go_roundw
          case rel => exact ⟨k + 1, by omega, by omega, by simp, by have := hs.out; have := H.out; unfold Hid; omega, bel_drewN hB _⟩
          case measure => simp [intOf]; omega
        · have hs := Lib.hid (shN_stop a b k h1 h2 e)
          have h5 : ((a[k].toNat : Int) == (b[k].toNat : Int)) = false := by
            rw [beq_eq_false_iff_ne]; intro h; exact e (UInt8.toNat_inj.1 (by omega))
          clear e
          go_wp2
          go_quiet (fail)
          go_wp2
          go_ret
          exact ⟨ret_int (by have := hs.out; have := H.out; omega), bel_drewN hB _⟩
      · have h3 : (k : Int) < (a.size : Int) := by omega
        have h4 : decide ((k : Int) < (b.size : Int)) = false := by simp; omega
        have hs := Lib.hid (shN_end a b k (.inr (by omega)))
        go_wp2
        go_quiet (fail)
        go_wp2
        go_ret
        exact ⟨ret_int (by have := hs.out; have := H.out; omega), bel_drewN hB _⟩
    · have h3 : decide ((k : Int) < (a.size : Int)) = false := by simp; omega
      have hs := Lib.hid (shN_end a b k (.inl (by omega)))
      go_wp2
      go_quiet (fail)
      go_wp2
      go_ret
      exact ⟨ret_int (by have := hs.out; have := H.out; omega), bel_drewN hB _⟩
set_option maxHeartbeats 1000000 in
theorem refShared_any (a b : ByteArray) (w : World) (ha : a.size ≤ maxLen) (hb : b.size ≤ maxLen) :
    Calls Try.prog 24 #[.string a, .string b] w fun e w' => e = .returned (.int .i64 (shN a.toList b.toList)) ∧ Below w.heap.size w w' := by
  unfold maxLen at ha hb
  go_enter Try.func24, Try.ntmps24
  go_wp2
  go_loopw [5] (fun n wr => ∃ k : Nat, k ≤ a.size ∧ k ≤ b.size ∧ n = .int .i64 k ∧ Hid (shN (a.toList.drop k) (b.toList.drop k) + k = shN a.toList b.toList) ∧ Below w.heap.size w wr) (fun n _ => a.size - (intOf n).toNat)
  case atStart => exact ⟨0, Nat.zero_le _, Nat.zero_le _, rfl, rfl, Below.refl _ _⟩
  case round =>
    obtain ⟨k, hk1, hk2, rfl, H, hB⟩ := hrel
    by_cases h1 : k < a.size
    · by_cases h2 : k < b.size
      · have h3 : (k : Int) < (a.size : Int) := by omega
        have h4 : (k : Int) < (b.size : Int) := by omega
        by_cases e : a[k] = b[k]
        · have hs := Lib.hid (shN_step a b k h1 h2 e)
          have h5 : ((a[k].toNat : Int) == (b[k].toNat : Int)) = true := by rw [e]; simp
          clear e
          go_wp2
          go_quiet (fail)
          go_wp2
          go_roundw
          case rel => exact ⟨k + 1, by omega, by omega, by simp, by have := hs.out; have := H.out; unfold Hid; omega, bel_drewN hB _⟩
          case measure => simp [intOf]; omega
        · have hs := Lib.hid (shN_stop a b k h1 h2 e)
          have h5 : ((a[k].toNat : Int) == (b[k].toNat : Int)) = false := by
            rw [beq_eq_false_iff_ne]; intro h; exact e (UInt8.toNat_inj.1 (by omega))
          clear e
          go_wp2
          go_quiet (fail)
          go_wp2
          go_ret
          exact ⟨ret_int (by have := hs.out; have := H.out; omega), bel_drewN hB _⟩
      · have h3 : (k : Int) < (a.size : Int) := by omega
        have h4 : decide ((k : Int) < (b.size : Int)) = false := by simp; omega
        have hs := Lib.hid (shN_end a b k (.inr (by omega)))
        go_wp2
        go_quiet (fail)
        go_wp2
        go_ret
        exact ⟨ret_int (by have := hs.out; have := H.out; omega), bel_drewN hB _⟩
    · have h3 : decide ((k : Int) < (a.size : Int)) = false := by simp; omega
      have hs := Lib.hid (shN_end a b k (.inl (by omega)))
      go_wp2
      go_quiet (fail)
      go_wp2
      go_ret
      exact ⟨ret_int (by have := hs.out; have := H.out; omega), bel_drewN hB _⟩
end Go.Proofs.Yteiifcmdpoonmaa
