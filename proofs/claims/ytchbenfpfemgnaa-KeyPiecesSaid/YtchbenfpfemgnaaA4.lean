/- Contracts of the key functions: a text between two, and what must be whatever is asked. -/
import Derived.Test.YtchbenfpfemgnaaA3
namespace Go.Proofs.Ytchbenfpfemgnaa
set_option linter.unusedSimpArgs false
open Go.RowKit
set_option linter.unusedVariables false

theorem shN_lt : ∀ x y : List UInt8, Op.bytesLess x y = true → shN x y < y.length
  | _, [] => by simp [bl_nil]
  | [], _ :: _ => by simp [shN]
  | a :: x, b :: y => by
    intro h
    unfold shN
    split
    · rename_i e
      subst e
      have : Op.bytesLess x y = true := by simpa [Op.bytesLess, UInt8.lt_iff_toNat_lt] using h
      have := shN_lt x y this
      simp; omega
    · simp

set_option maxHeartbeats 1000000 in
theorem between_lt (a b : ByteArray) (w : World) (ha : a.size ≤ maxLen) (hb : b.size ≤ maxLen) (h : lt a b = true) :
    Calls Try.prog 29 #[.string a, .string b] w fun e w' => e = .returned (.string (b.extract 0 (shN a.toList b.toList + 1))) ∧ Below w.heap.size w w' := by
  have hn : shN a.toList b.toList < b.size := by rw [← len_eq b]; exact shN_lt _ _ h
  have hL : (!Op.bytesLess a.toList b.toList) = false := by simpa [lt] using h
  have hb' := hb
  unfold maxLen at hb'
  clear h
  go_enter Try.func29, Try.ntmps29
  go_wp2_with fail
  refine (shared_any a b _ ha hb).mono ?_
  rintro e w1 ⟨rfl, hB⟩
  go_wp2_with fail
  go_ret
  exact ⟨rfl, hB⟩

set_option maxHeartbeats 1000000 in
theorem between_no (a b : ByteArray) (w : World) (h : lt a b = false) :
    Calls Try.prog 29 #[.string a, .string b] w fun e w' => e = .returned (.string emptyS) ∧ Below w.heap.size w w' := by
  have hL : (!Op.bytesLess a.toList b.toList) = true := by simpa [lt] using h
  go_enter Try.func29, Try.ntmps29
  go_wp2_with fail
  go_ret
  exact ⟨rfl, Below.refl _ _⟩

abbrev s1 (a : UInt8) : ByteArray := ⟨#[a]⟩
theorem live_meet (w : World) : Calls Try.prog 15 #[.agg #[.string ⟨#[97]⟩, .string ⟨#[109]⟩], .agg #[.string ⟨#[107]⟩, .string ⟨#[]⟩]] w fun e w' => e = .returned (.tuple #[.agg #[.string ⟨#[107]⟩, .string ⟨#[109]⟩], .bool true]) ∧ Below w.heap.size w w' := by
  have h : meetF ⟨#[97]⟩ ⟨#[109]⟩ ⟨#[107]⟩ ⟨#[]⟩ = (⟨#[107]⟩, ⟨#[109]⟩, true) := by
    simp [meetF, meetE, sb, emp, lt, maxS, firstS, bef, toList_eq, Op.bytesLess]
  have k := meet_any ⟨#[97]⟩ ⟨#[109]⟩ ⟨#[107]⟩ ⟨#[]⟩ w
  rw [h] at k
  exact k
theorem live_btw1 (w : World) : Calls Try.prog 29 #[.string ⟨#[97, 98, 99]⟩, .string ⟨#[97, 98, 113]⟩] w fun e w' => e = .returned (.string ⟨#[97, 98, 113]⟩) ∧ Below w.heap.size w w' := by
  have k := between_lt ⟨#[97, 98, 99]⟩ ⟨#[97, 98, 113]⟩ w (by unfold maxLen; decide) (by unfold maxLen; decide) (by simp [lt, toList_eq, Op.bytesLess])
  have h : (⟨#[97, 98, 113]⟩ : ByteArray).extract 0 (shN (⟨#[97, 98, 99]⟩ : ByteArray).toList (⟨#[97, 98, 113]⟩ : ByteArray).toList + 1) = ⟨#[97, 98, 113]⟩ := by
    simp [toList_eq, shN]; rfl
  rw [h] at k
  exact k
theorem live_btw2 (w : World) : Calls Try.prog 29 #[.string ⟨#[97]⟩, .string ⟨#[97, 98, 99]⟩] w fun e w' => e = .returned (.string ⟨#[97, 98]⟩) ∧ Below w.heap.size w w' := by
  have k := between_lt ⟨#[97]⟩ ⟨#[97, 98, 99]⟩ w (by unfold maxLen; decide) (by unfold maxLen; decide) (by simp [lt, toList_eq, Op.bytesLess])
  have h : (⟨#[97, 98, 99]⟩ : ByteArray).extract 0 (shN (⟨#[97]⟩ : ByteArray).toList (⟨#[97, 98, 99]⟩ : ByteArray).toList + 1) = ⟨#[97, 98]⟩ := by
    simp [toList_eq, shN]; rfl
  rw [h] at k
  exact k
theorem live_after (w : World) : Calls Try.prog 32 #[.string ⟨#[97]⟩] w fun e w' => e = .returned (.string ⟨#[97, 0]⟩) ∧ w = w' := by
  have k := after_any ⟨#[97]⟩ w (by decide)
  exact k

set_option maxHeartbeats 1000000 in
theorem live_any (w : World) :
    Calls Try.prog 10 #[] w fun e w' => e = .returned (.bool true) ∧ Below w.heap.size w w' := by
  go_enter Try.func10, Try.ntmps10
  go_wp2_with fail
  refine (live_meet _).mono ?_
  rintro e w1 ⟨rfl, hb⟩
  go_wp2_with fail
  refine (live_btw1 _).mono ?_
  rintro e w2 ⟨rfl, hb2⟩
  have h2 : Below w.heap.size w w2 := (hb.alloc hb.size _).trans (hb2.mono (by have := hb.size; simp; omega))
  clear hb hb2
  go_wp2_with fail
  refine (live_btw2 _).mono ?_
  rintro e w3 ⟨rfl, hb3⟩
  have h3 : Below w.heap.size w w3 := h2.trans (hb3.mono h2.size)
  clear h2 hb3
  go_wp2_with fail
  refine (live_after _).mono ?_
  rintro e w4 ⟨rfl, rfl⟩
  go_wp2_with fail
  go_ret
  exact ⟨rfl, h3⟩
end Go.Proofs.Ytchbenfpfemgnaa
