/- The law MeasureSpreads, whole. -/
import Derived.Test.YtniffjjkjgfacaaV8
namespace Go.Proofs.Ytniffjjkjgfacaa
open Go.RowKit Go.Maps Go.Shelf
set_option linter.unusedVariables false
theorem ei_of {w : World} {A : Option Addr} {l : List Int} (h : Rd w w.heap.size A (l.map (Value.int .i64))) : EI.Rd w A l := by
  unfold RE.Rd
  rw [ei_all]
  exact h
theorem u8_in {a : Int} (h : (Lit.int .u8 a).wf = true) : 0 ≤ a ∧ a ≤ 255 := by
  simp [Lit.wf, IntKind.min, IntKind.max, IntKind.signed, IntKind.bits] at h
  omega
theorem spreads_law (A : Option Addr) (n cap : Nat) (xs : List Int) (x : Int) (w : World) (hl : xs.length = n) (hnc : n ≤ cap) (hc2 : cap ≤ maxLen) (hz : A = none → n = 0 ∧ cap = 0) (hR : Rd w w.heap.size A (xs.map (Value.int .i64))) (hx : (Lit.int .u8 x).wf = true) :
    Calls Try.prog 4 #[.slice A n cap, .int .u8 x] w fun e w' => e = .returned (.bool true) ∧ Below w.heap.size w w' := by
  have hA := ei_of hR
  obtain ⟨x0, x1⟩ := u8_in hx
  have tm : ∀ m : Nat, ∃ k : Nat, k ≤ m ∧ x.tmod ((m : Int) + 1) = (k : Int) := fun m => by
    have h1 : x.tmod ((m : Int) + 1) = x % ((m : Int) + 1) := Int.tmod_eq_emod_of_nonneg x0
    have h2 := Int.emod_nonneg x (show ((m : Int) + 1) ≠ 0 by omega)
    have h3 := Int.emod_lt_of_pos x (show (0 : Int) < (m : Int) + 1 by omega)
    exact ⟨(x % ((m : Int) + 1)).toNat, by omega, by rw [h1]; omega⟩
  by_cases h40 : n ≤ 40
  · obtain ⟨k, hk, hm⟩ := tm n
    by_cases he : k = cap
    · obtain rfl : k = n := by omega
      obtain rfl : k = cap := he
      exact spreads_eq A k x xs w hl h40 hA x0 x1 hm
    · by_cases h0 : n = 0
      · subst h0
        cases A with
        | none => have := (hz rfl).2; omega
        | some a => exact spreads_zero a cap x xs w hl (by omega) hA x0 x1 (by have h := hm; simp at h ⊢)
      · obtain ⟨y, hy⟩ : ∃ y, xs[0]? = some y := ⟨_, List.getElem?_eq_getElem (by omega)⟩
        obtain ⟨b, off, rfl, _, _⟩ := ei_at hA hy
        exact spreads_few b off n cap k x xs w hl h40 (by omega) hnc hk hA x0 x1 hm
  · obtain ⟨k, hk, hm⟩ := tm 40
    obtain ⟨y, hy⟩ : ∃ y, xs[0]? = some y := ⟨_, List.getElem?_eq_getElem (by omega)⟩
    obtain ⟨b, off, rfl, _, _⟩ := ei_at hA hy
    exact spreads_many b off n cap k x (xs.take 40) w (by rw [List.length_take]; omega) (by omega) (by omega) (by omega) hk (hA.take 40) x0 x1 hm
end Go.Proofs.Ytniffjjkjgfacaa
