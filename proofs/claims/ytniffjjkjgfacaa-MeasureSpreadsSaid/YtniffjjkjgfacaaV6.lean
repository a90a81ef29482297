/- Plain mathematics: an insertion into numbers that rise; what rises and has the same numbers is the same. -/
import Derived.Test.YtniffjjkjgfacaaV4
namespace Go.Proofs.Ytniffjjkjgfacaa
set_option linter.unusedVariables false
def Up (s : List Int) : Prop := s.Pairwise (· ≤ ·)
theorem up_eq {s t : List Int} (h : Up s) (k : Up t) (p : s.Perm t) : s = t :=
  List.Perm.eq_of_pairwise (le := fun a b => a ≤ b) (fun a b _ _ h1 h2 => Int.le_antisymm h1 h2) h k p
theorem srt_up (xs : List Int) : Up (srt xs) := by
  have h := List.pairwise_mergeSort (le := fun x y : Int => decide (x ≤ y)) (fun a b c h1 h2 => by simp at *; omega) (fun a b => by simp; omega) xs
  exact h.imp (fun h => by simpa using h)
theorem srt_perm (xs : List Int) : (srt xs).Perm xs := List.mergeSort_perm _ _
theorem srt_of {s xs : List Int} (h : Up s) (p : s.Perm xs) : s = srt xs := up_eq h (srt_up xs) (p.trans (srt_perm xs).symm)
theorem srt_eq {xs ys : List Int} (p : xs.Perm ys) : srt xs = srt ys := srt_of (srt_up xs) ((srt_perm xs).trans p)
/-- Where x goes: behind those that are not above it. -/
structure At (s : List Int) (x : Int) (k : Nat) : Prop where
  le : k ≤ s.length
  up : ∀ j v, s[j]? = some v → k ≤ j → x < v
theorem At.start (s : List Int) (x : Int) : At s x s.length := ⟨Nat.le_refl _, fun j v h hj => by have := (List.getElem?_eq_some_iff.1 h).1; omega⟩
theorem At.step {s : List Int} {x v : Int} {k p : Nat} (h : At s x k) (e : k = p + 1) (hv : s[p]? = some v) (hx : x < v) : At s x p :=
  ⟨by have := h.le; omega, fun j u hu hj => by
    by_cases c : k ≤ j
    · exact h.up j u hu c
    · obtain rfl : j = p := by omega
      rw [hv] at hu; cases hu; exact hx⟩
def Stop (s : List Int) (x : Int) (k : Nat) : Prop := k = 0 ∨ ∃ p v, k = p + 1 ∧ s[p]? = some v ∧ v ≤ x
def insd (s : List Int) (x : Int) (k : Nat) : List Int := (s.take k ++ [x]) ++ s.drop k
theorem up_get {s : List Int} (h : Up s) {i j : Nat} {a b : Int} (hi : s[i]? = some a) (hj : s[j]? = some b) (hij : i ≤ j) : a ≤ b := by
  rcases Nat.lt_or_ge i j with c | c
  · obtain ⟨h1, rfl⟩ := List.getElem?_eq_some_iff.1 hi
    obtain ⟨h2, rfl⟩ := List.getElem?_eq_some_iff.1 hj
    exact List.pairwise_iff_getElem.1 h i j h1 h2 c
  · obtain rfl : i = j := by omega
    rw [hi] at hj; cases hj; exact Int.le_refl _
theorem insd_up {s : List Int} {x : Int} {k : Nat} (h : Up s) (ha : At s x k) (hs : Stop s x k) : Up (insd s x k) := by
  have lo : ∀ a ∈ s.take k, a ≤ x := fun a ha' => by
    obtain ⟨i, hi⟩ := List.mem_iff_getElem?.1 ha'
    have hik : i < k := by
      have := (List.getElem?_eq_some_iff.1 hi).1
      rw [List.length_take] at this; omega
    rw [List.getElem?_take, if_pos hik] at hi
    rcases hs with rfl | ⟨p, v, rfl, hp, hv⟩
    · omega
    · exact Int.le_trans (up_get h hi hp (by omega)) hv
  have hi : ∀ b ∈ s.drop k, x < b := fun b hb => by
    obtain ⟨i, hi⟩ := List.mem_iff_getElem?.1 hb
    rw [List.getElem?_drop] at hi
    exact ha.up _ _ hi (by omega)
  unfold insd Up
  rw [List.pairwise_append, List.pairwise_append]
  refine ⟨⟨h.sublist (List.take_sublist _ _), by simp, fun a h1 b h2 => ?_⟩, h.sublist (List.drop_sublist _ _), fun a h1 b h2 => ?_⟩
  · simp at h2; subst h2; exact lo a h1
  · rcases List.mem_append.1 h1 with h1 | h1
    · have := lo a h1; have := hi b h2; omega
    · simp at h1; subst h1; have := hi b h2; omega
theorem insd_perm (s : List Int) (x : Int) (k : Nat) : (insd s x k).Perm (s ++ [x]) := by
  have h : (insd s x k).Perm (x :: (s.take k ++ s.drop k)) := by
    unfold insd
    rw [List.append_assoc]
    exact List.perm_middle
  rw [List.take_append_drop] at h
  exact h.trans (List.perm_append_comm (l₁ := [x]))
theorem rot_perm (xs : List Int) (k : Nat) : (xs.drop k ++ xs.take k).Perm xs := by
  have h := List.perm_append_comm (l₁ := xs.drop k) (l₂ := xs.take k)
  rwa [List.take_append_drop] at h
theorem sp_rot (xs : List Int) (k : Nat) : spA (xs.drop k ++ xs.take k) = spA xs ∧ spB (xs.drop k ++ xs.take k) = spB xs ∧ spC (xs.drop k ++ xs.take k) = spC xs := by
  have h := srt_eq (rot_perm xs k)
  have hl := (rot_perm xs k).length_eq
  simp only [spA, spB, spC, h, hl, and_self]
theorem sp_up (xs : List Int) : spA xs ≤ spB xs ∧ spB xs ≤ spC xs := by
  by_cases h0 : 0 < xs.length
  · exact ⟨up_get (srt_up xs) (srt_at xs (by omega)) (srt_at xs (by omega)) (by omega), up_get (srt_up xs) (srt_at xs (by omega)) (srt_at xs (by omega)) (by omega)⟩
  · have : xs = [] := List.eq_nil_of_length_eq_zero (by omega)
    subst this
    simp [spA, spB, spC, srt]
end Go.Proofs.Ytniffjjkjgfacaa
