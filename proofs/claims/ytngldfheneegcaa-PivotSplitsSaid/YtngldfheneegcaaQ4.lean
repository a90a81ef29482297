/- Pivots: each key lies in just one part. -/
import Derived.Test.YtngldfheneegcaaP5
import Derived.Test.YtngldfheneegcaaP4
namespace Go.Proofs.Ytngldfheneegcaa
set_option linter.unusedSimpArgs false
open Go.RowKit
set_option linter.unusedVariables false

theorem prtK_iff {p : List ByteArray} {s : ByteArray} (H : ∀ i j, i < j → j < p.length → lt (at_ p i) (at_ p j) = true) : ∀ k, k ≤ p.length → ∀ j, j < k → (j < prtK p s k ↔ lt s (at_ p j) = false) := by
  intro k
  induction k with
  | zero => intro _ j hj; omega
  | succ k ih =>
    intro hk j hj
    have ih' := ih (by omega)
    have hle := prtK_le p s k
    cases h : lt s (at_ p k)
    · have hall : ∀ i, i < k → lt s (at_ p i) = false := by
        intro i hi
        cases h2 : lt s (at_ p i)
        · rfl
        · have := lt_trans h2 (H i k hi (by omega)); rw [h] at this; cases this
      have hge : k ≤ prtK p s k := by
        rcases Nat.eq_zero_or_pos k with h0 | h0
        · omega
        · have := (ih' (k - 1) (by omega)).2 (hall _ (by omega)); omega
      have e : prtK p s (k + 1) = prtK p s k + 1 := by simp only [prtK]; rw [h]; rfl
      rw [e]
      constructor
      · intro _
        rcases Nat.lt_or_ge j k with h3 | h3
        · exact hall j h3
        · obtain rfl : j = k := by omega
          exact h
      · intro _; omega
    · have e : prtK p s (k + 1) = prtK p s k := by simp only [prtK]; rw [h]; rfl
      rw [e]
      rcases Nat.lt_or_ge j k with h3 | h3
      · exact ih' j h3
      · obtain rfl : j = k := by omega
        rw [h]
        constructor
        · intro h4; omega
        · intro h4; cases h4
theorem prt_iff {p : List ByteArray} {s : ByteArray} (hr : risesB p = true) (j : Nat) (hj : j < p.length) : j < prt p s ↔ lt s (at_ p j) = false :=
  prtK_iff (fun i j' hi hj' => rise_all hr i j' hi hj') p.length (Nat.le_refl _) j hj
theorem prt_le (p : List ByteArray) (s : ByteArray) : prt p s ≤ p.length := prtK_le p s p.length
theorem emp_no {a b : ByteArray} (h : lt a b = true) : emp b = false := by
  cases he : emp b
  · rfl
  · unfold emp at he
    have : b.toList = [] := List.isEmpty_iff.1 he
    unfold lt at h
    rw [this, bl_nil] at h
    cases h
theorem sb_at {s b : ByteArray} (h : emp b = false) : sb s b = lt s b := by unfold sb; rw [h]; rfl
theorem has_iff (a b s : ByteArray) : has a b s = true ↔ lt s a = false ∧ sb s b = true := by unfold has; simp
theorem has_piece {p : List ByteArray} {f t : ByteArray} (h : rightB p f t = true) (s : ByteArray) (i : Nat) (hi : i ≤ p.length) : has (pF p f i) (pT p t i) s = (has f t s && (prt p s == i)) := by
  unfold rightB at h
  simp only [Bool.and_eq_true] at h
  obtain ⟨hin, hsb, hr⟩ := h
  have hin' := in_iff.1 hin
  have hpe : ∀ j, j < p.length → emp (at_ p j) = false := fun j hj => emp_no (hin' j hj).1
  have hple := prt_le p s
  rw [Bool.eq_iff_iff, Bool.and_eq_true, has_iff, has_iff, beq_iff_eq]
  have hF : ∀ (h0 : 0 < i), pF p f i = at_ p (i - 1) := fun h0 => by unfold pF; rw [if_pos h0]
  have hF0 : i = 0 → pF p f i = f := fun h0 => by subst h0; rfl
  have hT : i < p.length → pT p t i = at_ p i := fun h0 => by unfold pT; rw [if_pos h0]
  have hTn : i = p.length → pT p t i = t := fun h0 => by unfold pT; rw [if_neg (by omega)]
  constructor
  · rintro ⟨h1, h2⟩
    refine ⟨⟨?_, ?_⟩, ?_⟩
    · rcases Nat.eq_zero_or_pos i with h0 | h0
      · rw [hF0 h0] at h1; exact h1
      · rw [hF h0] at h1
        cases h3 : lt s f
        · rfl
        · have := lt_trans h3 (hin' (i - 1) (by omega)).1; rw [h1] at this; cases this
    · rcases Nat.lt_or_ge i p.length with h0 | h0
      · rw [hT h0, sb_at (hpe i h0)] at h2
        rcases (hin' i h0).2 with h3 | h3
        · unfold sb; rw [h3]; rfl
        · unfold sb; rw [lt_trans h2 h3]; simp
      · rw [hTn (by omega)] at h2; exact h2
    · have ge : i ≤ prt p s := by
        rcases Nat.eq_zero_or_pos i with h0 | h0
        · omega
        · rw [hF h0] at h1; have := (prt_iff hr (i - 1) (by omega)).2 h1; omega
      have le : prt p s ≤ i := by
        rcases Nat.lt_or_ge i p.length with h0 | h0
        · rw [hT h0, sb_at (hpe i h0)] at h2
          rcases Nat.lt_or_ge i (prt p s) with h3 | h3
          · have := (prt_iff hr i h0).1 h3; rw [h2] at this; cases this
          · exact h3
        · omega
      omega
  · rintro ⟨⟨h1, h2⟩, h3⟩
    constructor
    · rcases Nat.eq_zero_or_pos i with h0 | h0
      · rw [hF0 h0]; exact h1
      · rw [hF h0]; exact (prt_iff hr (i - 1) (by omega)).1 (by omega)
    · rcases Nat.lt_or_ge i p.length with h0 | h0
      · rw [hT h0, sb_at (hpe i h0)]
        cases h4 : lt s (at_ p i)
        · have := (prt_iff hr i h0).2 h4; omega
        · rfl
      · rw [hTn (by omega)]; exact h2
end Go.Proofs.Ytngldfheneegcaa
