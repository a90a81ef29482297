/- What is left behind a number and a text. -/
import Derived.Test.YteiifcmdpoonmaaY1
namespace Go.Proofs.Yteiifcmdpoonmaa
set_option linter.unusedSimpArgs false
open Go.RowKit Go.Maps Go.Shelf
set_option linter.unusedVariables false
/-- The bytes behind a number. -/
theorem tnF_sz (s r : ByteArray) (n : Int) (h : tnF s = (n, r, 0)) : r.size < s.size ∧ 0 ≤ n ∧ n ≤ 2147483647 ∧ numF n ++ r = s := by
  have key : ∀ e, e < 5 → e < s.size → (∀ i, i < e → 128 ≤ bt s i) → bt s e < 128 → r.size < s.size ∧ 0 ≤ n ∧ n ≤ 2147483647 ∧ numF n ++ r = s := by
    intro e h5 hs hl hb
    have q := tnF_vf s e h5 hs hl hb
    rw [h] at q
    by_cases c : 2147483647 < vf s e 0 ∨ (bt s e = 0 ∧ 0 < e)
    · rw [if_pos c] at q
      simp at q
    · rw [if_neg c] at q
      have nb := num_back s e h5 hs hl hb c
      have v0 := vf_lo s e 0
      simp only [Prod.mk.injEq, and_true] at q
      obtain ⟨rfl, rfl⟩ := q
      refine ⟨by rw [ByteArray.size_extract]; omega, v0, by omega, ?_⟩
      rw [nb]
      exact ext_both s (e + 1) (by omega)
  by_cases h0 : ∃ e, e < 5 ∧ e < s.size ∧ bt s e < 128
  · obtain ⟨e, ⟨h5, hs, hb⟩, hmin⟩ := least h0
    exact key e h5 hs (fun i hi => by
      have := hmin i hi
      have h6 := bt_lo s i
      rcases (by omega : bt s i < 128 ∨ 128 ≤ bt s i) with x | x
      · exact absurd ⟨by omega, by omega, x⟩ this
      · exact x) hb
  · have hall : ∀ i, i < 5 → i < s.size → 128 ≤ bt s i := fun i a b => by
      rcases (by omega : bt s i < 128 ∨ 128 ≤ bt s i) with x | x
      · exact absurd ⟨i, a, b, x⟩ h0
      · exact x
    by_cases hs : 5 ≤ s.size
    · have := tnF_full s hs (fun i hi => hall i hi (by omega))
      rw [this] at h; simp at h
    · have := tnF_end s (by omega) (fun i hi => hall i (by omega) hi)
      rw [this] at h; simp at h
where
  least {p : Nat → Prop} (h : ∃ e, p e) : ∃ e, p e ∧ ∀ i, i < e → ¬ p i := by
    obtain ⟨e, he⟩ := h
    induction e using Nat.strongRecOn with
    | ind e ih =>
      by_cases q : ∃ i, i < e ∧ p i
      · obtain ⟨i, hi, hp⟩ := q
        exact ih i hi hp
      · exact ⟨e, he, fun i hi hp => q ⟨i, hi, hp⟩⟩
  ext_both (s : ByteArray) (k : Nat) (hk : k ≤ s.size) : s.extract 0 k ++ s.extract k s.size = s := by
    rw [← ByteArray.extract_eq_extract_append_extract k (by omega) (by omega)]
    simp
theorem ttX_ok {n most : Int} {q x r : ByteArray} (h0 : 0 ≤ n) (h : ttX n q 0 most = (x, r, 0)) : n ≤ most ∧ n.toNat ≤ q.size ∧ x = q.extract 0 n.toNat ∧ r = q.extract n.toNat q.size := by
  unfold ttX at h
  rw [if_neg (by simp)] at h
  by_cases h1 : most < n
  · rw [if_pos h1] at h; simp at h
  · rw [if_neg h1] at h
    by_cases h2 : (q.size : Int) < n
    · rw [if_pos h2] at h; simp at h
    · rw [if_neg h2] at h
      simp only [Prod.mk.injEq, and_true] at h
      exact ⟨by omega, by omega, h.1.symm, h.2.symm⟩
theorem ttF_num {s x r : ByteArray} {most : Int} (h : ttF s most = (x, r, 0)) : ∃ n q, tnF s = (n, q, 0) ∧ ttX n q 0 most = (x, r, 0) := by
  obtain ⟨⟨n, q, e⟩, hq⟩ : ∃ z, tnF s = z := ⟨_, rfl⟩
  unfold ttF at h
  rw [hq] at h
  simp only at h
  by_cases he : e = 0
  · subst he; exact ⟨n, q, hq, h⟩
  · unfold ttX at h
    rw [if_pos he] at h
    simp at h
    exact absurd h.2.2 he
theorem ttF_sz (s x r : ByteArray) (most : Int) (h : ttF s most = (x, r, 0)) : x.size + r.size < s.size ∧ (x.size : Int) ≤ most ∧ (x.size ≤ 2147483647) ∧ numF (x.size : Int) ++ (x ++ r) = s := by
  obtain ⟨n, q, hq, hx⟩ := ttF_num h
  obtain ⟨a, b, c, d⟩ := tnF_sz s q n hq
  obtain ⟨e, f, rfl, rfl⟩ := ttX_ok b hx
  have z : (q.extract 0 n.toNat).size = n.toNat := by rw [ByteArray.size_extract]; omega
  have z2 : (q.extract n.toNat q.size).size = q.size - n.toNat := by rw [ByteArray.size_extract]; omega
  refine ⟨by omega, by omega, by omega, ?_⟩
  rw [z, tnF_sz.ext_both q n.toNat f, show ((n.toNat : Nat) : Int) = n by omega]
  exact d
end Go.Proofs.Yteiifcmdpoonmaa
