/- The answer package's TakeNum: the numbers. -/
import Derived.Test.YteiifcmdpoonmaaW9
namespace Go.Proofs.Yteiifcmdpoonmaa
set_option linter.unusedSimpArgs false
open Go.RowKit
set_option linter.unusedVariables false

/-- The number that digits stand for, the first one at a place, so many behind it. -/
def vf (s : ByteArray) : Nat → Nat → Int
  | 0, k => bt s k % 128
  | f + 1, k => bt s k % 128 + 128 * vf s f (k + 1)
theorem vf_lo (s : ByteArray) : ∀ f k, 0 ≤ vf s f k
  | 0, k => by simp only [vf]; omega
  | f + 1, k => by have := vf_lo s f (k + 1); simp only [vf]; omega
theorem vf_hi (s : ByteArray) : ∀ f k, vf s f k < 128 ^ (f + 1)
  | 0, k => by simp only [vf]; omega
  | f + 1, k => by have := vf_hi s f (k + 1); simp only [vf]; rw [Int.pow_succ]; omega
theorem vf_hi0 (s : ByteArray) : ∀ f k, bt s (k + f) = 0 → vf s f k < 128 ^ f
  | 0, k, h => by simp only [Nat.add_zero] at h; simp [vf, h]
  | f + 1, k, h => by
    have := vf_hi0 s f (k + 1) (by rw [← h]; congr 1; omega)
    simp only [vf]; rw [Int.pow_succ]; omega
theorem vf_big (s : ByteArray) (f : Nat) : ∀ k, 0 < bt s (k + f) → bt s (k + f) < 128 → 128 ^ f ≤ vf s f k := by
  induction f with
  | zero => intro k h h1; simp only [Nat.add_zero] at h h1; simp only [vf, Int.pow_zero]; omega
  | succ f ih =>
    intro k h h1
    have := ih (k + 1) (by rw [show k + 1 + f = k + (f + 1) by omega]; exact h) (by rw [show k + 1 + f = k + (f + 1) by omega]; exact h1)
    simp only [vf]; rw [Int.pow_succ]; omega
theorem vf_div (s : ByteArray) : ∀ j f k, j ≤ f → vf s f k / 128 ^ j = vf s (f - j) (k + j)
  | 0, f, k, h => by simp
  | j + 1, 0, k, h => by omega
  | j + 1, f + 1, k, h => by
    have e := vf_div s j f (k + 1) (by omega)
    have d : vf s (f + 1) k / 128 = vf s f (k + 1) := by simp only [vf]; omega
    rw [show (128 : Int) ^ (j + 1) = 128 * 128 ^ j by rw [Int.pow_succ]; omega, ← Int.ediv_ediv_of_nonneg (by omega), d, e]
    congr 1 <;> omega
theorem vf_mod (s : ByteArray) : ∀ f k, vf s f k % 128 = bt s k % 128
  | 0, k => by simp only [vf]; omega
  | f + 1, k => by simp only [vf]; omega

theorem tn_vf (s : ByteArray) (f : Nat) : ∀ k (m : Int), k + f < 5 → k + f < s.size → (∀ i, k ≤ i → i < k + f → 128 ≤ bt s i) → bt s (k + f) < 128 →
    tn s (5 - k) k m = if 2147483647 < m + 128 ^ k * vf s f k ∨ (bt s (k + f) = 0 ∧ 0 < k + f) then (0, ⟨#[]⟩, 3) else (m + 128 ^ k * vf s f k, s.extract (k + f + 1) s.size, 0) := by
  induction f with
  | zero =>
    intro k m h5 hs hl hb
    simp only [Nat.add_zero] at h5 hs hl hb
    have q := tn_unfold s m k h5 hs
    rw [if_pos hb] at q
    have v : vf s 0 k = bt s k % 128 := rfl
    rw [q, v, Int.mul_comm (bt s k % 128)]
    rfl
  | succ f ih =>
    intro k m h5 hs hl hb
    have e : k + 1 + f = k + (f + 1) := by omega
    have q : m + bt s k % 128 * 128 ^ k + 128 ^ (k + 1) * vf s f (k + 1) = m + 128 ^ k * vf s (f + 1) k := by
      simp only [vf]
      rw [Int.pow_succ, Int.mul_add, Int.mul_comm (bt s k % 128), Int.mul_assoc, Int.add_assoc]
    have h := ih (k + 1) (m + bt s k % 128 * 128 ^ k) (by omega) (by omega) (fun i h1 h2 => hl i (by omega) (by omega)) (by rw [e]; exact hb)
    rw [e, q] at h
    rw [tn_next s m k (by omega) (by omega) (hl k (by omega) (by omega)), h]
theorem tn_lead (s : ByteArray) : ∀ k, k ≤ 5 → k ≤ s.size → (∀ i, i < k → 128 ≤ bt s i) → ∃ m, tnF s = tn s (5 - k) k m
  | 0, _, _, _ => ⟨0, rfl⟩
  | k + 1, h5, hs, hl => by
    obtain ⟨m, e⟩ := tn_lead s k (by omega) (by omega) (fun i hi => hl i (by omega))
    exact ⟨_, e.trans (tn_next s m k (by omega) (by omega) (hl k (by omega)))⟩
theorem tnF_full (s : ByteArray) (hs : 5 ≤ s.size) (hl : ∀ i, i < 5 → 128 ≤ bt s i) : tnF s = (0, ⟨#[]⟩, 3) := by
  obtain ⟨m, e⟩ := tn_lead s 5 (by omega) hs hl
  rw [e]; rfl
theorem tnF_end (s : ByteArray) (h : s.size < 5) (hl : ∀ i, i < s.size → 128 ≤ bt s i) : tnF s = (0, ⟨#[]⟩, 5) := by
  obtain ⟨m, e⟩ := tn_lead s s.size (by omega) (Nat.le_refl _) hl
  rw [e]; exact tn_end s m _ _ h (Nat.le_refl _)
theorem tnF_vf (s : ByteArray) (e : Nat) (h5 : e < 5) (hs : e < s.size) (hl : ∀ i, i < e → 128 ≤ bt s i) (hb : bt s e < 128) :
    tnF s = if 2147483647 < vf s e 0 ∨ (bt s e = 0 ∧ 0 < e) then (0, ⟨#[]⟩, 3) else (vf s e 0, s.extract (e + 1) s.size, 0) := by
  have h := tn_vf s e 0 0 (by omega) (by omega) (fun i _ h => hl i (by omega)) (by simpa using hb)
  simp only [Int.pow_zero, Int.one_mul, Int.zero_add, Nat.zero_add, Nat.sub_zero] at h
  exact h

theorem numI_small (V : Int) (e : Nat) (h : V < 128 ^ e) (he : 0 < e) (h5 : e < 5) : numI V < e := by
  unfold numI
  rcases (by omega : e = 1 ∨ e = 2 ∨ e = 3 ∨ e = 4) with rfl | rfl | rfl | rfl
  all_goals
    simp only [Int.reducePow] at h
    repeat' split
    all_goals omega
theorem numI_just (V : Int) (e : Nat) (h1 : V < 128 ^ (e + 1)) (h5 : e < 5) (h : e = 0 ∨ 128 ^ e ≤ V) : numI V = e := by
  unfold numI
  rcases (by omega : e = 0 ∨ e = 1 ∨ e = 2 ∨ e = 3 ∨ e = 4) with rfl | rfl | rfl | rfl | rfl
  all_goals
    simp only [Int.reducePow, Nat.reduceAdd] at h h1
    repeat' split
    all_goals omega

theorem num_back (s : ByteArray) (e : Nat) (h5 : e < 5) (hs : e < s.size) (hl : ∀ i, i < e → 128 ≤ bt s i) (hb : bt s e < 128)
    (h : ¬ (2147483647 < vf s e 0 ∨ (bt s e = 0 ∧ 0 < e))) : numF (vf s e 0) = s.extract 0 (e + 1) := by
  have b0 := bt_lo s e
  have v0 := vf_lo s e 0
  have hI : numI (vf s e 0) = e := by
    refine numI_just _ e (vf_hi s e 0) h5 ?_
    by_cases z : e = 0
    · exact .inl z
    · exact .inr (vf_big s e 0 (by simp only [Nat.zero_add]; omega) (by simpa using hb))
  rw [numF, if_pos ⟨v0, by omega⟩, hI]
  apply ByteArray.ext
  apply Array.ext
  · have := numS_size (vf s e 0) e
    have z : (s.extract 0 (e + 1)).size = e + 1 := by simp [ByteArray.size_extract]; omega
    exact this.trans z.symm
  · intro j h1 h2
    have hj : j < e + 1 := by have := numS_size (vf s e 0) e; simp only [ByteArray.size] at this; omega
    have hjs : j < s.size := by omega
    have g := bt_get s j hjs
    have r : (s.extract 0 (e + 1)).data[j] = s[j] := by
      simp [ByteArray.data_extract, Array.getElem_extract]; rfl
    rw [r]
    apply UInt8.toNat_inj.1
    have d := vf_div s j e 0 (by omega)
    simp only [Nat.zero_add] at d
    have c0 := bt_lo s j
    have c1 := bt_hi s j
    by_cases q : j < e
    · have l : (numS (vf s e 0) e).data[j] = ndb (vf s e 0) j := by
        simp only [numS, List.getElem_toArray]
        rw [List.getElem_append_left (by simpa using q)]
        simp
      rw [l]
      have n1 := ndb_nat (vf s e 0) j
      have m := vf_mod s (e - j) j
      have := hl j q
      simp only [nd, d, m] at n1
      omega
    · obtain rfl : j = e := by omega
      have l : (numS (vf s j 0) j).data[j] = UInt8.ofNat (vf s j 0 / 128 ^ j).toNat := by
        simp only [numS, List.getElem_toArray]
        rw [List.getElem_append_right (by simp)]
        simp
      rw [l, d, UInt8.toNat_ofNat']
      simp only [Nat.sub_self, vf]
      omega
theorem num_nots (s : ByteArray) (e : Nat) (h5 : e < 5) (hs : e < s.size)
    (h : 2147483647 < vf s e 0 ∨ (bt s e = 0 ∧ 0 < e)) : numF (vf s e 0) ≠ s.extract 0 (e + 1) := by
  intro c
  have z : (s.extract 0 (e + 1)).size = e + 1 := by simp [ByteArray.size_extract]; omega
  have v0 := vf_lo s e 0
  rw [← c] at z
  unfold numF at z
  split at z
  · rename_i q
    rw [numS_size] at z
    have h2 : bt s e = 0 ∧ 0 < e := by omega
    have := numI_small (vf s e 0) e (vf_hi0 s e 0 (by simpa using h2.1)) h2.2 h5
    omega
  · have : (0 : Nat) = e + 1 := z
    omega
end Go.Proofs.Yteiifcmdpoonmaa
