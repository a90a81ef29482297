/- Numbers and texts come back: the numbers. -/
import Derived.Test.YteiifcmdpoonmaaX5
import Derived.Test.YteiifcmdpoonmaaX2
namespace Go.Proofs.Yteiifcmdpoonmaa
set_option linter.unusedSimpArgs false
open Go.RowKit
set_option linter.unusedVariables false

theorem bt_app (a b : ByteArray) (j : Nat) (h : j < a.size) : bt (a ++ b) j = bt a j := by
  have h1 : j < (a ++ b).size := by rw [ByteArray.size_append]; omega
  rw [← bt_get _ _ h1, ← bt_get _ _ h, ByteArray.getElem_append_left h]
theorem bt_numS (n : Int) (i j : Nat) (h : j < i) : bt (numS n i) j = nd n j := by
  have hs : j < (numS n i).size := by rw [numS_size]; omega
  have e : (numS n i)[j] = ndb n j := by
    show (numS n i).data[j] = _
    simp only [numS, List.getElem_toArray]
    rw [List.getElem_append_left (by simpa using h)]
    simp
  rw [← bt_get _ _ hs, e, ndb_nat]
theorem bt_numS_last (n : Int) (i : Nat) (h0 : 0 ≤ n / 128 ^ i) (h1 : n / 128 ^ i < 256) : bt (numS n i) i = n / 128 ^ i := by
  have hs : i < (numS n i).size := by rw [numS_size]; omega
  have e : (numS n i)[i] = UInt8.ofNat (n / 128 ^ i).toNat := by
    show (numS n i).data[i] = _
    simp only [numS, List.getElem_toArray]
    rw [List.getElem_append_right (by simp)]
    simp
  rw [← bt_get _ _ hs, e, UInt8.toNat_ofNat']
  omega
theorem numI_top (n : Int) (h0 : 0 ≤ n) (h1 : n ≤ 2147483647) : 0 ≤ n / 128 ^ numI n ∧ n / 128 ^ numI n < 128 ∧ (0 < numI n → 1 ≤ n / 128 ^ numI n) := by
  unfold numI
  repeat' split
  all_goals
    simp only [Int.reducePow]
    omega
theorem pow_step (n : Int) (k : Nat) : n / 128 ^ k / 128 = n / 128 ^ (k + 1) := by
  rw [Int.ediv_ediv_of_nonneg (by
    have : (0 : Int) ≤ 128 ^ k := by
      induction k with
      | zero => decide
      | succ k ih => rw [Int.pow_succ]; omega
    exact this), Int.pow_succ]
theorem vf_numS (n : Int) (rest : ByteArray) (i : Nat) (h0 : 0 ≤ n / 128 ^ i) (h1 : n / 128 ^ i < 128) : ∀ f k, k + f = i → vf (numS n i ++ rest) f k = n / 128 ^ k
  | 0, k, h => by
    obtain rfl : k = i := by omega
    simp only [vf]
    rw [bt_app _ _ _ (by rw [numS_size]; omega), bt_numS_last n k h0 (by omega)]
    omega
  | f + 1, k, h => by
    have ih := vf_numS n rest i h0 h1 f (k + 1) (by omega)
    simp only [vf]
    rw [ih, bt_app _ _ _ (by rw [numS_size]; omega), bt_numS n i k (by omega), ← pow_step]
    simp only [nd]
    omega
theorem tnF_back (n : Int) (rest : ByteArray) (h0 : 0 ≤ n) (h1 : n ≤ 2147483647) : tnF (numF n ++ rest) = (n, rest, 0) := by
  obtain ⟨t0, t1, t2⟩ := numI_top n h0 h1
  have hI := numI_le n
  have e : numF n = numS n (numI n) := by rw [numF, if_pos ⟨h0, h1⟩]
  rw [e]
  obtain ⟨i, hi⟩ : ∃ i, i = numI n := ⟨_, rfl⟩
  rw [← hi] at t0 t1 t2 hI ⊢
  have hz : (numS n i ++ rest).size = i + 1 + rest.size := by rw [ByteArray.size_append, numS_size]
  have v := vf_numS n rest i t0 t1 i 0 (by omega)
  rw [Int.pow_zero, Int.ediv_one] at v
  have bl : bt (numS n i ++ rest) i = n / 128 ^ i := by rw [bt_app _ _ _ (by rw [numS_size]; omega), bt_numS_last n i t0 (by omega)]
  have h := tnF_vf (numS n i ++ rest) i (by omega) (by omega) (fun j hj => by
    rw [bt_app _ _ _ (by rw [numS_size]; omega), bt_numS n i j hj]; exact (nd_rng n j).1) (by rw [bl]; omega)
  rw [v, bl, if_neg (by omega)] at h
  rw [h]
  congr 2
  apply ByteArray.ext
  rw [ByteArray.data_extract, ByteArray.data_append]
  have z : (numS n i).data.size = i + 1 := numS_size n i
  rw [hz]
  apply Array.ext'
  simp only [Array.toList_extract, Array.toList_append, List.extract_eq_take_drop]
  rw [List.drop_append_of_le_length (by simp [z])]
  rw [List.drop_of_length_le (by simp [z])]
  simp only [List.nil_append]
  rw [List.take_of_length_le]
  have : rest.data.toList.length = rest.size := rfl
  rw [this]; omega

theorem app_assoc (a b c : ByteArray) : a ++ b ++ c = a ++ (b ++ c) := by
  apply ByteArray.ext; simp [Array.append_assoc]
theorem ext_left (a b : ByteArray) : (a ++ b).extract 0 a.size = a := by
  apply ByteArray.ext
  apply Array.ext'
  have : a.data.toList.length = a.size := rfl
  rw [ByteArray.data_extract, ByteArray.data_append]
  simp only [Array.toList_extract, Array.toList_append, List.extract_eq_take_drop, List.drop_zero, Nat.sub_zero]
  rw [List.take_append_of_le_length (by omega), List.take_of_length_le (by omega)]
theorem ext_right (a b : ByteArray) : (a ++ b).extract a.size (a ++ b).size = b := by
  apply ByteArray.ext
  apply Array.ext'
  have : a.data.toList.length = a.size := rfl
  have h2 : b.data.toList.length = b.size := rfl
  rw [ByteArray.data_extract, ByteArray.data_append, ByteArray.size_append]
  simp only [Array.toList_extract, Array.toList_append, List.extract_eq_take_drop]
  rw [List.drop_append_of_le_length (by omega), List.drop_of_length_le (by omega), List.nil_append, List.take_of_length_le (by omega)]
theorem ttF_back (s rest : ByteArray) (most : Int) (h : (s.size : Int) ≤ most) (h2 : s.size ≤ 2147483647) : ttF (textF s ++ rest) most = (s, rest, 0) := by
  unfold ttF textF
  rw [if_neg (by omega), app_assoc, tnF_back _ _ (by omega) (by omega)]
  simp only [ttX]
  rw [if_neg (by simp), if_neg (by omega), if_neg (by rw [ByteArray.size_append]; omega)]
  simp only [Int.toNat_natCast]
  rw [ext_left, ext_right]
end Go.Proofs.Yteiifcmdpoonmaa
