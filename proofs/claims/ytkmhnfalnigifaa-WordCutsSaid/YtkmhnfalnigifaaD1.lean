/- Texts that are cut off: the numbers. -/
import Derived.Test.YtkmhnfalnigifaaC8
namespace Go.Proofs.Ytkmhnfalnigifaa
set_option linter.unusedSimpArgs false
open Go.RowKit
set_option linter.unusedVariables false

theorem cat_cut (l : List ByteArray) : ∀ k, k < (cat l).length → ∃ p k', ∃ h : p < l.length, k' < (textF l[p]).size ∧ (cat l).take k = cat (l.take p) ++ ((textF l[p]).data.toList).take k' := by
  induction l with
  | nil => intro k h; simp [cat] at h
  | cons x l ih =>
    intro k h
    have hc : cat (x :: l) = (textF x).data.toList ++ cat l := rfl
    have hx : (textF x).data.toList.length = (textF x).size := rfl
    by_cases q : k < (textF x).size
    · exact ⟨0, k, by simp, q, by rw [hc, List.take_append_of_le_length (by omega)]; simp [cat]⟩
    · rw [hc, List.length_append, hx] at h
      obtain ⟨p, k', hp, hk, e⟩ := ih (k - (textF x).size) (by omega)
      refine ⟨p + 1, k', by simpa using hp, by simpa using hk, ?_⟩
      rw [hc, List.take_append, hx, e, List.take_of_length_le (by omega)]
      simp [cat]
theorem bytes_take (l : List UInt8) (k : Nat) : ((⟨l.toArray⟩ : ByteArray).extract 0 k) = ⟨(l.take k).toArray⟩ := by
  apply ByteArray.ext
  apply Array.ext'
  rw [ByteArray.data_extract]
  simp [List.extract_eq_take_drop]
theorem ttF_cut (x : ByteArray) (k : Nat) (most : Int) (hm : (x.size : Int) ≤ most) (h2 : x.size ≤ 2147483647) (hk : k < (textF x).size) :
    ttF (⟨((textF x).data.toList.take k).toArray⟩) most = (⟨#[]⟩, ⟨#[]⟩, 5) := by
  have e : textF x = numF (x.size : Int) ++ x := by unfold textF; rw [if_neg (by omega)]
  have en : numF (x.size : Int) = numS (x.size : Int) (numI (x.size : Int)) := by rw [numF, if_pos ⟨by omega, by omega⟩]
  have hI := numI_le (x.size : Int)
  have hz := numS_size (x.size : Int) (numI (x.size : Int))
  obtain ⟨i, hi⟩ : ∃ i, i = numI (x.size : Int) := ⟨_, rfl⟩
  rw [← hi] at en hI hz
  have hs : (textF x).size = i + 1 + x.size := by rw [e, en, ByteArray.size_append, hz]
  have hl : (textF x).data.toList.length = i + 1 + x.size := hs
  by_cases q : k ≤ i
  · have sz : (⟨((textF x).data.toList.take k).toArray⟩ : ByteArray).size = k := by
      show ((textF x).data.toList.take k).toArray.size = k
      simp
      omega
    have hb : ∀ j, j < k → bt (⟨((textF x).data.toList.take k).toArray⟩) j = nd (x.size : Int) j := by
      intro j hj
      have h1 : bt (⟨((textF x).data.toList.take k).toArray⟩) j = bt (textF x) j := by
        have hk2 : ¬ k ≤ j := by omega
        unfold bt
        simp [Array.getD_eq_getD_getElem?, List.getElem?_take, hj, hk2]
      rw [h1, e, en, bt_app _ _ _ (by omega), bt_numS _ _ _ (by omega)]
    have := tnF_end (⟨((textF x).data.toList.take k).toArray⟩) (by omega) (fun j hj => by rw [hb j (by omega)]; exact (nd_rng _ _).1)
    unfold ttF
    rw [this]
    simp [ttX]
  · have hx : (⟨((textF x).data.toList.take k).toArray⟩ : ByteArray) = numF (x.size : Int) ++ ⟨(x.data.toList.take (k - (i + 1))).toArray⟩ := by
      apply ByteArray.ext
      apply Array.ext'
      have h3 : (numF (x.size : Int)).data.toList.length = i + 1 := by rw [en]; exact hz
      rw [ByteArray.data_append, Array.toList_append]
      have h4 : (textF x).data.toList = (numF (x.size : Int)).data.toList ++ x.data.toList := by rw [e, ByteArray.data_append, Array.toList_append]
      show ((textF x).data.toList.take k) = _
      rw [h4, List.take_append, h3, List.take_of_length_le (by omega)]
    have sz : (⟨(x.data.toList.take (k - (i + 1))).toArray⟩ : ByteArray).size = k - (i + 1) := by
      show (x.data.toList.take (k - (i + 1))).toArray.size = _
      have : x.data.toList.length = x.size := rfl
      simp
      have h5 : x.data.size = x.size := rfl
      omega
    unfold ttF
    rw [hx, tnF_back _ _ (by omega) (by omega)]
    simp only [ttX]
    rw [if_neg (by simp), if_neg (by omega), if_pos (by rw [sz]; omega)]
theorem st_cut (l : List ByteArray) (k : Nat) (most : Int) (hm : most ≤ 2147483647) (h : ∀ s ∈ l, (s.size : Int) ≤ most) (hk : k < (cat l).length) :
    st ((⟨(cat l).toArray⟩ : ByteArray).extract 0 k) most l.length = ([], ⟨#[]⟩, 5) := by
  obtain ⟨p, k', hp, hk', e⟩ := cat_cut l k hk
  have hx := h l[p] (List.getElem_mem hp)
  rw [bytes_take, e]
  have e2 : (⟨(cat (l.take p) ++ (textF l[p]).data.toList.take k').toArray⟩ : ByteArray) = ⟨(cat (l.take p)).toArray⟩ ++ ⟨((textF l[p]).data.toList.take k').toArray⟩ := by
    apply ByteArray.ext
    apply Array.ext'
    simp
  rw [e2]
  have a := st_all (l.take p) ⟨((textF l[p]).data.toList.take k').toArray⟩ most hm (fun s hs => h s (List.mem_of_mem_take hs))
  have hlp : (l.take p).length = p := by simp; omega
  rw [hlp] at a
  exact st_err _ most p l.length a (ttF_cut l[p] k' most hx (by omega) hk') (by omega) hp
theorem cat_pos (l : List ByteArray) (h : ∀ s ∈ l, s.size ≤ 2147483647) (hl : l ≠ []) : 0 < (cat l).length := by
  cases l with
  | nil => exact absurd rfl hl
  | cons x l =>
    have : (cat (x :: l)).length = (textF x).size + (cat l).length := by simp [cat]
    have hx := h x (List.mem_cons_self ..)
    have e : textF x = numF (x.size : Int) ++ x := by unfold textF; rw [if_neg (by omega)]
    have en : (numF (x.size : Int)).size = numI (x.size : Int) + 1 := by rw [numF, if_pos ⟨by omega, by omega⟩, numS_size]
    rw [this, e, ByteArray.size_append, en]
    omega
end Go.Proofs.Ytkmhnfalnigifaa
