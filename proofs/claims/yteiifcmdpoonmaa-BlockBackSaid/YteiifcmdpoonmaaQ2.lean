/- What is packed is unpacked as it was, and what is unpacked has just those bytes. -/
import Derived.Test.YteiifcmdpoonmaaQ1
import Derived.Test.YteiifcmdpoonmaaP9
namespace Go.Proofs.Yteiifcmdpoonmaa
set_option linter.unusedSimpArgs false
open Go.RowKit Go.Maps Go.Shelf
set_option linter.unusedVariables false
theorem shN_app : ∀ (x y : List UInt8), shN x y ≤ x.length
  | [], _ => by simp [shN]
  | a :: x, [] => by simp [shN]
  | a :: x, b :: y => by
    rw [shN]; split
    · have := shN_app x y; simp; omega
    · simp
theorem shN_take : ∀ (x y : List UInt8), x.take (shN x y) = y.take (shN x y)
  | [], y => by simp [shN]
  | a :: x, [] => by simp [shN]
  | a :: x, b :: y => by
    rw [shN]; split
    · rename_i h; subst h; simp [shN_take x y]
    · simp
theorem shB_le0 (a b : ByteArray) : shB a b ≤ a.size := by
  have := shN_app a.toList b.toList
  rw [len_eq] at this; exact this
theorem ext_list (a : ByteArray) (i j : Nat) : (a.extract i j).data.toList = (a.data.toList.take j).drop i := by
  simp [ByteArray.data_extract, Array.toList_extract, List.extract_eq_take_drop, List.drop_take]
theorem shB_pre2 (a b : ByteArray) : a.extract 0 (shB a b) = b.extract 0 (shB a b) := by
  apply ByteArray.ext
  apply Array.ext'
  rw [ext_list, ext_list]
  have := shN_take a.toList b.toList
  rw [toList_eq, toList_eq] at this
  unfold shB
  rw [toList_eq, toList_eq]
  simp [this]
theorem shB_back (a b : ByteArray) : a.extract 0 (shB a b) ++ b.extract (shB a b) b.size = b := by
  rw [shB_pre2, tnF_sz.ext_both b (shB a b) (shB_le a b)]
theorem ba_of (l : List UInt8) : (⟨l.toArray⟩ : ByteArray).data.toList = l := by simp
theorem mk_data (a : ByteArray) (l : List UInt8) : (⟨(a.data.toList ++ l).toArray⟩ : ByteArray) = a ++ ⟨l.toArray⟩ := by
  apply ByteArray.ext; simp
/-- The bytes of an entry. -/
theorem pkE_bytes (a : ByteArray) (x : TT) (l : List UInt8) : (⟨(pkE a x ++ l).toArray⟩ : ByteArray) = numF (shB a x.1) ++ (textF (x.1.extract (shB a x.1) x.1.size) ++ (textF x.2 ++ ⟨l.toArray⟩)) := by
  unfold pkE cat
  apply ByteArray.ext; simp
theorem textF_num (s : ByteArray) (h : s.size ≤ 2147483647) : textF s = numF (s.size : Int) ++ s := by
  unfold textF; rw [if_neg (by omega)]
theorem lt_shN : ∀ (x y : List UInt8), Op.bytesLess x y = true → True := fun _ _ _ => trivial
theorem un_back : ∀ (ys : List TT) (l : List TT), ris (l ++ ys) → (∀ x ∈ ys, x.1.size ≤ 256 ∧ x.2.size ≤ 4096) → Un ys.length l ⟨(pkL (lastK ⟨#[]⟩ l) ys).toArray⟩ (.ok (l ++ ys))
  | [], l, _, _ => by
    have := Un.done l
    rw [List.append_nil]; exact this
  | x :: ys, l, hr, hz => by
    have hx := hz x (List.mem_cons_self ..)
    have hl : lastK ⟨#[]⟩ (l ++ [x]) = x.1 := lastK_snoc _ _ _
    have ih := un_back ys (l ++ [x]) (by rw [List.append_assoc]; exact hr) (fun y hy => hz y (List.mem_cons_of_mem _ hy))
    rw [hl, List.append_assoc] at ih
    obtain ⟨a, ha⟩ : ∃ a, a = lastK ⟨#[]⟩ l := ⟨_, rfl⟩
    have hpk : pkL a (x :: ys) = pkE a x ++ pkL x.1 ys := rfl
    rw [← ha, hpk, pkE_bytes]
    have s0 := shB_le a x.1
    have s1 := shB_le0 a x.1
    have hb := shB_back a x.1
    have z : (x.1.extract (shB a x.1) x.1.size).size ≤ x.1.size := by rw [ByteArray.size_extract]; omega
    refine .step _ _ _ ⟨(pkL x.1 ys).toArray⟩ x _ ?_ ih
    have q := En.ok (l := l) (s := numF (shB a x.1) ++ (textF (x.1.extract (shB a x.1) x.1.size) ++ (textF x.2 ++ ⟨(pkL x.1 ys).toArray⟩))) (shB a x.1) (textF (x.1.extract (shB a x.1) x.1.size) ++ (textF x.2 ++ ⟨(pkL x.1 ys).toArray⟩)) (x.1.extract (shB a x.1) x.1.size) (textF x.2 ++ ⟨(pkL x.1 ys).toArray⟩) x.2 ⟨(pkL x.1 ys).toArray⟩
      (tnF_back _ _ (by omega) (by omega)) (by rw [← ha]; exact s1) (ttF_back _ _ 256 (by omega) (by omega)) (by
        rw [← ha, hb]
        by_cases h : l = []
        · exact .inl h
        · refine .inr ⟨?_, rfl⟩
          obtain ⟨l', y, rfl⟩ : ∃ l' y, l = l' ++ [y] := ⟨_, _, (List.dropLast_concat_getLast h).symm⟩
          rw [lastK_snoc] at ha
          rw [ha]
          exact hr l'.length y x (by simp) (by simp)) (ttF_back _ _ 4096 (by omega) (by omega))
    rw [← ha, hb] at q
    exact q
theorem up_back (xs : List TT) (hr : ris xs) (hz : ∀ x ∈ xs, x.1.size ≤ 256 ∧ x.2.size ≤ 4096) (hn : xs.length ≤ 2147483647) : Up ⟨(pkB xs).toArray⟩ (.ok xs) := by
  unfold pkB
  rw [mk_data]
  have := un_back xs [] hr hz
  exact .some xs.length _ _ (tnF_back _ _ (by omega) (by omega)) this
/-- What was read rises, and its bytes are those. -/
theorem en_bytes {l : List TT} {s r : ByteArray} {x : TT} (h : En l s (.ok (x, r))) : s = ⟨(pkE (lastK ⟨#[]⟩ l) x ++ r.data.toList).toArray⟩ ∧ (l = [] ∨ Op.bytesLess (lastK ⟨#[]⟩ l).toList x.1.toList = true) := by
  generalize ha : lastK ⟨#[]⟩ l = a at *
  cases h with
  | ok n r1 t r2 v _ h1 h2 h3 h4 h5 =>
    rw [ha] at h2 h4
    rw [ha, pkE_bytes]
    have a1 := (tnF_sz _ _ _ h1).2.2.2
    obtain ⟨_, _, c1, c2⟩ := ttF_sz _ _ _ _ h3
    obtain ⟨_, _, d1, d2⟩ := ttF_sz _ _ _ _ h5
    have hsh : shB a (a.extract 0 n ++ t) = n := by
      rcases h4 with h4 | h4
      · subst h4
        have e0 : a = ⟨#[]⟩ := ha.symm
        subst e0
        rw [sh_nil]
        have : (⟨#[]⟩ : ByteArray).size = 0 := rfl
        omega
      · exact h4.2
    have hpz : (a.extract 0 n).size = n := by rw [ByteArray.size_extract]; omega
    have hex : (a.extract 0 n ++ t).extract n (a.extract 0 n ++ t).size = t := by
      have := ext_right (a.extract 0 n) t
      rw [hpz] at this; exact this
    refine ⟨?_, ?_⟩
    · simp only [hsh, hex, textF_num _ c1, textF_num _ d1]
      have e1 : (⟨r.data.toList.toArray⟩ : ByteArray) = r := by apply ByteArray.ext; simp
      rw [e1, app_assoc, app_assoc, d2, c2, a1]
    · rcases h4 with h4 | h4
      · exact .inl h4
      · exact .inr h4.1
theorem ris_snoc {l : List TT} {x : TT} (h : ris l) (hx : l = [] ∨ Op.bytesLess (lastK ⟨#[]⟩ l).toList x.1.toList = true) : ris (l ++ [x]) := by
  rcases hx with rfl | hx
  · intro i y z hy hz
    have := (List.getElem?_eq_some_iff.1 hz).1
    simp at this
  · by_cases h0 : l = []
    · subst h0
      intro i y z hy hz
      have := (List.getElem?_eq_some_iff.1 hz).1
      simp at this
    · obtain ⟨l', y0, rfl⟩ : ∃ l' y, l = l' ++ [y] := ⟨_, _, (List.dropLast_concat_getLast h0).symm⟩
      rw [lastK_snoc] at hx
      intro i y z hy hz
      have hlt := (List.getElem?_eq_some_iff.1 hz).1
      simp at hlt
      by_cases hi : i + 1 < (l' ++ [y0]).length
      · rw [List.getElem?_append_left (by simp at hi ⊢; omega)] at hy
        rw [List.getElem?_append_left hi] at hz
        exact h i y z hy hz
      · have hi2 : i = l'.length := by simp at hi; omega
        subst hi2
        simp at hy hz
        subst hy hz
        exact hx
theorem un_bytes {n : Nat} {l : List TT} {s : ByteArray} {y : Except Int (List TT)} (h : Un n l s y) : ∀ z, y = .ok z → ris l → ∃ ys, z = l ++ ys ∧ ys.length = n ∧ ris z ∧ s = ⟨(pkL (lastK ⟨#[]⟩ l) ys).toArray⟩ := by
  induction h with
  | done l => intro z hz hr; cases hz; exact ⟨[], by simp, rfl, hr, rfl⟩
  | rest l s hs => intro z hz; cases hz
  | err n l s e hE => intro z hz; cases hz
  | step n l s r x y hE hU ih =>
    intro z hz hr
    obtain ⟨e1, e2⟩ := en_bytes hE
    obtain ⟨ys, f1, f2, f3, f4⟩ := ih z hz (ris_snoc hr e2)
    rw [lastK_snoc] at f4
    refine ⟨x :: ys, by rw [f1]; simp, by simp [f2], f3, ?_⟩
    rw [e1, f4]
    have hpk : pkL (lastK ⟨#[]⟩ l) (x :: ys) = pkE (lastK ⟨#[]⟩ l) x ++ pkL x.1 ys := rfl
    rw [hpk]
theorem up_bytes {s : ByteArray} {z : List TT} (h : Up s (.ok z)) : pkF z = s ∧ ris z := by
  cases h with
  | some m r _ h1 h2 =>
    obtain ⟨ys, f1, f2, f3, f4⟩ := un_bytes h2 z rfl (by intro i x y hx; simp at hx)
    simp at f1
    subst f1
    have a1 := (tnF_sz _ _ _ h1).2.2.2
    refine ⟨?_, f3⟩
    unfold pkF pkB
    rw [if_pos f3, mk_data, f2, ← a1, f4]
    rfl
theorem un_small {n : Nat} {l : List TT} {s : ByteArray} {y : Except Int (List TT)} (h : Un n l s y) : ∀ z, y = .ok z → z.length ≤ l.length + s.size ∧ ((∀ x ∈ l, x.1.size ≤ 1000000 ∧ x.2.size ≤ 4096) → ((lastK ⟨#[]⟩ l).size + s.size ≤ 1000000) → ∀ x ∈ z, x.1.size ≤ 1000000 ∧ x.2.size ≤ 4096) := by
  induction h with
  | done l => intro z hz; cases hz; exact ⟨by simp, fun h _ => h⟩
  | rest l s hs => intro z hz; cases hz
  | err n l s e hE => intro z hz; cases hz
  | step n l s r x y hE hU ih =>
    intro z hz
    obtain ⟨f1, f2⟩ := ih z hz
    have g := en_size hE
    have g2 : x.2.size ≤ 4096 := by
      cases hE with
      | ok n r1 t r2 v _ h1 h2 h3 h4 h5 =>
        have := (ttF_sz _ _ _ _ h5).2.1
        simp only; omega
    refine ⟨by simp at f1; omega, fun h1 h2 => f2 ?_ ?_⟩
    · intro u hu
      rcases List.mem_append.1 hu with hu | hu
      · exact h1 u hu
      · simp at hu; subst hu; exact ⟨by omega, g2⟩
    · rw [lastK_snoc]; omega
theorem up_small {s : ByteArray} {z : List TT} (h : Up s (.ok z)) (hs : s.size ≤ 1000000) : z.length ≤ s.size ∧ ∀ x ∈ z, x.1.size ≤ 1000000 ∧ x.2.size ≤ 1000000 := by
  cases h with
  | some m r _ h1 h2 =>
    have a1 := (tnF_sz _ _ _ h1).1
    obtain ⟨f1, f2⟩ := un_small h2 z rfl
    refine ⟨by simp at f1; omega, fun x hx => ?_⟩
    have := f2 (by simp) (by simp only [lastK]; show 0 + r.size ≤ 1000000; omega) x hx
    exact ⟨this.1, by omega⟩
end Go.Proofs.Yteiifcmdpoonmaa
