/- What a cursor was told: it rises, and lies in the range. -/
import Derived.Test.YtdbcaiggliiacaaC6
namespace Go.Proofs.Ytdbcaiggliiacaa
set_option linter.unusedSimpArgs false
set_option linter.unusedVariables false
theorem lt_irr (a : ByteArray) : lt a a = false := bl_irr _
theorem lt_trans {a b c : ByteArray} (h : lt a b = true) (k : lt b c = true) : lt a c = true := bl_trans _ _ _ h k
theorem lt_le_trans {a b c : ByteArray} (h : lt a b = true) (k : lt c b = false) : lt a c = true := by
  rcases bl_tri b.toList c.toList with q | q | q
  · exact lt_trans h q
  · unfold lt at *; rw [← q]; exact h
  · unfold lt at k; rw [q] at k; cases k
theorem le_lt_trans {a b c : ByteArray} (h : lt b a = false) (k : lt b c = true) : lt a c = true := by
  rcases bl_tri a.toList b.toList with q | q | q
  · exact lt_trans q k
  · unfold lt at *; rw [q]; exact k
  · unfold lt at h; rw [q] at h; cases h
theorem le_of_lt {a b : ByteArray} (h : lt a b = true) : lt b a = false := bl_asymm _ _ h
theorem le_trans {a b c : ByteArray} (h : lt b a = false) (k : lt c b = false) : lt c a = false := by
  cases e : lt c a with
  | false => rfl
  | true => rw [lt_le_trans e h] at k; cases k
theorem bl_snoc0 : ∀ x : List UInt8, Op.bytesLess x (x ++ [0]) = true
  | [] => rfl
  | a :: x => by simp [Op.bytesLess, bl_snoc0 x]
theorem A0_toList (s : ByteArray) : (A0 s).toList = s.toList ++ [0] := by
  rw [ByteArray.toList_eq, ByteArray.toList_eq]
  simp [A0, ByteArray.data_append]
theorem lt_A0 (s : ByteArray) : lt s (A0 s) = true := by unfold lt; rw [A0_toList]; exact bl_snoc0 _
def PW (xs : List TT) : Prop := xs.Pairwise fun x y => lt x.1 y.1 = true
theorem ris_pw {xs : List TT} (h : ris xs) : PW xs := by
  unfold PW
  rw [List.pairwise_iff_getElem]
  intro i j hi hj hij
  obtain ⟨d, rfl⟩ : ∃ d, j = i + 1 + d := ⟨j - (i + 1), by omega⟩
  clear hij
  induction d with
  | zero => exact h i _ _ (List.getElem?_eq_getElem hi) (List.getElem?_eq_getElem hj)
  | succ d ih =>
    exact lt_trans (ih (by omega)) (h (i + 1 + d) _ _ (List.getElem?_eq_getElem (by omega)) (List.getElem?_eq_getElem hj))
theorem pw_ris {xs : List TT} (h : PW xs) : ris xs := by
  intro i x y hx hy
  unfold PW at h
  rw [List.pairwise_iff_getElem] at h
  obtain ⟨h1, rfl⟩ := List.getElem?_eq_some_iff.1 hx
  obtain ⟨h2, rfl⟩ := List.getElem?_eq_some_iff.1 hy
  exact h i (i + 1) h1 h2 (by omega)
theorem pw_last {l : List TT} (h : PW l) {x : TT} (hx : x ∈ l) : lt (lastE l) x.1 = false := by
  obtain ⟨l', y, rfl⟩ : ∃ l' y, l = l' ++ [y] := ⟨_, _, (List.dropLast_concat_getLast (by rintro rfl; simp at hx)).symm⟩
  have e : lastE (l' ++ [y]) = y.1 := by simp [lastE]
  rw [e]
  unfold PW at h
  rw [List.pairwise_append] at h
  rcases List.mem_append.1 hx with q | q
  · exact le_of_lt (h.2.2 x q y (by simp))
  · simp at q; subst q; exact lt_irr _
theorem lastE_mem {l : List TT} (h : 0 < l.length) : ∃ x ∈ l, lastE l = x.1 := by
  obtain ⟨l', y, rfl⟩ : ∃ l' y, l = l' ++ [y] := ⟨_, _, (List.dropLast_concat_getLast (by rintro rfl; simp at h)).symm⟩
  exact ⟨y, by simp, by simp [lastE]⟩
/-- What was told so far, while the cursor has still to tell c. -/
def TI (f t : ByteArray) (c : Cur) (xs : List TT) : Prop := PW xs ∧ okl f t xs ∧ (c.2.2 = false → c.2.1 = t ∧ lt c.1 f = false ∧ ∀ x ∈ xs, lt x.1 c.1 = true)
theorem TI.start (f t : ByteArray) : TI f t (f, t, false) [] := ⟨List.Pairwise.nil, by intro x hx; simp at hx, fun _ => ⟨rfl, lt_irr _, by intro x hx; simp at hx⟩⟩
theorem has_lo {f t s : ByteArray} (h : has f t s = true) : lt s f = false := by
  unfold has at h; simp at h; exact h.1
theorem has_of {f t s : ByteArray} (h : has f t s = true) {g : ByteArray} (hg : lt s g = false) : has g t s = true := by
  unfold has at h ⊢; simp at h ⊢; exact ⟨hg, h.2⟩
theorem TI.both {f t : ByteArray} {c : Cur} {xs l : List TT} (h : TI f t c xs) (he : c.2.2 = false ∨ l.length = 0) (h1 : ris l) (h2 : okl c.1 c.2.1 l) : PW (xs ++ l) ∧ okl f t (xs ++ l) := by
  obtain ⟨a1, a2, a3⟩ := h
  rcases he with he | he
  · obtain ⟨rfl, b2, b3⟩ := a3 he
    refine ⟨List.pairwise_append.2 ⟨a1, ris_pw h1, fun x hx y hy => ?_⟩, fun x hx => ?_⟩
    · exact lt_le_trans (b3 x hx) (has_lo (h2 y hy))
    · rcases List.mem_append.1 hx with q | q
      · exact a2 x q
      · exact has_of (h2 x q) (le_trans b2 (has_lo (h2 x q)))
  · obtain rfl := List.eq_nil_of_length_eq_zero he
    rw [List.append_nil]; exact ⟨a1, a2⟩
theorem TI.tk {f t : ByteArray} {c d : Cur} {xs l : List TT} {most : Int} (h : TI f t c xs) (hk : Tk (some c) l most (.ok d)) : TI f t d (xs ++ l) := by
  cases hk with
  | few f' t' e l most h0 h1 h2 h3 h4 h5 =>
    obtain ⟨q1, q2⟩ := h.both h0 h3 h4
    exact ⟨q1, q2, fun e => by cases e⟩
  | past f' t' e l most h0 h1 h2 h3 h4 h5 h6 =>
    obtain ⟨q1, q2⟩ := h.both h0 h3 h4
    exact ⟨q1, q2, fun e => by cases e⟩
  | more f' t' e l most h0 h1 h2 h3 h4 h5 h6 =>
    obtain ⟨q1, q2⟩ := h.both h0 h3 h4
    refine ⟨q1, q2, fun he => ?_⟩
    simp only at he
    obtain ⟨b1, b2, b3⟩ := h.2.2 he
    simp only at b1 b2 b3
    obtain ⟨y, hy, ey⟩ := lastE_mem (l := l) (by omega)
    have hl := has_lo (h4 y hy)
    rw [← ey] at hl
    have hA := lt_A0 (lastE l)
    refine ⟨b1, ?_, fun x hx => ?_⟩
    · exact le_trans b2 (le_of_lt (le_lt_trans hl hA))
    · rcases List.mem_append.1 hx with q | q
      · exact lt_trans (b3 x q) (le_lt_trans hl hA)
      · exact le_lt_trans (pw_last (ris_pw h3) q) hA
end Go.Proofs.Ytdbcaiggliiacaa
