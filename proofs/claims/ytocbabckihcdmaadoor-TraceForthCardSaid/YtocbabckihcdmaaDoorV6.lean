/- Lines counted in a text. -/
import Derived.Test.YtocbabckihcdmaaDoorV5
namespace Go.Proofs.YtocbabckihcdmaaDoor
set_option linter.unusedSimpArgs false
open Go.RowKit Go.Maps
set_option linter.unusedVariables false
theorem body_no {x : MV} (h : toldB x = true) (hw : 0 ≤ x.w) : (10 : UInt8) ∉ bodyL x := by
  have T := told_of h
  have hwi := (word_ix x.w.toNat (by have := T.w1; omega)).2.2
  rw [show ((x.w.toNat : Nat) : Int) = x.w by omega] at hwi
  have n0 := itoa_no T.s0 10 (by decide)
  have n1 := itoa_no T.n0 10 (by decide)
  have n2 := itoa_no T.v0 10 (by decide)
  have n3 := itoa_no T.e0 10 (by decide)
  have es : SP.data.toList = [32] := rfl
  unfold bodyL partsL
  rw [es]
  simp only [List.map_cons, List.map_nil]
  rw [join_two, join_two, join_two, join_two, Lib.join_one]
  simp [n0, n1, n2, n3, hwi]
theorem text_count {ys : List MV} (h : ∀ y ∈ ys, toldB y = true ∧ 0 ≤ y.w) : (textL ys).count 10 = ys.length := by
  induction ys with
  | nil => rfl
  | cons y ys ih =>
    have e : textL (y :: ys) = bodyL y ++ (10 :: textL ys) := by simp [textL, lineL]
    have hy := h y (by simp)
    rw [e, List.count_append, List.count_eq_zero.2 (body_no hy.1 hy.2), List.count_cons_self, ih (fun z hz => h z (by simp [hz]))]
    simp
theorem text_last {ys : List MV} (h : ys ≠ []) : ∃ P, textL ys = P ++ [10] := by
  induction ys with
  | nil => exact absurd rfl h
  | cons y ys ih =>
    have e : textL (y :: ys) = bodyL y ++ (10 :: textL ys) := by simp [textL, lineL]
    by_cases h0 : ys = []
    · subst h0
      exact ⟨bodyL y, by rw [e]; simp [textL]⟩
    · obtain ⟨P, hP⟩ := ih h0
      exact ⟨bodyL y ++ (10 :: P), by rw [e, hP]; simp⟩
theorem text_five (ys : List MV) : 5 * ys.length ≤ (textL ys).length := by
  induction ys with
  | nil => exact Nat.le_refl _
  | cons y ys ih =>
    have e : textL (y :: ys) = bodyL y ++ (10 :: textL ys) := by simp [textL, lineL]
    have es : SP.data.toList = [32] := rfl
    have hb : 4 ≤ (bodyL y).length := by
      unfold bodyL partsL
      rw [es]
      simp only [List.map_cons, List.map_nil]
      rw [join_two, join_two, join_two, join_two, Lib.join_one]
      simp only [List.length_append, List.length_cons]; omega
    rw [e, List.length_append, List.length_cons, List.length_cons]; omega
/-- How many lines end ahead of a place; where the last of them ends. -/
def cntF (L : List UInt8) (i : Nat) : Nat := (L.take i).count 10
def lastF (L : List UInt8) : Nat → Nat
  | 0 => 0
  | i + 1 => if L[i]? = some 10 then i + 1 else lastF L i
theorem cnt_yes {L : List UInt8} {i : Nat} (h : L[i]? = some 10) : cntF L (i + 1) = cntF L i + 1 := by
  unfold cntF; rw [List.take_add_one, h]; simp
theorem cnt_no {L : List UInt8} {i : Nat} {c : UInt8} (h : L[i]? = some c) (hc : c ≠ 10) : cntF L (i + 1) = cntF L i := by
  unfold cntF; rw [List.take_add_one, h]; simp [List.count_cons, hc]
theorem last_yes {L : List UInt8} {i : Nat} (h : L[i]? = some 10) : lastF L (i + 1) = i + 1 := by unfold lastF; rw [if_pos h]
theorem last_no {L : List UInt8} {i : Nat} {c : UInt8} (h : L[i]? = some c) (hc : c ≠ 10) : lastF L (i + 1) = lastF L i := by
  unfold lastF; rw [if_neg (by rw [h]; intro e; exact hc (Option.some.inj e))]
  cases i <;> rfl
theorem last_le (L : List UInt8) : ∀ i, lastF L i ≤ i
  | 0 => Nat.le_refl _
  | i + 1 => by unfold lastF; split; exact Nat.le_refl _; exact Nat.le_trans (last_le L i) (by omega)
theorem cnt_le (L : List UInt8) (i : Nat) : cntF L i ≤ i := Nat.le_trans List.count_le_length (by rw [List.length_take]; omega)
theorem cnt_end {ys : List MV} (h : ∀ y ∈ ys, toldB y = true ∧ 0 ≤ y.w) (rest : List UInt8) : cntF (textL ys ++ rest) (textL ys).length = ys.length := by
  unfold cntF; rw [List.take_left' rfl, text_count h]
theorem cnt_lt {ys : List MV} (h : ∀ y ∈ ys, toldB y = true ∧ 0 ≤ y.w) (rest : List UInt8) {i : Nat} (hi : i < (textL ys).length) : cntF (textL ys ++ rest) i < ys.length := by
  have hne : ys ≠ [] := by intro e; subst e; exact absurd hi (by simp [textL])
  obtain ⟨P, hP⟩ := text_last hne
  have hc := text_count h
  unfold cntF
  rw [← hc, hP]
  have hl : i ≤ P.length := by rw [hP] at hi; simp at hi; omega
  rw [List.append_assoc, List.take_append_of_le_length hl, List.count_append]
  have : (P.take i).count 10 ≤ P.count 10 := List.Sublist.count_le _ (List.take_sublist _ _)
  simp; omega
theorem last_end (ys : List MV) (rest : List UInt8) : lastF (textL ys ++ rest) (textL ys).length = (textL ys).length := by
  by_cases h : ys = []
  · subst h; rfl
  · obtain ⟨P, hP⟩ := text_last h
    rw [hP, List.length_append, List.length_singleton]
    refine last_yes ?_
    rw [List.append_assoc, List.getElem?_append_right (Nat.le_refl _)]
    simp
end Go.Proofs.YtocbabckihcdmaaDoor
