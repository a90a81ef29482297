/- Pairs of things alike: plain mathematics; the document's Both. -/
import Derived.Test.YtpijaphcknoobaaZ7
namespace Go.Proofs.Ytpijaphcknoobaa
set_option linter.unusedSimpArgs false
open Go.RowKit Go.Shelf
set_option linter.unusedVariables false

/-- Those of b that are like x. -/
def eqs (b : List TT) (x : TT) : List TT := b.filter (fun y => decide (x.1 = y.1))
/-- Each pair of things alike. -/
def bothL (a b : List TT) : List (TT × TT) := a.flatMap fun x => (eqs b x).map fun y => (x, y)
theorem both_snoc {a b : List TT} {i : Nat} {x : TT} (h : a[i]? = some x) : bothL (a.take (i + 1)) b = bothL (a.take i) b ++ (eqs b x).map fun y => (x, y) := by
  rw [take_more h]; simp [bothL]
theorem eqs_app (p q : List TT) (x : TT) : eqs (p ++ q) x = eqs p x ++ eqs q x := List.filter_append _ _
theorem both_app (p q b : List TT) : bothL (p ++ q) b = bothL p b ++ bothL q b := List.flatMap_append
theorem both_len (a b : List TT) : (bothL a b).length ≤ a.length * b.length := by
  induction a with
  | nil => simp [bothL]
  | cons x a ih =>
    have h1 : (eqs b x).length ≤ b.length := List.length_filter_le _ _
    simp only [bothL, List.flatMap_cons, List.length_append, List.length_map, List.length_cons] at *
    rw [Nat.succ_mul]; omega
theorem eqs_in {b : List TT} {x y : TT} {k : Nat} (h : b[k]? = some y) (he : x.1 = y.1) : eqs (b.take (k + 1)) x = eqs (b.take k) x ++ [y] := by
  rw [take_more h]; simp [eqs, List.filter_cons, he]
theorem eqs_out {b : List TT} {x y : TT} {k : Nat} (h : b[k]? = some y) (he : ¬ x.1 = y.1) : eqs (b.take (k + 1)) x = eqs (b.take k) x := by
  rw [take_more h]; simp [eqs, List.filter_cons, he]
/-- What lies in a row between two places. -/
theorem eqs_at {b : List TT} {x : TT} {f q : Nat} (h1 : ∀ j y, j < f → b[j]? = some y → y.1 < x.1) (h2 : ∀ j y, j < q → b[f + j]? = some y → y.1 = x.1) : eqs (b.take (f + q)) x = (b.drop f).take q := by
  induction q with
  | zero =>
    rw [Nat.add_zero, List.take_zero]
    refine List.filter_eq_nil_iff.2 fun y hy => ?_
    obtain ⟨j, hj⟩ := List.mem_iff_getElem?.1 hy
    have hjf : j < f := by have := (List.getElem?_eq_some_iff.1 hj).1; simp at this; omega
    rw [List.getElem?_take_of_lt hjf] at hj
    have := h1 j y hjf hj
    simp; omega
  | succ q ih =>
    have ih := ih (fun j y hj => h2 j y (by omega))
    cases hb : b[f + q]? with
    | none =>
      have hlen : b.length ≤ f + q := by rcases Nat.lt_or_ge (f + q) b.length with h | h; rw [List.getElem?_eq_getElem h] at hb; cases hb; exact h
      rw [List.take_of_length_le (by omega)] at ih ⊢
      rw [ih, List.take_of_length_le (by simp; omega), List.take_of_length_le (by simp; omega)]
    | some y =>
      have e := h2 q y (by omega) hb
      rw [show f + (q + 1) = f + q + 1 by omega, eqs_in hb e.symm, ih]
      have hd : (b.drop f)[q]? = some y := by rw [List.getElem?_drop]; exact hb
      rw [take_more hd]
theorem eqs_get {b : List TT} {x y : TT} {f q : Nat} (h1 : ∀ j y, j < f → b[j]? = some y → y.1 < x.1) (h2 : ∀ j y, j < q → b[f + j]? = some y → y.1 = x.1) (hy : b[f + q]? = some y) (he : x.1 = y.1) : (eqs b x)[q]? = some y := by
  have e1 : eqs (b.take (f + (q + 1))) x = (b.drop f).take (q + 1) := eqs_at h1 (fun j z hj hz => by
    by_cases e : j = q
    · subst e; rw [hy] at hz; cases hz; exact he.symm
    · exact h2 j z (by omega) hz)
  have e2 : eqs b x = eqs (b.take (f + (q + 1))) x ++ eqs (b.drop (f + (q + 1))) x := by
    rw [← eqs_app, List.take_append_drop]
  have hd : (b.drop f)[q]? = some y := by rw [List.getElem?_drop]; exact hy
  have hl := (List.getElem?_eq_some_iff.1 hd).1
  rw [e2, e1, List.getElem?_append_left (by rw [List.length_take]; omega), List.getElem?_take_of_lt (by omega)]
  exact hd
theorem srt_le {b : List TT} (hs : Srt b) {i j : Nat} {y z : TT} (hi : b[i]? = some y) (hj : b[j]? = some z) (h : i ≤ j) : y.1 ≤ z.1 := by
  obtain ⟨a1, e1⟩ := List.getElem?_eq_some_iff.1 hi
  obtain ⟨a2, e2⟩ := List.getElem?_eq_some_iff.1 hj
  by_cases e : i = j
  · subst e; rw [hi] at hj; cases hj; omega
  · have := (List.pairwise_iff_getElem.1 hs) i j a1 a2 (by omega)
    rw [e1, e2] at this; exact this
/-- All that are alike, where the next one is greater. -/
theorem eqs_all {b : List TT} {x : TT} {f q : Nat} (hs : Srt b) (h1 : ∀ j y, j < f → b[j]? = some y → y.1 < x.1) (h2 : ∀ j y, j < q → b[f + j]? = some y → y.1 = x.1) (h3 : b.length ≤ f + q ∨ ∃ y, b[f + q]? = some y ∧ x.1 < y.1) (hq : f + q ≤ b.length) : (eqs b x).length = q ∧ eqs b x = (b.drop f).take q := by
  have e2 : eqs b x = eqs (b.take (f + q)) x ++ eqs (b.drop (f + q)) x := by
    rw [← eqs_app, List.take_append_drop]
  have e3 : eqs (b.drop (f + q)) x = [] := by
    refine List.filter_eq_nil_iff.2 fun z hz => ?_
    obtain ⟨j, hj⟩ := List.mem_iff_getElem?.1 hz
    rw [List.getElem?_drop] at hj
    rcases h3 with h3 | ⟨y, hy, hlt⟩
    · have := (List.getElem?_eq_some_iff.1 hj).1; omega
    · have := srt_le hs hy hj (by omega)
      simp; omega
  rw [e3, List.append_nil, eqs_at h1 h2] at e2
  refine ⟨?_, e2⟩
  rw [e2, List.length_take, List.length_drop]; omega
theorem both_get {a b : List TT} {i f q : Nat} {x y : TT} (hi : a[i]? = some x) (h1 : ∀ j y, j < f → b[j]? = some y → y.1 < x.1) (h2 : ∀ j y, j < q → b[f + j]? = some y → y.1 = x.1) (hy : b[f + q]? = some y) (he : x.1 = y.1) : (bothL a b)[(bothL (a.take i) b).length + q]? = some (x, y) := by
  have e1 := both_snoc (b := b) hi
  have e2 : bothL a b = bothL (a.take (i + 1)) b ++ bothL (a.drop (i + 1)) b := by
    rw [← both_app, List.take_append_drop]
  have h := eqs_get h1 h2 hy he
  have hl := (List.getElem?_eq_some_iff.1 h).1
  rw [e2, e1, List.append_assoc, List.getElem?_append_right (by omega), Nat.add_sub_cancel_left, List.getElem?_append_left (by rw [List.length_map]; exact hl), List.getElem?_map, h]; rfl
theorem both_le (a b : List TT) (i : Nat) : (bothL (a.take i) b).length ≤ (bothL a b).length := by
  have e2 : bothL a b = bothL (a.take i) b ++ bothL (a.drop i) b := by
    rw [← both_app, List.take_append_drop]
  rw [e2, List.length_append]; omega
/-- The cells of a list of pairs. -/
def clp (L : List (TT × TT)) : List Value := L.flatMap fun p => [.int .i64 p.1.1, .int .i64 p.1.2, .int .i64 p.2.1, .int .i64 p.2.2]
theorem clp_snoc (L : List (TT × TT)) (p : TT × TT) : clp (L ++ [p]) = clp L ++ [.int .i64 p.1.1, .int .i64 p.1.2, .int .i64 p.2.1, .int .i64 p.2.2] := by simp [clp]
theorem clp_get {L : List (TT × TT)} {k : Nat} {p : TT × TT} (h : L[k]? = some p) : (clp L)[k * 4]? = some (.int .i64 p.1.1) ∧ (clp L)[k * 4 + 1]? = some (.int .i64 p.1.2) ∧ (clp L)[k * 4 + 2]? = some (.int .i64 p.2.1) ∧ (clp L)[k * 4 + 3]? = some (.int .i64 p.2.2) := by
  induction L generalizing k with
  | nil => simp at h
  | cons q L ih =>
    have e : ∀ j, (clp (q :: L))[j + 4]? = (clp L)[j]? := fun j => by simp [clp]
    cases k with
    | zero => simp at h; subst h; simp [clp]
    | succ k =>
      have := ih (k := k) (by simpa using h)
      rw [show (k + 1) * 4 = k * 4 + 4 by omega, show k * 4 + 4 + 1 = k * 4 + 1 + 4 by omega, show k * 4 + 4 + 2 = k * 4 + 2 + 4 by omega, show k * 4 + 4 + 3 = k * 4 + 3 + 4 by omega, e, e, e, e]
      exact this
theorem info45 : (Try.prog.info? 45).map (fun i => (i.zero, i.size, i.bytes)) = some (some (.agg #[.int .i64 0, .int .i64 0, .int .i64 0, .int .i64 0]), 4, 32) := by kernel_rfl
end Go.Proofs.Ytpijaphcknoobaa
