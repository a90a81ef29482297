/- Plain mathematics of rows of things in order: stable insertion, and what is picked first. -/
namespace Go.Proofs.Ytpijaphcknoobaa
abbrev T2 := Int × Int
/-- In order. -/
def Srt (l : List T2) : Prop := l.Pairwise (fun a b => a.1 ≤ b.1)
def insS : List T2 → T2 → List T2
  | [], x => [x]
  | y :: l, x => if y.1 ≤ x.1 then y :: insS l x else x :: y :: l
def sortL (acc xs : List T2) : List T2 := xs.foldl insS acc
theorem insS_mem {l : List T2} {x z : T2} : z ∈ insS l x ↔ z = x ∨ z ∈ l := by
  induction l with
  | nil => simp [insS]
  | cons y l ih =>
    simp only [insS]
    split
    · simp only [List.mem_cons, ih]; constructor
      · rintro (h | h | h) <;> simp [h]
      · rintro (h | h | h) <;> simp [h]
    · simp
theorem srt_ins {l : List T2} {x : T2} (h : Srt l) : Srt (insS l x) := by
  induction l with
  | nil => simp [insS, Srt]
  | cons y l ih =>
    have h1 := (List.pairwise_cons.1 h).1
    have h2 := (List.pairwise_cons.1 h).2
    simp only [insS]
    split
    · rename_i hc
      refine List.pairwise_cons.2 ⟨fun z hz => ?_, ih h2⟩
      rcases insS_mem.1 hz with rfl | hz
      · exact hc
      · exact h1 z hz
    · rename_i hc
      refine List.pairwise_cons.2 ⟨fun z hz => ?_, h⟩
      rcases List.mem_cons.1 hz with rfl | hz
      · omega
      · have := h1 z hz; omega
theorem ins_len (l : List T2) (x : T2) : (insS l x).length = l.length + 1 := by
  induction l with
  | nil => rfl
  | cons y l ih => simp only [insS]; split <;> simp [ih]
theorem sort_len (acc xs : List T2) : (sortL acc xs).length = acc.length + xs.length := by
  induction xs generalizing acc with
  | nil => rfl
  | cons x xs ih => simp only [sortL, List.foldl_cons] at *; rw [ih, ins_len]; simp; omega
theorem sort_srt {acc : List T2} (xs : List T2) (h : Srt acc) : Srt (sortL acc xs) := by
  induction xs generalizing acc with
  | nil => exact h
  | cons x xs ih => exact ih (srt_ins h)
theorem sort_app (acc a b : List T2) : sortL acc (a ++ b) = sortL (sortL acc a) b := by simp [sortL]
theorem cut_ins {l : List T2} {x : T2} {k : Nat} (hs : Srt l) (hk : k ≤ l.length) (h1 : ∀ j y, k ≤ j → l[j]? = some y → x.1 < y.1) (h2 : k = 0 ∨ ∃ y, l[k-1]? = some y ∧ y.1 ≤ x.1) : l.take k ++ x :: l.drop k = insS l x := by
  induction l generalizing k with
  | nil => have : k = 0 := by simpa using hk
           subst this; rfl
  | cons y l ih =>
    have s1 := (List.pairwise_cons.1 hs).1
    have s2 := (List.pairwise_cons.1 hs).2
    cases k with
    | zero =>
      have := h1 0 y (Nat.le_refl _) rfl
      simp only [insS, List.take_zero, List.drop_zero, List.nil_append]
      rw [if_neg (by omega)]
    | succ k =>
      have hy : y.1 ≤ x.1 := by
        rcases h2 with h2 | ⟨z, hz, hzx⟩
        · omega
        · cases k with
          | zero => simp at hz; subst hz; exact hzx
          | succ k =>
            simp at hz
            have := s1 z (List.mem_of_getElem? hz)
            omega
      simp only [insS, List.take_succ_cons, List.drop_succ_cons, List.cons_append]
      rw [if_pos hy, ih s2 (by simpa using hk) (fun j z hj hz => h1 (j + 1) z (by omega) (by simpa using hz)) ?_]
      rcases h2 with h2 | ⟨z, hz, hzx⟩
      · omega
      · cases k with
        | zero => exact .inl rfl
        | succ k => exact .inr ⟨z, by simpa using hz, hzx⟩
/-- What is above all stands behind. -/
theorem ins_front {S : List T2} {x : T2} (h : ∀ y ∈ S, x.1 < y.1) : insS S x = x :: S := by
  cases S with
  | nil => rfl
  | cons y S => have := h y (by simp); simp only [insS]; rw [if_neg (by omega)]
theorem sort_front {x : T2} (S post : List T2) (h : ∀ y ∈ post, x.1 ≤ y.1) : sortL (x :: S) post = x :: sortL S post := by
  induction post generalizing S with
  | nil => rfl
  | cons y post ih =>
    have hy := h y (by simp)
    simp only [sortL, List.foldl_cons] at *
    rw [show insS (x :: S) y = x :: insS S y by simp only [insS]; rw [if_pos hy]]
    exact ih _ (fun z hz => h z (by simp [hz]))
theorem sort_mem {acc xs : List T2} {z : T2} : z ∈ sortL acc xs ↔ z ∈ acc ∨ z ∈ xs := by
  induction xs generalizing acc with
  | nil => simp [sortL]
  | cons x xs ih =>
    simp only [sortL, List.foldl_cons] at *
    rw [ih, insS_mem, List.mem_cons]
    constructor
    · rintro ((h | h) | h) <;> simp [h]
    · rintro (h | h | h) <;> simp [h]
theorem sort_pick {x : T2} {pre post : List T2} (h1 : ∀ y ∈ pre, x.1 < y.1) (h2 : ∀ y ∈ post, x.1 ≤ y.1) : sortL [] (pre ++ x :: post) = x :: sortL [] (pre ++ post) := by
  rw [sort_app, sort_app]
  have : sortL (sortL [] pre) (x :: post) = sortL (insS (sortL [] pre) x) post := rfl
  rw [this, ins_front (fun y hy => by rcases sort_mem.1 hy with h | h; simp at h; exact h1 y h), sort_front _ _ h2]
/-- A list is picked: the first one of those with the least head. -/
def Picked (ls : List (List T2)) (i : Nat) (x : T2) (rest : List T2) : Prop :=
  ls[i]? = some (x :: rest) ∧ ∀ j y ys, ls[j]? = some (y :: ys) → x.1 ≤ y.1 ∧ (j < i → x.1 < y.1)
theorem set_split {α : Type} {l : List α} {i : Nat} {a : α} (h : l[i]? = some a) (b : α) : l = l.take i ++ a :: l.drop (i + 1) ∧ l.set i b = l.take i ++ b :: l.drop (i + 1) := by
  obtain ⟨hi, e⟩ := List.getElem?_eq_some_iff.1 h
  refine ⟨?_, by rw [List.set_eq_take_append_cons_drop, if_pos hi]⟩
  subst e
  rw [← List.drop_eq_getElem_cons hi, List.take_append_drop]
theorem head_le {l : List T2} {y : T2} (h : Srt l) (hy : y ∈ l) : ∃ z zs, l = z :: zs ∧ z.1 ≤ y.1 := by
  cases l with
  | nil => simp at hy
  | cons z zs =>
    refine ⟨z, zs, rfl, ?_⟩
    rcases List.mem_cons.1 hy with rfl | hy
    · omega
    · exact (List.pairwise_cons.1 h).1 y hy
theorem picked_sort {ls : List (List T2)} {i : Nat} {x : T2} {rest : List T2} (hs : ∀ l ∈ ls, Srt l) (h : Picked ls i x rest) : sortL [] ls.flatten = x :: sortL [] (ls.set i rest).flatten := by
  obtain ⟨h0, h1⟩ := h
  obtain ⟨e1, e2⟩ := set_split h0 rest
  have hx := hs _ (List.mem_of_getElem? h0)
  have p1 : ∀ y ∈ (ls.take i).flatten, x.1 < y.1 := by
    intro y hy
    obtain ⟨l, hl, hyl⟩ := List.mem_flatten.1 hy
    obtain ⟨j, hj⟩ := List.mem_iff_getElem?.1 hl
    have hji : j < i := by
      have := (List.getElem?_eq_some_iff.1 hj).1; simp at this; omega
    rw [List.getElem?_take_of_lt hji] at hj
    obtain ⟨z, zs, rfl, hz⟩ := head_le (hs _ (List.mem_of_getElem? hj)) hyl
    have := (h1 j z zs hj).2 hji
    omega
  have p2 : ∀ y ∈ rest ++ (ls.drop (i + 1)).flatten, x.1 ≤ y.1 := by
    intro y hy
    rcases List.mem_append.1 hy with hy | hy
    · exact (List.pairwise_cons.1 hx).1 y hy
    · obtain ⟨l, hl, hyl⟩ := List.mem_flatten.1 hy
      obtain ⟨j, hj⟩ := List.mem_iff_getElem?.1 hl
      rw [List.getElem?_drop] at hj
      obtain ⟨z, zs, rfl, hz⟩ := head_le (hs _ (List.mem_of_getElem? hj)) hyl
      have := (h1 _ z zs hj).1
      omega
  rw [e2]
  conv => lhs; rw [e1]
  simp only [List.flatten_append, List.flatten_cons, List.cons_append]
  rw [sort_pick p1 p2]
theorem set_srt {ls : List (List T2)} {i : Nat} {x : T2} {rest : List T2} (hs : ∀ l ∈ ls, Srt l) (h : ls[i]? = some (x :: rest)) : ∀ l ∈ ls.set i rest, Srt l := by
  intro l hl
  rcases List.mem_or_eq_of_mem_set hl with h2 | rfl
  · exact hs l h2
  · exact (List.pairwise_cons.1 (hs _ (List.mem_of_getElem? h))).2
theorem none_sort {ls : List (List T2)} (h : ∀ l ∈ ls, l = []) : ls.flatten = [] := by
  induction ls with
  | nil => rfl
  | cons l ls ih => rw [List.flatten_cons, h l (by simp), ih (fun m hm => h m (by simp [hm]))]; rfl
theorem set_flat_len {ls : List (List T2)} {i : Nat} {x : T2} {rest : List T2} (h : ls[i]? = some (x :: rest)) : (ls.set i rest).flatten.length + 1 = ls.flatten.length := by
  obtain ⟨e1, e2⟩ := set_split h rest
  rw [e2]
  conv => rhs; rw [e1]
  simp; omega
/-- Without what is like the one ahead. -/
def onceG : Option Int → List T2 → List T2
  | _, [] => []
  | last, x :: xs => if last = some x.1 then onceG last xs else x :: onceG (some x.1) xs
/-- The number of the last one. -/
def lastG : Option Int → List T2 → Option Int
  | last, [] => last
  | last, x :: xs => if last = some x.1 then lastG last xs else lastG (some x.1) xs
theorem onceG_eq {last : Option Int} {x : T2} (xs : List T2) (h : last = some x.1) : onceG last (x :: xs) = onceG last xs := by simp only [onceG]; rw [if_pos h]
theorem onceG_ne {last : Option Int} {x : T2} (xs : List T2) (h : ¬ last = some x.1) : onceG last (x :: xs) = x :: onceG (some x.1) xs := by simp only [onceG]; rw [if_neg h]
theorem lastG_eq {last : Option Int} {x : T2} (xs : List T2) (h : last = some x.1) : lastG last (x :: xs) = lastG last xs := by simp only [lastG]; rw [if_pos h]
theorem lastG_ne {last : Option Int} {x : T2} (xs : List T2) (h : ¬ last = some x.1) : lastG last (x :: xs) = lastG (some x.1) xs := by simp only [lastG]; rw [if_neg h]
theorem onceG_snoc_eq {last : Option Int} {xs : List T2} {x : T2} (h : lastG last xs = some x.1) : onceG last (xs ++ [x]) = onceG last xs := by
  induction xs generalizing last with
  | nil => exact onceG_eq [] h
  | cons y xs ih =>
    by_cases hy : last = some y.1
    · rw [lastG_eq _ hy] at h
      rw [List.cons_append, onceG_eq _ hy, onceG_eq _ hy, ih h]
    · rw [lastG_ne _ hy] at h
      rw [List.cons_append, onceG_ne _ hy, onceG_ne _ hy, ih h]
theorem onceG_snoc_ne {last : Option Int} {xs : List T2} {x : T2} (h : ¬ lastG last xs = some x.1) : onceG last (xs ++ [x]) = onceG last xs ++ [x] := by
  induction xs generalizing last with
  | nil => exact onceG_ne [] h
  | cons y xs ih =>
    by_cases hy : last = some y.1
    · rw [lastG_eq _ hy] at h
      rw [List.cons_append, onceG_eq _ hy, onceG_eq _ hy, ih h]
    · rw [lastG_ne _ hy] at h
      rw [List.cons_append, onceG_ne _ hy, onceG_ne _ hy, ih h]; rfl
theorem lastG_snoc_eq {last : Option Int} {xs : List T2} {x : T2} (h : lastG last xs = some x.1) : lastG last (xs ++ [x]) = some x.1 := by
  induction xs generalizing last with
  | nil => exact (lastG_eq [] (show last = some x.1 from h)).trans h
  | cons y xs ih =>
    by_cases hy : last = some y.1
    · rw [lastG_eq _ hy] at h
      rw [List.cons_append, lastG_eq _ hy, ih h]
    · rw [lastG_ne _ hy] at h
      rw [List.cons_append, lastG_ne _ hy, ih h]
theorem lastG_snoc_ne {last : Option Int} {xs : List T2} {x : T2} (h : ¬ lastG last xs = some x.1) : lastG last (xs ++ [x]) = some x.1 := by
  induction xs generalizing last with
  | nil => exact lastG_ne [] (show ¬ last = some x.1 from h)
  | cons y xs ih =>
    by_cases hy : last = some y.1
    · rw [lastG_eq _ hy] at h
      rw [List.cons_append, lastG_eq _ hy, ih h]
    · rw [lastG_ne _ hy] at h
      rw [List.cons_append, lastG_ne _ hy, ih h]
/-- What was told last: the last one of those that are told, or what was ahead. -/
theorem lastG_last (xs : List T2) : ∀ last, (onceG last xs = [] ∧ lastG last xs = last) ∨ ∃ y, (onceG last xs).getLast? = some y ∧ lastG last xs = some y.1 := by
  induction xs with
  | nil => exact fun last => .inl ⟨rfl, rfl⟩
  | cons x xs ih =>
    intro last
    by_cases hx : last = some x.1
    · rw [onceG_eq _ hx, lastG_eq _ hx]; exact ih last
    · rw [onceG_ne _ hx, lastG_ne _ hx]
      rcases ih (some x.1) with ⟨h1, h2⟩ | ⟨y, h1, h2⟩
      · exact .inr ⟨x, by rw [h1]; rfl, h2⟩
      · refine .inr ⟨y, ?_, h2⟩
        cases h : onceG (some x.1) xs with
        | nil => rw [h] at h1; simp at h1
        | cons z zs => rw [h] at h1; rw [List.getLast?_cons_cons]; exact h1
theorem once_len (last : Option Int) (xs : List T2) : (onceG last xs).length ≤ xs.length := by
  induction xs generalizing last with
  | nil => simp [onceG]
  | cons x xs ih => simp only [onceG]; split <;> simp; exact Nat.le_succ_of_le (ih _); exact ih _
end Go.Proofs.Ytpijaphcknoobaa
