/- The least range of all: plain mathematics. -/
import Derived.Test.YtdbnkeihnoglcaaM2
import Derived.Test.YtdbnkeihnoglcaaA7
import Derived.Test.YtdbnkeihnoglcaaA6
namespace Go.Proofs.Ytdbnkeihnoglcaa
set_option linter.unusedSimpArgs false
set_option linter.unusedVariables false
def minS (a b : ByteArray) : ByteArray := if lt b a then b else a
def accS (q : ByteArray × ByteArray) (x : MG) : ByteArray × ByteArray := (minS q.1 (spF x), lastS q.2 (spT x))
def spanL : List MG → ByteArray × ByteArray
  | [] => (emptyS, emptyS)
  | x :: xs => xs.foldl accS (spF x, spT x)
theorem acc_next (q : ByteArray × ByteArray) {xs : List MG} {k : Nat} {x : MG} (h : xs[k]? = some x) : (xs.take (k + 1)).foldl accS q = accS ((xs.take k).foldl accS q) x := by
  rw [List.take_add_one, h]; simp [List.foldl_append]
theorem nlt_trans {a b c : ByteArray} (h1 : lt b a = false) (h2 : lt c b = false) : lt c a = false := by
  cases h : lt c a
  · rfl
  · exfalso
    unfold lt at *
    rcases bl_tri c.toList b.toList with x | x | x
    · rw [x] at h2; cases h2
    · rw [x, h1] at h; cases h
    · have := bl_trans _ _ _ x h; rw [h1] at this; cases this
theorem min_left (a b : ByteArray) : lt a (minS a b) = false := by
  unfold minS; split
  · next h => exact bl_asymm _ _ h
  · exact lt_irr a
theorem min_right (a b : ByteArray) : lt b (minS a b) = false := by
  unfold minS; split
  · exact lt_irr b
  · next h => simpa using h
theorem nbef_trans {a b c : ByteArray} (h1 : bef b a = false) (h2 : bef c b = false) : bef c a = false := by
  unfold bef at *
  cases ea : emp a <;> cases eb : emp b <;> cases ec : emp c <;> simp_all
  exact nlt_trans h1 h2
theorem last_left (a b : ByteArray) : bef (lastS a b) a = false := by
  unfold lastS; split
  · next h => exact bef_asymm a b h
  · unfold bef; cases emp a <;> simp [lt_irr]
theorem last_right (a b : ByteArray) : bef (lastS a b) b = false := by
  unfold lastS; split
  · unfold bef; cases emp b <;> simp [lt_irr]
  · next h => simpa using h
theorem lt_of_nlt {a b c : ByteArray} (h1 : lt b a = false) (h2 : lt b c = true) : lt a c = true := by
  unfold lt at *
  rcases bl_tri a.toList b.toList with x | x | x
  · exact bl_trans _ _ _ x h2
  · rw [x]; exact h2
  · rw [x] at h1; cases h1
theorem lt_of_lt_nlt {a b c : ByteArray} (h1 : lt a b = true) (h2 : lt c b = false) : lt a c = true := by
  unfold lt at *
  rcases bl_tri b.toList c.toList with x | x | x
  · exact bl_trans _ _ _ h1 x
  · rw [← x]; exact h1
  · rw [x] at h2; cases h2
theorem sb_mono {f t F T : ByteArray} (h1 : lt f F = false) (h2 : bef T t = false) (h : sb f t = true) : sb F T = true := by
  unfold sb bef at *
  cases eT : emp T
  · rw [eT] at h2
    cases et : emp t
    · simp [et] at h2 h ⊢
      exact lt_of_lt_nlt (lt_of_nlt h1 h) h2
    · simp [et] at h2
  · rfl
theorem has_mono {f t F T s : ByteArray} (h1 : lt f F = false) (h2 : bef T t = false) (h : has f t s = true) : has F T s = true := by
  unfold has at *
  simp only [Bool.and_eq_true, Bool.not_eq_true'] at *
  refine ⟨nlt_trans h1 h.1, ?_⟩
  have := h.2
  unfold sb bef at *
  cases eT : emp T
  · rw [eT] at h2
    cases et : emp t
    · simp [et] at h2 this ⊢
      exact lt_of_lt_nlt this h2
    · simp [et] at h2
  · rfl
theorem tou_has {x : MG} {s : ByteArray} (h : touB x s = true) : has (spF x) (spT x) s = true := by
  unfold touB at h
  unfold spF spT
  cases e : isPt x.kd
  · cases e4 : x.kd == 4
    · simp [e, e4] at h
    · simpa [e, e4] using h
  · simp only [e, if_true] at h ⊢
    rw [has_point]; exact h
structure SpOk (q0 q : ByteArray × ByteArray) (xs : List MG) : Prop where
  lo0 : lt q0.1 q.1 = false
  hi0 : bef q.2 q0.2 = false
  lo : ∀ x ∈ xs, lt (spF x) q.1 = false
  hi : ∀ x ∈ xs, bef q.2 (spT x) = false
  lo1 : q.1 = q0.1 ∨ ∃ x ∈ xs, q.1 = spF x
  hi1 : q.2 = q0.2 ∨ ∃ x ∈ xs, q.2 = spT x
theorem fold_ok (xs : List MG) (q0 : ByteArray × ByteArray) : SpOk q0 (xs.foldl accS q0) xs := by
  induction xs generalizing q0 with
  | nil =>
    refine ⟨lt_irr _, ?_, (fun x h => by cases h), (fun x h => by cases h), .inl rfl, .inl rfl⟩
    show bef q0.2 q0.2 = false
    unfold bef; cases emp q0.2 <;> simp [lt_irr]
  | cons x xs ih =>
    have h := ih (accS q0 x)
    rw [List.foldl_cons]
    refine ⟨nlt_trans h.lo0 (min_left _ _), nbef_trans (last_left _ _) h.hi0, ?_, ?_, ?_, ?_⟩
    · intro y hy
      rcases List.mem_cons.1 hy with rfl | hy
      · exact nlt_trans h.lo0 (min_right _ _)
      · exact h.lo y hy
    · intro y hy
      rcases List.mem_cons.1 hy with rfl | hy
      · exact nbef_trans (last_right _ _) h.hi0
      · exact h.hi y hy
    · rcases h.lo1 with e | ⟨y, hy, e⟩
      · have e2 : (accS q0 x).1 = minS q0.1 (spF x) := rfl
        rw [e2] at e
        unfold minS at e
        split at e
        · exact .inr ⟨x, List.mem_cons_self, e⟩
        · exact .inl e
      · exact .inr ⟨y, List.mem_cons_of_mem _ hy, e⟩
    · rcases h.hi1 with e | ⟨y, hy, e⟩
      · have e2 : (accS q0 x).2 = lastS q0.2 (spT x) := rfl
        rw [e2] at e
        unfold lastS at e
        split at e
        · exact .inr ⟨x, List.mem_cons_self, e⟩
        · exact .inl e
      · exact .inr ⟨y, List.mem_cons_of_mem _ hy, e⟩
/-- What the least range is of messages that there are. -/
structure Least (F T : ByteArray) (xs : List MG) : Prop where
  lo : ∀ x ∈ xs, lt (spF x) F = false
  hi : ∀ x ∈ xs, bef T (spT x) = false
  lo1 : ∃ x ∈ xs, F = spF x
  hi1 : ∃ x ∈ xs, T = spT x
theorem span_least {xs : List MG} (h : xs ≠ []) : Least (spanL xs).1 (spanL xs).2 xs := by
  cases xs with
  | nil => exact absurd rfl h
  | cons x xs =>
    have q := fold_ok xs (spF x, spT x)
    refine ⟨?_, ?_, ?_, ?_⟩
    · intro y hy
      rcases List.mem_cons.1 hy with rfl | hy
      · exact q.lo0
      · exact q.lo y hy
    · intro y hy
      rcases List.mem_cons.1 hy with rfl | hy
      · exact q.hi0
      · exact q.hi y hy
    · rcases q.lo1 with e | ⟨y, hy, e⟩
      · exact ⟨x, List.mem_cons_self, e⟩
      · exact ⟨y, List.mem_cons_of_mem _ hy, e⟩
    · rcases q.hi1 with e | ⟨y, hy, e⟩
      · exact ⟨x, List.mem_cons_self, e⟩
      · exact ⟨y, List.mem_cons_of_mem _ hy, e⟩
end Go.Proofs.Ytdbnkeihnoglcaa
