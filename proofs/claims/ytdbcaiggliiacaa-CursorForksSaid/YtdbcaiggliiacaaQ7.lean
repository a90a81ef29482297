/- The document's Took, whatever is told; what the document's table says behind each call. -/
import Derived.Test.YtdbcaiggliiacaaQ6
import Derived.Test.YtdbcaiggliiacaaT3
namespace Go.Proofs.Ytdbcaiggliiacaa
set_option linter.unusedSimpArgs false
open Go.RowKit Go.Maps
set_option linter.unusedVariables false
/-- How the document's Took answers. -/
def RTkP (r : Except Int Cur) (w : World) (A : Option Addr) (q cap : Nat) (xs : List RC) (k : Int) (e : Ending) (w' : World) : Prop :=
  match r with
  | .error z => e = .returned (.tuple #[.slice A q cap, .bool false, .int .i64 z]) ∧ Below w.heap.size w w'
  | .ok d => QP w (xs.set (k - 1).toNat (d.1, d.2.1, d.2.2, false)) (fun _ => [.bool d.2.2, .int .i64 0]) e w'
theorem rtook_any {w : World} {A : Option Addr} {xs : List RC} (h : EQ.Rd w A xs) (q cap : Nat) (hq : xs.length = q) (hq2 : q ≤ 1000000) (k : Int) (B : Option Addr) (n c : Nat) (l : List TT) (most : Int)
    (hl : l.length = n) (hn : n ≤ 1000000) (hB : RdT w B l) (hs : (lastE l).size + 1 ≤ 9223372036854775807) (r : Except Int Cur) (hr : Tk (lk xs k) l most r) :
    Calls Try.prog 25 #[.slice A q cap, .int .i64 k, .slice B n c, .int .i64 most] w (RTkP r w A q cap xs k) := by
  cases hk : lk xs k with
  | none =>
    rw [hk] at hr
    cases hr
    exact rtook_none h q cap hq hq2 k hk B n c most
  | some d0 =>
    obtain ⟨f, t, e⟩ := d0
    obtain ⟨p, rfl, hp, hx⟩ := lk_in hk
    have ep : ((p : Int) + 1 - 1).toNat = p := by omega
    rw [hk] at hr
    cases hr with
    | over _ _ _ _ h1 => exact rtook_early h q cap hq hq2 p f t true hk B n c most 15 (.inl ⟨rfl, by omega, rfl⟩)
    | arg _ _ _ _ _ h0 h1 => exact rtook_early h q cap hq hq2 p f t e hk B n c most 2 (.inr (.inl ⟨by rw [hl] at h0; exact h0, h1, rfl⟩))
    | lim _ _ _ _ _ h0 h1 h2 => exact rtook_early h q cap hq hq2 p f t e hk B n c most 4 (.inr (.inr ⟨by rw [hl] at h0; exact h0, h1, by rw [hl] at h2; exact h2, rfl⟩))
    | ord _ _ _ _ _ h0 h1 h2 h3 =>
      rw [hl] at h2
      cases e with
      | true =>
        exfalso
        have h0' : l.length = 0 := by simpa using h0
        obtain rfl := List.eq_nil_of_length_eq_zero h0'
        exact h3 ⟨fun i x y hx => by simp at hx, fun x hx => by simp at hx⟩
      | false =>
        by_cases h4 : okl f t l
        · exact rtook_ord h q cap hq hq2 p f t hk B n c l most hl hn hB h1 h2 h4 (fun q => h3 ⟨q, h4⟩)
        · exact rtook_far h q cap hq hq2 p f t hk B n c l most hl hn hB h1 h2 h4
    | few _ _ _ _ _ h0 h1 h2 h3 h4 h5 =>
      rw [hl] at h0 h2 h5
      show Calls _ _ _ _ (QP _ _ _)
      rw [ep]
      cases e with
      | true => exact rtook_end_true h q cap hq hq2 p f t hk B n c l most hl hn hB h1 h2 h4 h3 (by simpa using h0)
      | false => exact rtook_end_false h q cap hq hq2 p f t hk B n c l most hl hn hB h1 h2 h4 h3 h5
    | past _ _ _ _ _ h0 h1 h2 h3 h4 h5 h6 =>
      rw [hl] at h0 h2 h5
      show Calls _ _ _ _ (QP _ _ _)
      rw [ep]
      cases e with
      | true => exfalso; have : n = 0 := by simpa using h0
                omega
      | false => exact rtook_past h q cap hq hq2 p f t hk B n c l most hl hn hB h1 h2 h4 h3 h5 hs h6
    | more _ _ _ _ _ h0 h1 h2 h3 h4 h5 h6 =>
      rw [hl] at h0 h2 h5
      show Calls _ _ _ _ (QP _ _ _)
      rw [ep]
      cases e with
      | true => exfalso; have : n = 0 := by simpa using h0
                omega
      | false => exact rtook_more h q cap hq hq2 p f t hk B n c l most hl hn hB h1 h2 h4 h3 h5 hs h6
theorem lk_app (xs : List RC) (f t : ByteArray) (k : Int) : updC (lk xs) ((xs.length : Int) + 1) (f, t, false) k = lk (xs ++ [(f, t, false, false)]) k := by
  unfold updC
  split
  · rename_i h
    subst h
    exact (lk_open (p := xs.length) (by simp)).symm
  · rename_i h
    unfold lk
    by_cases h1 : 1 ≤ k ∧ k ≤ (xs.length : Int)
    · rw [if_pos h1, if_pos ⟨h1.1, by simp; omega⟩, List.getElem?_append_left (by omega)]
    · rw [if_neg h1, if_neg (by simp; omega)]
theorem lk_set (xs : List RC) (p : Nat) (hp : p < xs.length) (f t : ByteArray) (e : Bool) (k : Int) : updC (lk xs) ((p : Int) + 1) (f, t, e) k = lk (xs.set p (f, t, e, false)) k := by
  unfold updC
  split
  · rename_i h
    subst h
    exact (lk_open (p := p) (by rw [List.getElem?_set]; simp [hp])).symm
  · rename_i h
    unfold lk
    rw [List.length_set]
    split
    · rename_i h1
      rw [List.getElem?_set, if_neg (by omega)]
    · rfl
theorem lk_close (xs : List RC) (p : Nat) (hp : p < xs.length) (f t : ByteArray) (e : Bool) (k : Int) : cutC (lk xs) ((p : Int) + 1) k = lk (xs.set p (f, t, e, true)) k := by
  unfold cutC
  split
  · rename_i h
    subst h
    unfold lk
    rw [List.length_set, if_pos ⟨by omega, by omega⟩, List.getElem?_set, if_pos (by omega), if_pos hp]
  · rename_i h
    unfold lk
    rw [List.length_set]
    split
    · rename_i h1
      rw [List.getElem?_set, if_neg (by omega)]
    · rfl
theorem lk_last (xs : List RC) : lk xs ((xs.length : Int) + 1) = none := by
  unfold lk; rw [if_neg (by omega)]
theorem opn_app (xs : List RC) (f t : ByteArray) : opn (xs ++ [(f, t, false, false)]) = opn xs + 1 := by simp [opn]
theorem opn_set : ∀ (xs : List RC) (p : Nat) (f t f' t' : ByteArray) (e e' c : Bool), xs[p]? = some (f, t, e, false) → opn (xs.set p (f', t', e', c)) + (if c = true then 1 else 0) = opn xs
  | [], p, f, t, f', t', e, e', c, h => by simp at h
  | x :: xs, 0, f, t, f', t', e, e', c, h => by
    simp at h; subst h
    cases c <;> simp [opn]
  | x :: xs, p + 1, f, t, f', t', e, e', c, h => by
    have := opn_set xs p f t f' t' e e' c (by simpa using h)
    rw [List.set_cons_succ]
    obtain ⟨x0, x1, x2, x3⟩ := x
    cases x3
    · simp only [opn, List.filter_cons, Bool.not_false, if_true, List.length_cons] at this ⊢
      omega
    · simp only [opn, List.filter_cons, Bool.not_true] at this ⊢
      simpa using this
end Go.Proofs.Ytdbcaiggliiacaa
