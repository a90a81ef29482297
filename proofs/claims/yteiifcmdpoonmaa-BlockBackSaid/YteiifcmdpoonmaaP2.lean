/- What entries are read. -/
import Derived.Test.YteiifcmdpoonmaaP1
import Derived.Test.YteiifcmdpoonmaaN8
namespace Go.Proofs.Yteiifcmdpoonmaa
set_option linter.unusedSimpArgs false
open Go.RowKit Go.Maps Go.Shelf
set_option linter.unusedVariables false
/-- The entry that stands next behind entries, or why there is none. -/
inductive En (l : List TT) (s : ByteArray) : Except Int (TT × ByteArray) → Prop
  | num (n : Int) (r : ByteArray) (e : Int) : tnF s = (n, r, e) → e ≠ 0 → En l s (.error e)
  | far (n : Int) (r : ByteArray) : tnF s = (n, r, 0) → ((lastK ⟨#[]⟩ l).size : Int) < n → En l s (.error 3)
  | txt (n : Nat) (r t r2 : ByteArray) (e : Int) : tnF s = ((n : Int), r, 0) → n ≤ (lastK ⟨#[]⟩ l).size → ttF r 256 = (t, r2, e) → e ≠ 0 → En l s (.error e)
  | ord (n : Nat) (r t r2 : ByteArray) : tnF s = ((n : Int), r, 0) → n ≤ (lastK ⟨#[]⟩ l).size → ttF r 256 = (t, r2, 0) → l ≠ [] →
      ¬ (Op.bytesLess (lastK ⟨#[]⟩ l).toList ((lastK ⟨#[]⟩ l).extract 0 n ++ t).toList = true ∧ shB (lastK ⟨#[]⟩ l) ((lastK ⟨#[]⟩ l).extract 0 n ++ t) = n) → En l s (.error 16)
  | val (n : Nat) (r t r2 v r3 : ByteArray) (e : Int) : tnF s = ((n : Int), r, 0) → n ≤ (lastK ⟨#[]⟩ l).size → ttF r 256 = (t, r2, 0) →
      (l = [] ∨ (Op.bytesLess (lastK ⟨#[]⟩ l).toList ((lastK ⟨#[]⟩ l).extract 0 n ++ t).toList = true ∧ shB (lastK ⟨#[]⟩ l) ((lastK ⟨#[]⟩ l).extract 0 n ++ t) = n)) → ttF r2 4096 = (v, r3, e) → e ≠ 0 → En l s (.error e)
  | ok (n : Nat) (r t r2 v r3 : ByteArray) : tnF s = ((n : Int), r, 0) → n ≤ (lastK ⟨#[]⟩ l).size → ttF r 256 = (t, r2, 0) →
      (l = [] ∨ (Op.bytesLess (lastK ⟨#[]⟩ l).toList ((lastK ⟨#[]⟩ l).extract 0 n ++ t).toList = true ∧ shB (lastK ⟨#[]⟩ l) ((lastK ⟨#[]⟩ l).extract 0 n ++ t) = n)) → ttF r2 4096 = (v, r3, 0) → En l s (.ok (((lastK ⟨#[]⟩ l).extract 0 n ++ t, v), r3))
theorem en_total (l : List TT) (s : ByteArray) : ∃ x, En l s x := by
  obtain ⟨⟨n, r, e⟩, hq⟩ : ∃ x, tnF s = x := ⟨_, rfl⟩
  by_cases he : e = 0
  · subst he
    have h0 := (tnF_sz s r n hq).2.1
    by_cases h1 : ((lastK ⟨#[]⟩ l).size : Int) < n
    · exact ⟨_, .far n r hq h1⟩
    · obtain ⟨m, rfl⟩ : ∃ m : Nat, n = m := ⟨n.toNat, by omega⟩
      have h2 : m ≤ (lastK ⟨#[]⟩ l).size := by omega
      obtain ⟨⟨t, r2, e⟩, ht⟩ : ∃ x, ttF r 256 = x := ⟨_, rfl⟩
      by_cases he : e = 0
      · subst he
        by_cases hc : l = [] ∨ (Op.bytesLess (lastK ⟨#[]⟩ l).toList ((lastK ⟨#[]⟩ l).extract 0 m ++ t).toList = true ∧ shB (lastK ⟨#[]⟩ l) ((lastK ⟨#[]⟩ l).extract 0 m ++ t) = m)
        · obtain ⟨⟨v, r3, e⟩, hv⟩ : ∃ x, ttF r2 4096 = x := ⟨_, rfl⟩
          by_cases he : e = 0
          · subst he; exact ⟨_, .ok m r t r2 v r3 hq h2 ht hc hv⟩
          · exact ⟨_, .val m r t r2 v r3 e hq h2 ht hc hv he⟩
        · exact ⟨_, .ord m r t r2 hq h2 ht (fun h => hc (.inl h)) (fun h => hc (.inr h))⟩
      · exact ⟨_, .txt m r t r2 e hq h2 ht he⟩
  · exact ⟨_, .num n r e hq he⟩
/-- What becomes of so many entries that are still to be read. -/
inductive Un : Nat → List TT → ByteArray → Except Int (List TT) → Prop
  | done (l : List TT) : Un 0 l ⟨#[]⟩ (.ok l)
  | rest (l : List TT) (s : ByteArray) : s ≠ ⟨#[]⟩ → Un 0 l s (.error 3)
  | err (n : Nat) (l : List TT) (s : ByteArray) (e : Int) : En l s (.error e) → Un (n + 1) l s (.error e)
  | step (n : Nat) (l : List TT) (s r : ByteArray) (x : TT) (y : Except Int (List TT)) : En l s (.ok (x, r)) → Un n (l ++ [x]) r y → Un (n + 1) l s y
theorem un_total : ∀ (n : Nat) (l : List TT) (s : ByteArray), ∃ y, Un n l s y
  | 0, l, s => by
    by_cases h : s = ⟨#[]⟩
    · subst h; exact ⟨_, .done l⟩
    · exact ⟨_, .rest l s h⟩
  | n + 1, l, s => by
    obtain ⟨x, hx⟩ := en_total l s
    cases x with
    | error e => exact ⟨_, .err n l s e hx⟩
    | ok z =>
      obtain ⟨y, hy⟩ := un_total n (l ++ [z.1]) z.2
      exact ⟨y, .step n l s z.2 z.1 y hx hy⟩
theorem en_size {l : List TT} {s r : ByteArray} {x : TT} (h : En l s (.ok (x, r))) : r.size < s.size ∧ x.1.size + r.size ≤ (lastK ⟨#[]⟩ l).size + s.size ∧ x.2.size + r.size ≤ s.size := by
  cases h with
  | ok n r1 t r2 v r3 h1 h2 h3 h4 h5 =>
    have a := tnF_sz s r1 n h1
    have b := ttF_sz r1 t r2 256 h3
    have c := ttF_sz r2 v r 4096 h5
    have d : ((lastK ⟨#[]⟩ l).extract 0 n ++ t).size = n + t.size := by rw [ByteArray.size_append, ByteArray.size_extract]; omega
    refine ⟨by omega, ?_, by simp only; omega⟩
    simp only [d]
    omega
end Go.Proofs.Yteiifcmdpoonmaa
