/- A block as bytes: the mathematics. -/
import Derived.Test.YteiifcmdpoonmaaN7
import Derived.Test.YteiifcmdpoonmaaX4
namespace Go.Proofs.Yteiifcmdpoonmaa
set_option linter.unusedSimpArgs false
open Go.RowKit Go.Maps Go.Shelf
set_option linter.unusedVariables false
/-- The key of the last entry, or the text that stood ahead. -/
def lastK : ByteArray → List TT → ByteArray
  | a, [] => a
  | _, x :: xs => lastK x.1 xs
theorem lastK_snoc (a : ByteArray) (xs : List TT) (x : TT) : lastK a (xs ++ [x]) = x.1 := by
  induction xs generalizing a with
  | nil => rfl
  | cons y ys ih => exact ih y.1
/-- How many bytes a key has in common with the one ahead. -/
def shB (a b : ByteArray) : Nat := shN a.toList b.toList
theorem shB_le (a b : ByteArray) : shB a b ≤ b.size := by
  unfold shB
  rw [← len_eq b]
  exact go a.toList b.toList
where
  go : ∀ x y : List UInt8, shN x y ≤ y.length
    | [], y => by simp [shN]
    | _ :: _, [] => by simp [shN]
    | a :: x, b :: y => by
      unfold shN
      have := go x y
      split <;> simp <;> omega
/-- An entry's bytes behind a key. -/
def pkE (a : ByteArray) (x : TT) : List UInt8 := (numF (shB a x.1)).data.toList ++ cat [x.1.extract (shB a x.1) x.1.size, x.2]
def runE (f : ByteArray → TT → List UInt8) : ByteArray → List TT → List UInt8
  | _, [] => []
  | a, x :: xs => f a x ++ runE f x.1 xs
theorem runE_snoc (f : ByteArray → TT → List UInt8) (a : ByteArray) (xs : List TT) (x : TT) : runE f a (xs ++ [x]) = runE f a xs ++ f (lastK a xs) x := by
  induction xs generalizing a with
  | nil => simp [runE, lastK]
  | cons y ys ih => simp only [List.cons_append, runE, lastK]; rw [ih y.1, List.append_assoc]
theorem runE_len (f : ByteArray → TT → List UInt8) (a : ByteArray) (xs : List TT) (m : Nat) (h : ∀ x ∈ xs, ∀ a, (f a x).length ≤ m) : (runE f a xs).length ≤ xs.length * m := by
  induction xs generalizing a with
  | nil => simp [runE]
  | cons x xs ih =>
    have i := ih x.1 (fun y hy => h y (List.mem_cons_of_mem _ hy))
    have e := h x (List.mem_cons_self ..) a
    rw [runE, List.length_append, List.length_cons, Nat.succ_mul]
    omega
def pkL (a : ByteArray) (xs : List TT) : List UInt8 := runE pkE a xs
theorem pkL_snoc (a : ByteArray) (xs : List TT) (x : TT) : pkL a (xs ++ [x]) = pkL a xs ++ pkE (lastK a xs) x := runE_snoc pkE a xs x
theorem ext_size (s : ByteArray) (k : Nat) : (s.extract k s.size).size ≤ s.size := by
  simp
theorem pkE_len (a : ByteArray) (x : TT) (m : Nat) (h1 : x.1.size ≤ m) (h2 : x.2.size ≤ m) : (pkE a x).length ≤ 15 + 2 * m := by
  unfold pkE
  have h := cat_size [x.1.extract (shB a x.1) x.1.size, x.2] m (by
    intro s hs
    simp at hs
    rcases hs with rfl | rfl
    · exact Nat.le_trans (ext_size _ _) h1
    · exact h2)
  have n := numF_size (shB a x.1)
  have e : (numF (shB a x.1)).data.toList.length = (numF (shB a x.1)).size := by simp
  rw [List.length_append, e]
  have h2 : ([x.1.extract (shB a x.1) x.1.size, x.2] : List ByteArray).length = 2 := rfl
  rw [h2] at h
  generalize (cat [x.1.extract (shB a x.1) x.1.size, x.2]).length = q at *
  generalize (numF (shB a x.1)).size = p at *
  omega
theorem pkL_len (a : ByteArray) (xs : List TT) (m : Nat) (h : ∀ x ∈ xs, x.1.size ≤ m ∧ x.2.size ≤ m) : (pkL a xs).length ≤ xs.length * (15 + 2 * m) :=
  runE_len pkE a xs _ (fun x hx a => pkE_len a x m (h x hx).1 (h x hx).2)
/-- A block's bytes. -/
def pkB (xs : List TT) : List UInt8 := (numF (xs.length : Int)).data.toList ++ pkL ⟨#[]⟩ xs
open Classical in
noncomputable def pkF (xs : List TT) : ByteArray := if ris xs then ⟨(pkB xs).toArray⟩ else ⟨#[]⟩
theorem take_snoc {xs : List TT} {k : Nat} {x : TT} (h : xs[k]? = some x) : xs.take (k + 1) = xs.take k ++ [x] := by
  obtain ⟨hk, e⟩ := List.getElem?_eq_some_iff.1 h
  rw [List.take_succ_eq_append_getElem hk, e]
theorem pk_step {xs : List TT} {k : Nat} {x : TT} (h : xs[k]? = some x) : pkL ⟨#[]⟩ (xs.take (k + 1)) = pkL ⟨#[]⟩ (xs.take k) ++ ((numF (shB (lastK ⟨#[]⟩ (xs.take k)) x.1)).data.toList ++ cat [x.1.extract (shB (lastK ⟨#[]⟩ (xs.take k)) x.1) x.1.size, x.2]) ∧ lastK ⟨#[]⟩ (xs.take (k + 1)) = x.1 := by
  rw [take_snoc h, pkL_snoc, lastK_snoc]
  refine ⟨?_, rfl⟩
  have q : ∀ a x, pkE a x = (numF (shB a x.1)).data.toList ++ cat [x.1.extract (shB a x.1) x.1.size, x.2] := fun a x => by unfold pkE; rfl
  rw [q]
theorem lit2_rd (w : World) (t : TypeId) (x y : ByteArray) : Rd (w.alloc (.cells #[.string x, .string y] t)) (w.alloc (.cells #[.string x, .string y] t)).heap.size (some ⟨w.heap.size, 0, none⟩) ([x, y].map Value.string) := by
  refine .inr ⟨w.heap.size, 0, rfl, by simp, fun j u hj => ?_⟩
  have := World.news_of_block (w := w.alloc (.cells #[.string x, .string y] t)) (B := w.heap.size) (cs := #[.string x, .string y]) (t := t) (fr := (0, 0)) (heap_alloc_new w _) j u (by simpa using hj)
  have hadd : (⟨w.heap.size, 0, none⟩ : Addr).add j = ⟨w.heap.size, 0 + j, none⟩ := by unfold Addr.add; split <;> simp_all
  rw [hadd] at this; exact this
theorem rd_drew {w : World} {A : Option Addr} {l : List Value} (h : Rd w w.heap.size A l) : Rd w.drew w.drew.heap.size A l := Rd.later h (drew_bel w)
end Go.Proofs.Yteiifcmdpoonmaa
