/- Rows of messages and numbers do not lie in a node's box. -/
import Derived.Test.YtilnpeekajnlhaaGreatTh29
set_option linter.unusedVariables false
set_option linter.unusedSimpArgs false
namespace Go.Proofs.YtilnpeekajnlhaaGreat
open Go.RowKit Go.Maps
theorem rd_chg {α : Type} {E : RE α} {W W' : World} {N : Nat} {A : Option Addr} {l : List α} (h : E.Rd W A l) (hc : Chg (fun g => g = N) W W') (hN : l = [] ∨ ∀ g o s, A = some ⟨g, o, s⟩ → g ≠ N) : E.Rd W' A l := by
  rcases hN with rfl | hN
  · exact .inl rfl
  · rcases h with h1 | ⟨b, off, e, hlt, hv⟩
    · exact .inl h1
    · subst e
      exact .inr ⟨b, off, rfl, Nat.lt_of_lt_of_le hlt hc.size, fun j u hj => (World.cell?_of_block (hc.block b hlt (fun e => hN b off none rfl e))).trans (hv j u hj)⟩
theorem int_off {W : World} {A : Option Addr} {T : List Int} {N : Nat} {kd : Int} {b1 b2 b3 b4 : Option Addr} {n1 n2 n3 n4 c1 c2 c3 c4 : Nat} {t : TypeId} (h : EI.Rd W A T) (z : W.heap[N]? = some (.cells #[.int .u8 kd, .slice b1 n1 c1, .slice b2 n2 c2, .slice b3 n3 c3, .slice b4 n4 c4] t (0, 0))) : T = [] ∨ ∀ g o s, A = some ⟨g, o, s⟩ → g ≠ N := by
  cases T with
  | nil => exact .inl rfl
  | cons x xs =>
    right
    rintro g o s rfl e
    subst e
    rcases h with h | ⟨b, off, e, hb, hv⟩
    · have := EI.all_empty h
      cases this
    · cases e
      have q := hv 0 (.int .i64 x) (by rw [RE.all_cons]; rfl)
      simp only [Nat.add_zero, World.cell?, z] at q
      match o, q with
      | 0, q => simp at q
      | 1, q => simp at q
      | 2, q => simp at q
      | 3, q => simp at q
      | 4, q => simp at q
      | (j + 5), q => simp at q
theorem msg_off {W : World} {A : Option Addr} {T : List MG} {N : Nat} {kd : Int} {b1 b2 b3 b4 : Option Addr} {n1 n2 n3 n4 c1 c2 c3 c4 : Nat} {t : TypeId} (h : EG.Rd W A T) (z : W.heap[N]? = some (.cells #[.int .u8 kd, .slice b1 n1 c1, .slice b2 n2 c2, .slice b3 n3 c3, .slice b4 n4 c4] t (0, 0))) : T = [] ∨ ∀ g o s, A = some ⟨g, o, s⟩ → g ≠ N := by
  cases T with
  | nil => exact .inl rfl
  | cons x xs =>
    right
    rintro g o s rfl e
    subst e
    obtain ⟨b, off, e, _, _, q, _, _, _, _⟩ := eg_at h (i := 0) (x := x) rfl
    cases e
    simp only [Nat.zero_mul, Nat.add_zero, World.cell?, z] at q
    match o, q with
    | 0, q => simp at q
    | 1, q => simp at q
    | 2, q => simp at q
    | 3, q => simp at q
    | 4, q => simp at q
    | (j + 5), q => simp at q
end Go.Proofs.YtilnpeekajnlhaaGreat
