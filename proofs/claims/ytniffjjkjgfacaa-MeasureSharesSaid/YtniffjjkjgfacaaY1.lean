/- The nodes of the tree that live asks of. -/
import Derived.Test.YtniffjjkjgfacaaV1
namespace Go.Proofs.Ytniffjjkjgfacaa
set_option linter.unusedSimpArgs false
open Go.RowKit Go.Maps Go.Shelf
set_option linter.unusedVariables false
abbrev S0 : Value := .slice none 0 0
abbrev KS (kb : Nat) : Value := .slice (some ⟨kb, 0, none⟩) 1 1
/-- The tree's nodes lie at block b, the one kid at block kb. -/
def TreeAt (w : World) (b kb : Nat) : Prop :=
  w.heap[b]? = some (.cells #[.int .u8 0, S0, S0, S0, S0, .int .u8 2, S0, KS kb, S0, S0, .int .u8 1, S0, S0, S0, S0] 43 (0, 0)) ∧ w.heap[kb]? = some (.cells #[.int .i64 2] 3 (0, 0))
theorem TreeAt.later {w w' : World} {b kb : Nat} (h : TreeAt w b kb) (hb : Below w.heap.size w w') : TreeAt w' b kb := ⟨keep_bel hb h.1, keep_bel hb h.2⟩
abbrev TV (b : Nat) : Value := .agg #[.slice (some ⟨b, 0, none⟩) 3 3]
theorem tree_cells {w : World} {b kb : Nat} (h : TreeAt w b kb) (j : Nat) (v : Value) (hv : (#[.int .u8 0, S0, S0, S0, S0, .int .u8 2, S0, KS kb, S0, S0, .int .u8 1, S0, S0, S0, S0] : Array Value)[j]? = some v) : w.cell? ⟨b, j, none⟩ = some v := by
  simp only [World.cell?, h.1]
  exact hv
theorem box5_set {W : World} {g : Nat} {u0 u1 u2 u3 u4 : Value} {t : TypeId} (z0 : W.heap[g]? = some (.cells #[u0, u1, u2, u3, u4] t (0, 0))) (a b c d e : Value) :
    (((((W.setCell ⟨g, 0, none⟩ a).setCell ⟨g, 1, none⟩ b).setCell ⟨g, 2, none⟩ c).setCell ⟨g, 3, none⟩ d).setCell ⟨g, 4, none⟩ e).heap[g]? = some (.cells #[a, b, c, d, e] t (0, 0)) ∧ Chg (fun x => x = g) W (((((W.setCell ⟨g, 0, none⟩ a).setCell ⟨g, 1, none⟩ b).setCell ⟨g, 2, none⟩ c).setCell ⟨g, 3, none⟩ d).setCell ⟨g, 4, none⟩ e) := by
  refine ⟨?_, ((((Chg.set (D := fun x => x = g) W a rfl).trans (Chg.set (D := fun x => x = g) _ b rfl) (fun x e => .inl e)).trans (Chg.set (D := fun x => x = g) _ c rfl) (fun x e => .inl e)).trans (Chg.set (D := fun x => x = g) _ d rfl) (fun x e => .inl e)).trans (Chg.set (D := fun x => x = g) _ e rfl) (fun x e => .inl e)⟩
  simp [World.setCell, Array.getElem?_modify, z0]
theorem iss (w : World) (p : Addr) (u : Value) (q : Addr) : ((w.setCell p u).cell? q).isSome = (w.cell? q).isSome := by
  by_cases h : p = q
  · subst h
    cases hq : w.cell? p with
    | some x => rw [World.cell?_setCell_same (h := hq)]; rfl
    | none =>
      simp only [World.setCell, World.cell?, Array.getElem?_modify, if_true] at hq ⊢
      cases hh : w.heap[p.block]? with
      | none => simp
      | some x => cases x <;> simp_all
  · rw [World.cell?_setCell_other (h := h)]
theorem fz {W : World} {g : Nat} {cs : Array Value} {t : TypeId} (z : W.heap[g]? = some (.cells cs t (0, 0))) (j : Nat) : W.frozen? ⟨g, j, none⟩ = false := by simp [World.frozen?, z]
end Go.Proofs.Ytniffjjkjgfacaa
