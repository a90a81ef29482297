/- The program's turns: words. -/
import Derived.Test.YtdeligjggehdbaaA5
import Derived.Maps.OwnOps
namespace Go.Proofs.Ytdeligjggehdbaa
set_option linter.unusedSimpArgs false
open Go.RowKit Go.Maps
set_option linter.unusedVariables false

theorem clear_own {w : World} {b n : Nat} {D : DataW Unit} (h : w.ownsMap Try.prog 3 (plainElem Try.prog 3) b n D) (ty : TypeId) :
    ∃ w', (Builtin.clear_ #[31] ty #[.map (some b)]).run Try.prog w = .ok (.tuple #[]) w' ∧ w'.ownsMap (H := Unit) Try.prog 3 (plainElem Try.prog 3) b 0 (.map []) ∧ w.grownBy w' (some b) := by
  obtain ⟨es, clock, hb, F, _, rfl⟩ := h
  refine ⟨{ w with heap := w.heap.setIfInBounds b (.map #[] clock) }, ?_, ⟨#[], clock, (MapKept.heap_set hb).1, ⟨by simp, MapKept.stamped_empty _, by simp⟩, Nat.le_refl _, rfl⟩, ⟨rfl, rfl, rfl, by simp, fun i _ hi => (MapKept.heap_set hb).2 i (fun e => hi (by rw [e]))⟩⟩
  simp [Builtin.clear_, run_underlying Try.underlying31, MapKept.run_getObj_map hb, MapKept.run_setObj_map _ hb, Result.andThen]
theorem wpList_clear_own (w : World) {ops : Array Oper} {rest : List Oper} {o : Oper} {a : Act} {Q : Exit → Act → World → Prop} (hg : o.guard = none) (m : Operand)
    (hop : o.op = Op.call { callee := Callee.builtin Builtin.clear, args := #[m], argTypes := #[31] }) (b n : Nat) (D : DataW Unit) (hm : a.eval m = .map (some b)) (hown : w.ownsMap Try.prog 3 (plainElem Try.prog 3) b n D)
    (hK : ∀ w', w'.ownsMap (H := Unit) Try.prog 3 (plainElem Try.prog 3) b 0 (.map []) → w.grownBy w' (some b) → wpList Try.prog ops Q rest (a.put o.dst (.tuple #[])) w') :
    wpList Try.prog ops Q (o :: rest) a w := by
  refine wpList_plain hg fun K' hK' => ?_
  obtain ⟨w', hrun, r1, r2⟩ := clear_own hown o.type
  unfold Oper.wp
  simp [execOp, hop, resolve, invoke, builtin, hm, hrun, Result.andThen]
  exact hK' _ _ (hK w' r1 r2)

/-- Slices of numbers, one by one, each in a block that is not the row's own. -/
def Pcs (w : World) (lo : Nat) (row : Option Nat) (xs : List Value) (l : List (List Int)) : Prop :=
  xs.length = l.length ∧ ∀ j (h : j < l.length), ∃ b off c, xs[j]? = some (.slice (some ⟨b, off, none⟩) l[j].length c) ∧ (some b ≠ row ∧ lo ≤ b) ∧ b < w.heap.size ∧ RdI w (some ⟨b, off, none⟩) l[j] ∧ l[j].length ≤ c ∧ c ≤ maxLen
theorem Pcs.nil (w : World) (lo : Nat) (row : Option Nat) : Pcs w lo row [] [] := ⟨rfl, fun j h => by simp at h⟩
theorem rdi_kept {w w' : World} {row : Option Nat} {b off : Nat} {l : List Int} (h : RdI w (some ⟨b, off, none⟩) l) (hg : w.grownBy w' row) (hne : some b ≠ row) : RdI w' (some ⟨b, off, none⟩) l := by
  rcases h with h | ⟨b', off', e, hlt, hc⟩
  · exact .inl h
  · cases e
    exact .inr ⟨b, off, rfl, Nat.lt_of_lt_of_le hlt hg.size, fun j u hj => hg.cell (hc j u hj) hne⟩
theorem Pcs.kept {w w' : World} {lo : Nat} {row : Option Nat} {xs : List Value} {l : List (List Int)} (h : Pcs w lo row xs l) (hg : w.grownBy w' row) : Pcs w' lo row xs l := by
  refine ⟨h.1, fun j hj => ?_⟩
  obtain ⟨b, off, c, e1, e2, e3, e4, e5, e6⟩ := h.2 j hj
  exact ⟨b, off, c, e1, e2, Nat.lt_of_lt_of_le e3 hg.size, rdi_kept e4 hg e2.1, e5, e6⟩
/-- .. where something else is written that is none of the pieces. -/
theorem Pcs.kept' {w w' : World} {lo : Nat} {row row2 : Option Nat} {xs : List Value} {l : List (List Int)} (h : Pcs w lo row xs l) (hg : w.grownBy w' row2) (hn : ∀ b, row2 = some b → b < lo ∨ w.heap.size ≤ b) : Pcs w' lo row xs l := by
  refine ⟨h.1, fun j hj => ?_⟩
  obtain ⟨b, off, c, e1, e2, e3, e4, e5, e6⟩ := h.2 j hj
  exact ⟨b, off, c, e1, e2, Nat.lt_of_lt_of_le e3 hg.size, rdi_kept e4 hg (fun e => by have := hn b e.symm; omega), e5, e6⟩
theorem Pcs.row {w : World} {lo : Nat} {row row2 : Option Nat} {xs : List Value} {l : List (List Int)} (h : Pcs w lo row xs l) (hn : row2 = row ∨ ∃ N, row2 = some N ∧ w.heap.size ≤ N) : Pcs w lo row2 xs l := by
  refine ⟨h.1, fun j hj => ?_⟩
  obtain ⟨b, off, c, e1, e2, e3, e4, e5, e6⟩ := h.2 j hj
  refine ⟨b, off, c, e1, ?_, e3, e4, e5, e6⟩
  rcases hn with rfl | ⟨N, rfl, hN⟩
  · exact e2
  · exact ⟨by simp; omega, e2.2⟩
/-- .. behind an append to the row. -/
theorem Pcs.app {w w' : World} {lo g : Nat} {row : Option Nat} {xs : List Value} {l : List (List Int)} (h : Pcs w lo row xs l) (hg : w.grownBy w' row) (hn : row = some g ∨ g = w.heap.size) : Pcs w' lo (some g) xs l := by
  refine ⟨h.1, fun j hj => ?_⟩
  obtain ⟨b, off, c, e1, e2, e3, e4, e5, e6⟩ := h.2 j hj
  refine ⟨b, off, c, e1, ⟨?_, e2.2⟩, Nat.lt_of_lt_of_le e3 hg.size, rdi_kept e4 hg e2.1, e5, e6⟩
  rcases hn with rfl | rfl
  · exact e2.1
  · simp; omega
theorem own_cap {w : World} {base n c size : Nat} {e : TypeId} {A : Option Addr} {xs : List Value} (h : w.ownsRow base e size (.slice A n c) n xs) (hn : 0 < n) : n ≤ c ∧ c ≤ maxLen := by
  rcases h.2 with ⟨hv, h0⟩ | ⟨g, cap, cur, hv, _, _, h1, h2, _⟩
  · omega
  · cases hv; exact ⟨h1, h2⟩
theorem Pcs.snoc {w : World} {lo : Nat} {row : Option Nat} {xs : List Value} {l : List (List Int)} (h : Pcs w lo row xs l) {b off c : Nat} {s : List Int} (h2 : some b ≠ row ∧ lo ≤ b) (h3 : b < w.heap.size) (h4 : RdI w (some ⟨b, off, none⟩) s) (h5 : s.length ≤ c) (h6 : c ≤ maxLen) :
    Pcs w lo row (xs ++ [.slice (some ⟨b, off, none⟩) s.length c]) (l ++ [s]) := by
  refine ⟨by simp [h.1], fun j hj => ?_⟩
  by_cases e : j < l.length
  · obtain ⟨b', off', c', e1, e2, e3, e4, e5, e6⟩ := h.2 j e
    have hl : (l ++ [s])[j] = l[j] := List.getElem_append_left e
    rw [hl]
    exact ⟨b', off', c', by rw [List.getElem?_append_left (by rw [h.1]; exact e)]; exact e1, e2, e3, e4, e5, e6⟩
  · simp at hj
    have hj' : j = l.length := by omega
    subst hj'
    have hl : (l ++ [s])[l.length] = s := by simp
    rw [hl]
    exact ⟨b, off, c, by rw [← h.1]; simp, h2, h3, h4, h5, h6⟩
end Go.Proofs.Ytdeligjggehdbaa
