/- A row is written at a place. -/
import Derived.Test.YtlffigkjhhcohaaS8
namespace Go.Proofs.Ytlffigkjhhcohaa
set_option linter.unusedSimpArgs false
open Go.RowKit Go.Maps
set_option linter.unusedVariables false

theorem Row.place {w : World} {base : Nat} {A : Option Addr} {l : List Int} {c : Nat} (h : Row w base A l c) {j : Nat} (hj : j < l.length) :
    ∃ g, A = some ⟨g, 0, none⟩ ∧ fpr A c = some g ∧ w.cell? ⟨g, j, none⟩ = some (.int .i64 (l.getD j 0)) ∧ w.frozen? ⟨g, j, none⟩ = false ∧ ∀ x, Row (w.setCell ⟨g, j, none⟩ (.int .i64 x)) base A (l.set j x) c := by
  rcases h with ⟨h, _⟩ | ⟨h0, h⟩
  · subst h; simp at hj
  · obtain ⟨g, cap, hv, _, _⟩ := h.form (by omega)
    obtain rfl : A = some ⟨g, 0, none⟩ := by injection hv
    have hc : ¬ c = 0 := by omega
    refine ⟨g, rfl, by simp [fpr, hc], ?_, h.frozenAt j, fun x => .inr ⟨h0, ?_⟩⟩
    · have h1 := h.cellAt j (by omega)
      rw [h1, List.getElem?_map, List.getElem?_eq_getElem hj, List.getD_eq_getElem?_getD, List.getElem?_eq_getElem hj]; rfl
    · have h1 := h.stored j (.int .i64 x)
      rw [List.length_set, List.map_set]
      exact h1.1
end Go.Proofs.Ytlffigkjhhcohaa
