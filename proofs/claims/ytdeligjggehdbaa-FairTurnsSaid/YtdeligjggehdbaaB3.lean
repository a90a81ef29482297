/- The law FairTurns: words. -/
import Derived.Test.YtdeligjggehdbaaB2
namespace Go.Proofs.Ytdeligjggehdbaa
set_option linter.unusedSimpArgs false
open Go.RowKit Go.Maps
set_option linter.unusedVariables false

def atF (L : List (List Int)) (i : Nat) : Nat := ((L.take i).flatten).length
theorem TF_flat (p q : List Int) : ∀ i, i ≤ p.length → (TF p q i).1.flatten = p.take (TF p q i).2 ∧ ∀ s ∈ (TF p q i).1, 1 ≤ s.length
  | 0, _ => by simp [TF]
  | i + 1, h => by
    have ih := TF_flat p q i (by omega)
    have hle := (TF_le p q i).1
    unfold TF
    split
    · constructor
      · rw [List.flatten_append, ih.1]
        simp only [List.flatten_cons, List.flatten_nil, List.append_nil]
        unfold segF
        have e : p.take (i + 1) = p.take (TF p q i).2 ++ (p.take (i + 1)).drop (TF p q i).2 := by
          rw [← List.take_append_drop (TF p q i).2 (p.take (i + 1))]
          congr 1
          · rw [List.take_take]; congr 1; omega
          · simp
        rw [e, List.drop_take]
      · intro s hs
        rcases List.mem_append.1 hs with hs | hs
        · exact ih.2 s hs
        · rw [List.mem_singleton.1 hs, seg_len p _ (i + 1) h (by omega)]; omega
    · exact ih
theorem flat_at (p : List Int) (L : List (List Int)) (f i : Nat) (h : L.flatten = p.take f) (hi : i < L.length) :
    atF L i + L[i].length ≤ p.length ∧ (p.drop (atF L i)).take L[i].length = L[i] ∧ atF L (i + 1) = atF L i + L[i].length := by
  have e1 : L = L.take i ++ L[i] :: L.drop (i + 1) := by rw [List.getElem_cons_drop, List.take_append_drop]
  have e2 : p = (L.take i).flatten ++ (L[i] ++ ((L.drop (i + 1)).flatten ++ p.drop f)) := by
    have := congrArg List.flatten e1
    rw [List.flatten_append, List.flatten_cons] at this
    rw [← List.append_assoc, ← List.append_assoc, List.append_assoc (L.take i).flatten, ← this, h, List.take_append_drop]
  refine ⟨?_, ?_, ?_⟩
  · have := congrArg List.length e2
    simp only [List.length_append] at this
    unfold atF; omega
  · unfold atF
    have : p.drop ((L.take i).flatten).length = L[i] ++ ((L.drop (i + 1)).flatten ++ p.drop f) := by
      conv => lhs; rw [e2]
      exact List.drop_left
    rw [this]
    exact List.take_left
  · unfold atF
    rw [List.take_succ_eq_append_getElem hi, List.flatten_append]; simp
theorem Pcs.later {w w' : World} {lo : Nat} {row : Option Nat} {xs : List Value} {l : List (List Int)} (h : Pcs w lo row xs l) (hb : Below w.heap.size w w') : Pcs w' lo row xs l := h.kept (bel_grown hb row)
theorem own_form {w : World} {base n : Nat} {e : TypeId} {v : Value} {xs : List Value} (h : w.ownsRow base e 1 v n xs) : ∃ A c, v = .slice A n c ∧ Rd w w.heap.size A xs := by
  have h' := h
  rcases h.2 with ⟨rfl, rfl⟩ | ⟨g, cap, cur, rfl, _⟩
  · refine ⟨none, 0, rfl, .inl ?_⟩
    have := h.1
    simpa using this
  · exact ⟨_, _, rfl, Rd.of_own h' (by decide)⟩
/-- A piece, as its row's cell has it. -/
theorem Pcs.piece {w : World} {lo base m c : Nat} {A : Option Addr} {xs : List Value} {L : List (List Int)} (hr : w.ownsRow base 22 1 (.slice A m c) m xs) (h : Pcs w lo (Value.slice A m c).ownBlock xs L) {i : Nat} (hi : i < L.length) :
    ∃ rb ro b off cc, A = some ⟨rb, ro, none⟩ ∧ w.cell? ⟨rb, ro + i, none⟩ = some (.slice (some ⟨b, off, none⟩) L[i].length cc) ∧ RdI w (some ⟨b, off, none⟩) L[i] ∧ L[i].length ≤ cc ∧ cc ≤ maxLen := by
  obtain ⟨b, off, cc, e1, _, _, e4, e5, e6⟩ := h.2 i hi
  obtain ⟨rb, ro, hA, _, hc⟩ := Rd.get (Rd.of_own hr (by decide)) e1
  exact ⟨rb, ro, b, off, cc, hA, hc, e4, e5, e6⟩
end Go.Proofs.Ytdeligjggehdbaa
