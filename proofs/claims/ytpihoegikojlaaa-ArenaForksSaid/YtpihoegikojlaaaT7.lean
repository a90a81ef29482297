/- Two arenas side by side: words. -/
import Derived.Test.YtpihoegikojlaaaT6
import Derived.Test.YtpihoegikojlaaaP9
import Derived.Test.YtpihoegikojlaaaV1
namespace Go.Proofs.Ytpihoegikojlaaa
set_option linter.unusedSimpArgs false
open Go.RowKit Go.Maps
set_option linter.unusedVariables false
variable {F : Nat → Prop}

/-- What an arena and the document's row lie in; where that is kept, they say what they said. -/
theorem SR.lock {lo N : Nat} {K R : Nat → Prop} {b b' : AB} {w : World} {cs : Array Value} (h : SR lo N K R b b' w cs) :
    ∃ S : Nat → Prop, (∀ g, S g → g < w.heap.size) ∧ (∀ g, S g → ¬ K g) ∧ ∀ w', Chg (fun g => ¬ S g) w w' → SR lo N (fun _ => False) (fun _ => False) b b' w' cs := by
  obtain ⟨A, G, c, d, h1, h2, h3, h4, hK⟩ := h
  obtain ⟨q1, q2, q3, q4, q5, q6, ⟨Ar, cr, q7, q8, q9⟩⟩ := h2
  refine ⟨fun g => FA N A G d g ∨ (b'.bk ≠ [] ∧ Ar.map (·.block) = some g), ?_, ?_, ?_⟩
  · rintro g (e | ⟨e1, e2⟩)
    · exact h1.fin g e
    · rcases q9.1 with e | ⟨bb, off, e, hlt, _⟩
      · exact absurd (List.map_eq_nil_iff.1 e) e1
      · rw [e] at e2; simp at e2; omega
  · rintro g (e | ⟨e1, e2⟩) hk
    · exact (hK g (.inl hk)).2 e
    · rcases q9.2 with e | e
      · exact e1 e
      · cases Ar with
        | none => simp at e2
        | some a => simp at e2; exact e a rfl (.inr (by rw [e2]; exact hk))
  · intro w' hc
    refine ⟨A, G, c, d, h1.far hc (fun g hg hf => hg (.inl hf)), ⟨q1, q2, q3, q4, q5, q6, ⟨Ar, cr, q7, q8, ?_⟩⟩, h3, h4, fun g hg => (hg.elim id id).elim⟩
    by_cases hl : b'.bk = []
    · rw [hl]; exact ⟨.inl rfl, .inl rfl⟩
    · refine ⟨rdi_chg q9.1 hc (fun a ha hn => hn (.inr ⟨hl, by rw [ha]; rfl⟩)), ?_⟩
      rcases q9.2 with e | e
      · exact .inl e
      · exact .inr (fun a ha hf => by
          rcases hf with hf | hf
          · exact e a ha (.inl hf)
          · exact hf)
/-- The fork beside the other one. -/
theorem SR.fork {lo N : Nat} {K R : Nat → Prop} {b b' : AB} {w w2 : World} {cs : Array Value} {lo2 N2 : Nat} {A2 G2 : Option Addr} {c2 d2 yb : Nat} (h : SR lo N K R b b' w cs) (hP : PA w2 lo2 N2 A2 G2 c2 d2 b) (hb : Below w.heap.size w w2) (hlo : w.heap.size ≤ lo2) (hy : w.heap.size ≤ yb ∧ yb < w2.heap.size ∧ ¬ FA N2 A2 G2 d2 yb) :
    ∃ F : Nat → Prop, (∀ g, F g → g < w.heap.size) ∧ SR lo2 N2 (fun g => g = yb ∨ F g ∨ K g) (fun _ => False) b b' w2 cs ∧
      ∀ w' (S : Nat → Prop), Below w.heap.size w w' → (∀ g, S g → g < w'.heap.size) → (∀ g, S g → ¬ F g) → SR lo N K S b b' w' cs := by
  obtain ⟨A, G, c, d, h1, h2, h3, h4, hK⟩ := h
  refine ⟨FA N A G d, h1.fin, ⟨A2, G2, c2, d2, hP, h2.chg (Chg.of_below hb) ?_, h3, h4, ?_⟩, fun w' S hb' hS hF => ?_⟩
  · rintro g (e | e | e | e)
    · right; have := hP.low g e; omega
    · right; omega
    · exact .inl (.inl e)
    · exact .inl (.inr e)
  · rintro g ((e | e | e) | e)
    · subst e; exact ⟨hy.2.1, hy.2.2⟩
    · have := h1.fin g e
      exact ⟨Nat.lt_of_lt_of_le this hb.size, fun hf => by have := hP.low g hf; omega⟩
    · have := (hK g (.inl e)).1
      exact ⟨Nat.lt_of_lt_of_le this hb.size, fun hf => by have := hP.low g hf; omega⟩
    · exact e.elim
  · refine ⟨A, G, c, d, h1.later hb', h2.later hb', h3, h4, ?_⟩
    rintro g (e | e)
    · exact ⟨Nat.lt_of_lt_of_le (hK g (.inl e)).1 hb'.size, (hK g (.inl e)).2⟩
    · exact ⟨hS g e, hF g e⟩

theorem SR.pfork {lo N : Nat} {K R : Nat → Prop} {b b' : AB} {w : World} {cs : Array Value} (h : SR lo N K R b b' w cs) : Calls Try.prog 16 #[.pointer (some ⟨N, 0, none⟩)] w (ForkPost w b) := by
  obtain ⟨A, G, c, d, h1, h2, h3, h4, hK⟩ := h
  exact Ytpihoegikojlaaa.pfork h1 h3
theorem chg_of {lo : Nat} {S : Nat → Prop} {w w' : World} (hb : Below lo w w') (hk : ∀ g, S g → w'.heap[g]? = w.heap[g]?) : Chg (fun g => ¬ S g) w w' :=
  ⟨hb.os, hb.tape, hb.output, hb.size, fun g _ hn => hk g (Classical.not_not.1 hn)⟩
/-- The fork's row is laid behind it: the arena stands. -/
theorem PA.row {lo N : Nat} {A G : Option Addr} {c d : Nat} {b : AB} {w : World} (h : PA w lo N A G c d b) {g : Nat} (hg : ¬ FA N A G d g) (cs : Array Value) : PA (w.setRow g cs) lo N A G c d b :=
  h.far (Chg.of_grown (D := fun x => x = g) grown_row (fun x hx => by cases hx; rfl)) (fun x hx => by rw [hx]; exact hg)
theorem PA.low' {lo N : Nat} {A G : Option Addr} {c d : Nat} {b : AB} {w : World} (h : PA w lo N A G c d b) {g : Nat} (hg : g < lo) : ¬ FA N A G d g := fun e => by
  have := h.low g e; omega
theorem PA.high {lo N : Nat} {A G : Option Addr} {c d : Nat} {b : AB} {w : World} (h : PA w lo N A G c d b) {g : Nat} (hg : w.heap.size ≤ g) : ¬ FA N A G d g := fun e => by
  have := h.fin g e; omega
end Go.Proofs.Ytpihoegikojlaaa
