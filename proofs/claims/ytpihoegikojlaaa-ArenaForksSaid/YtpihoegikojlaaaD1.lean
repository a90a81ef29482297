/- Deeds that came in, opened. -/
import Derived.Test.YtpihoegikojlaaaRows
import Derived.WalkKit
import Derived.ProofKit
import Derived.OpenShut
import Derived.ShutString
import Derived.ChangeOld
import Derived.ChangeSame
import Derived.Below
import Derived.Lib.SmallJoins
import Derived.SizedLaws
import Derived.Deep.Slices
import Derived.Deep.Strs
import Derived.Test.YtpihoegikojlaaaS8
namespace Go.Proofs.Ytpihoegikojlaaa
open Go.ChangeShapes Go.WideShapes Go.ChangeAt Go.RowKit Go.Joins
set_option linter.unusedVariables false
set_option linter.unusedSimpArgs false

theorem ep_own : ownKnob Try.prog.godebug = none := by kernel_rfl
theorem ep_laidOut : laidOutB Try.prog = true := by kernel_rfl
theorem ep_cells37 : Try.prog.cellsOf 37 = 3 := by kernel_rfl
theorem ep_cells3 : Try.prog.cellsOf 3 = 1 := by kernel_rfl

/-- An element of the list: three numbers, one behind the other. -/
theorem deed_cells {H : Type} {enc : TypeId × Value → H} {w : World} {base : Nat} {spare : Nat → Bool} {held : Bool} {n : Nat} {a : Addr} {cs : List Value} {x : DataW H × List MemPlace}
    (hc : w.cells? base a 3 = some cs) (h : DataW.trod enc Try.prog w base spare held n 37 cs = some x) :
    ∃ t : Int × Int × Int, (w.cell? (a.add 0) = some (.int .i64 t.1) ∧ w.cell? (a.add 1) = some (.int .i64 t.2.1) ∧ w.cell? (a.add 2) = some (.int .i64 t.2.2)) ∧ (Lit.int .i64 t.1).wf = true ∧ (Lit.int .i64 t.2.1).wf = true ∧ (Lit.int .i64 t.2.2).wf = true := by
  obtain ⟨_, hl, hi⟩ := World.cells?_some hc
  obtain ⟨y0, y1, y2, m, _, _, h0, h1, h2⟩ := Go.Deep.trod_struct3 Try.underlying37 h
  match cs, hl with
  | [c0, c1, c2], _ =>
    simp only [ep_cells3, List.drop_zero, List.take_succ_cons, List.take_zero, List.drop_succ_cons] at h0 h1 h2
    obtain ⟨p, e0, _, w0⟩ := DataW.trod_int Try.underlying3 h0
    obtain ⟨q, e1, _, w1⟩ := DataW.trod_int Try.underlying3 h1
    obtain ⟨r, e2, _, w2⟩ := DataW.trod_int Try.underlying3 h2
    simp at e0 e1 e2
    subst e0 e1 e2
    exact ⟨⟨p, q, r⟩, ⟨by simpa using hi 0 (by omega), by simpa using hi 1 (by omega), by simpa using hi 2 (by omega)⟩, w0, w1, w2⟩
theorem deeds_open {H : Type} {enc : TypeId × Value → H} {w : World} {base : Nat} {spare : Nat → Bool} {held : Bool} {a : Option Addr} {n c : Nat} {d : DataW H} {p : List MemPlace} (h : DataW.Trod enc Try.prog w base spare held 22 (.slice a n c) d p) :
    n ≤ maxLen ∧ ∃ d0 d1 d2 : Nat → Int, Deeds w a n d0 d1 d2 := by
  obtain ⟨fuel, hf⟩ := h
  rcases Go.Deep.open_slice Try.underlying22 hf with ⟨hcs, _⟩ | ⟨x, l, c', m, n', D, Pl, hcs, _, hl, hm, hmm, _, hx⟩
  · simp [Value.cells] at hcs
    exact ⟨by rw [hcs.2.1]; exact Nat.zero_le _, fun _ => 0, fun _ => 0, fun _ => 0, .inl hcs.2.1⟩
  · simp [Value.cells] at hcs
    obtain ⟨rfl, rfl, rfl⟩ := hcs
    refine ⟨by omega, ?_⟩
    by_cases h0 : n = 0
    · exact ⟨fun _ => 0, fun _ => 0, fun _ => 0, .inl h0⟩
    · have hall : ∀ i : Nat, ∃ t : Int × Int × Int, i < n → (w.cell? ((x.add (i * 3)).add 0) = some (.int .i64 t.1) ∧ w.cell? ((x.add (i * 3)).add 1) = some (.int .i64 t.2.1) ∧ w.cell? ((x.add (i * 3)).add 2) = some (.int .i64 t.2.2)) ∧ (Lit.int .i64 t.1).wf = true ∧ (Lit.int .i64 t.2.1).wf = true ∧ (Lit.int .i64 t.2.2).wf = true := by
        intro i
        by_cases hi : i < n
        · obtain ⟨cs', hc, ht⟩ := hx i (by rw [hmm]; split <;> omega)
          rw [ep_cells37] at hc
          obtain ⟨t, h3⟩ := deed_cells hc ht
          exact ⟨t, fun _ => h3⟩
        · exact ⟨⟨0, 0, 0⟩, fun h => absurd h hi⟩
      obtain ⟨f, hf'⟩ := Classical.axiomOfChoice hall
      obtain ⟨b, off, spot⟩ := x
      have z := (hf' 0 (by omega)).1.1
      have hs : spot = none := by simpa [Addr.add] using World.cell?_spot z
      subst hs
      have hb : b < w.heap.size := by simpa [Addr.add] using World.block_lt_of_cell? w _ z
      refine ⟨fun i => (f i).1, fun i => (f i).2.1, fun i => (f i).2.2, .inr ⟨b, off, rfl, hb, fun i hi => ?_⟩⟩
      obtain ⟨⟨a0, a1, a2⟩, r⟩ := hf' i hi
      have e0 : ∀ j, ((⟨b, off, none⟩ : Addr).add (i * 3)).add j = ⟨b, off + i * 3 + j, none⟩ := by
        intro j
        by_cases y1 : i * 3 = 0 <;> by_cases y2 : j = 0 <;> simp [Addr.add, y1, y2]
      rw [e0] at a0 a1 a2
      exact ⟨⟨a0, a1, a2⟩, r⟩
end Go.Proofs.Ytpihoegikojlaaa
