/- An operation that is given: its cells. -/
import Derived.Test.YtifikngmddfahaaC3
import Derived.ProofKit
import Derived.OpenShut
import Derived.ChangeOld
import Derived.Lib.SmallJoins
namespace Go.Proofs.Ytifikngmddfahaa
open Go.ChangeShapes Go.WideShapes Go.ChangeAt Go.RowKit Go.Joins
set_option linter.unusedVariables false
set_option linter.unusedSimpArgs false

theorem w_c45 : Try.prog.cellsOf 45 = 1 := by kernel_rfl
theorem w_c24 : Try.prog.cellsOf 24 = 1 := by kernel_rfl
theorem w_c25 : Try.prog.cellsOf 25 = 1 := by kernel_rfl
theorem w_c3 : Try.prog.cellsOf 3 = 1 := by kernel_rfl
theorem w_c9 : Try.prog.cellsOf 9 = 1 := by kernel_rfl
theorem w_c46 : Try.prog.cellsOf 46 = 1 := by kernel_rfl
theorem w_c48 : Try.prog.cellsOf 48 = 6 := by kernel_rfl
theorem w_c27 : Try.prog.cellsOf 27 = 5 := by kernel_rfl

theorem msg_cells {H : Type} {enc : TypeId × Value → H} {w : World} {base : Nat} {spare : Nat → Bool} {held : Bool} {n : Nat} {a : Addr} {cs : List Value} {x : DataW H × List MemPlace}
    (hc : w.cells? base a 6 = some cs) (h : DataW.trod enc Try.prog w base spare held n 48 cs = some x) :
    ∃ m : M, w.cell? a = some (.int .u8 m.k) ∧ w.cell? (a.add 1) = some (.int .i64 m.q) ∧ w.cell? (a.add 2) = some (.string m.key) ∧ w.cell? (a.add 3) = some (.string m.too) ∧ w.cell? (a.add 4) = some (.string m.val) ∧ w.cell? (a.add 5) = some (.int .u64 m.dl) := by
  obtain ⟨_, hl, hi⟩ := World.cells?_some hc
  obtain ⟨xs, m, _, _, _, hxl, hel⟩ := DataW.trod_struct Try.underlying48 h
  match cs, hl, xs, hxl with
  | [c0, c1, c2, c3, c4, c5], _, [y0, y1, y2, y3, y4, y5], _ =>
    have h0 := hel 0 _ rfl
    have h1 := hel 1 _ rfl
    have h2 := hel 2 _ rfl
    have h3 := hel 3 _ rfl
    have h4 := hel 4 _ rfl
    have h5 := hel 5 _ rfl
    simp [w_c45, w_c3, w_c9, w_c46] at h0 h1 h2 h3 h4 h5
    obtain ⟨p0, e0, _, _⟩ := DataW.trod_int Try.underlying45 h0
    obtain ⟨p1, e1, _, _⟩ := DataW.trod_int Try.underlying3 h1
    obtain ⟨p2, e2, _, _⟩ := DataW.trod_string Try.underlying9 h2
    obtain ⟨p3, e3, _, _⟩ := DataW.trod_string Try.underlying9 h3
    obtain ⟨p4, e4, _, _⟩ := DataW.trod_string Try.underlying9 h4
    obtain ⟨p5, e5, _, _⟩ := DataW.trod_int Try.underlying46 h5
    simp at e0 e1 e2 e3 e4 e5
    subst e0 e1 e2 e3 e4 e5
    refine ⟨⟨p0, p1, p2, p3, p4, p5⟩, ?_, ?_, ?_, ?_, ?_, ?_⟩
    · simpa [Addr.add] using hi 0 (by omega)
    · simpa using hi 1 (by omega)
    · simpa using hi 2 (by omega)
    · simpa using hi 3 (by omega)
    · simpa using hi 4 (by omega)
    · simpa using hi 5 (by omega)

theorem op_open {H : Type} {enc : TypeId × Value → H} {W : World} {base : Nat} {spare : Nat → Bool} {held : Bool} {r : Reach} {b0 : Nat} {v : Value} {d : DataW H} {p : List MemPlace}
    (hv : Value.okWide Try.prog W r b0 27 v) (h : DataW.Trod enc Try.prog W base spare held 27 v d p) :
    ∃ (k n : Int) (key too : ByteArray) (B : Option Addr) (len cap : Nat) (l : List M), v = .agg #[.int .u8 k, .string key, .string too, .int .i64 n, .slice B len cap] ∧ l.length = len ∧ MsL W W.heap.size B l := by
  obtain ⟨cs, rfl, hsz⟩ := okWide_struct Try.underlying27 hv
  rw [w_c27] at hsz
  obtain ⟨fuel, hf⟩ := h
  obtain ⟨xs, m, _, _, _, hxl, hel⟩ := DataW.trod_struct Try.underlying27 hf
  obtain ⟨ls⟩ := cs
  match ls, hsz, xs, hxl with
  | [c0, c1, c2, c3, c4], _, [y0, y1, y2, y3, y4], _ =>
    have h0 := hel 0 _ rfl
    have h1 := hel 1 _ rfl
    have h2 := hel 2 _ rfl
    have h3 := hel 3 _ rfl
    have h4 := hel 4 _ rfl
    simp [w_c24, w_c3, w_c9, w_c25, Value.cells] at h0 h1 h2 h3 h4
    obtain ⟨p0, e0, _, _⟩ := DataW.trod_int Try.underlying24 h0
    obtain ⟨p1, e1, _, _⟩ := DataW.trod_string Try.underlying9 h1
    obtain ⟨p2, e2, _, _⟩ := DataW.trod_string Try.underlying9 h2
    obtain ⟨p3, e3, _, _⟩ := DataW.trod_int Try.underlying3 h3
    simp at e0 e1 e2 e3
    subst e0 e1 e2 e3
    rcases Go.Deep.open_slice Try.underlying25 h4 with ⟨hcs, _⟩ | ⟨a, len, cap, mm, n', D, Pl, hcs, _, hl, hm, hmm, _, hx⟩
    · simp at hcs
      subst hcs
      exact ⟨p0, p3, p1, p2, none, 0, 0, [], rfl, rfl, .inl rfl⟩
    · simp at hcs
      subst hcs
      have each : ∀ i, ∃ y : M, i < len → (W.cell? (a.add (i * 6)) = some (.int .u8 y.k) ∧ W.cell? ((a.add (i * 6)).add 1) = some (.int .i64 y.q) ∧ W.cell? ((a.add (i * 6)).add 2) = some (.string y.key) ∧ W.cell? ((a.add (i * 6)).add 3) = some (.string y.too) ∧ W.cell? ((a.add (i * 6)).add 4) = some (.string y.val) ∧ W.cell? ((a.add (i * 6)).add 5) = some (.int .u64 y.dl)) := by
        intro i
        by_cases hi : i < len
        · obtain ⟨cs', hc, ht⟩ := hx i (by rw [hmm]; split <;> omega)
          rw [w_c48] at hc
          obtain ⟨y, hy⟩ := msg_cells hc ht
          exact ⟨y, fun _ => hy⟩
        · exact ⟨⟨0, 0, ByteArray.empty, ByteArray.empty, ByteArray.empty, 0⟩, fun h => absurd h hi⟩
      obtain ⟨f, hf⟩ := Classical.axiomOfChoice each
      refine ⟨p0, p3, p1, p2, some a, len, cap, (List.range len).map f, rfl, by simp, ?_⟩
      by_cases hz : len = 0
      · left; subst hz; rfl
      · obtain ⟨b, off, spot⟩ := a
        have g := (hf 0 (by omega)).1
        have hs : spot = none := by simpa [Addr.add] using World.cell?_spot g
        subst hs
        have hb := World.block_lt_of_cell? W _ g
        refine .inr ⟨b, off, rfl, by simpa [Addr.add] using hb, fun j hj => ?_⟩
        have hj' : j < len := by simpa using hj
        obtain ⟨g0, g1, g2, g3, g4, g5⟩ := hf j hj'
        simp only [List.getElem_map, List.getElem_range]
        by_cases q : j * 6 = 0
        · rw [q] at g0 g1 g2 g3 g4 g5 ⊢
          simp [Addr.add] at g0 g1 g2 g3 g4 g5 ⊢
          exact ⟨g0, g1, g2, g3, g4, g5⟩
        · simp [Addr.add, q] at g0 g1 g2 g3 g4 g5 ⊢
          exact ⟨g0, g1, g2, g3, g4, g5⟩
end Go.Proofs.Ytifikngmddfahaa
