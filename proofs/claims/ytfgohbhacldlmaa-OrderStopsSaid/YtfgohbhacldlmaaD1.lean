/- Deeds that came in, opened. -/
import Derived.Test.YtfgohbhacldlmaaRows
import Derived.WalkKit
import Derived.ProofKit
import Derived.OpenShut
import Derived.ShutString
import Derived.ChangeOld
import Derived.ChangeSame
import Derived.Below
import Derived.Lib.SmallJoins
import Derived.SizedLaws
import Derived.Deep.Slices
import Derived.Deep.Strs
namespace Go.Proofs.Ytfgohbhacldlmaa
open Go.ChangeShapes Go.WideShapes Go.ChangeAt Go.RowKit Go.Joins
set_option linter.unusedVariables false
set_option linter.unusedSimpArgs false

/-- A deed: what to do, a key, another key, a number. -/
abbrev DD := Int × ByteArray × ByteArray × Int
/-- n deeds behind a slice. -/
def Deeds (w : World) (A : Option Addr) (n : Nat) (f : Nat → DD) : Prop :=
  n = 0 ∨ ∃ b off, A = some ⟨b, off, none⟩ ∧ b < w.heap.size ∧ ∀ i, i < n → w.cell? ⟨b, off + i * 4, none⟩ = some (.int .i64 (f i).1) ∧ w.cell? ⟨b, off + i * 4 + 1, none⟩ = some (.string (f i).2.1) ∧ w.cell? ⟨b, off + i * 4 + 2, none⟩ = some (.string (f i).2.2.1) ∧ w.cell? ⟨b, off + i * 4 + 3, none⟩ = some (.int .i64 (f i).2.2.2)
theorem od_c29 : Try.prog.cellsOf 29 = 4 := by kernel_rfl
theorem od_c3 : Try.prog.cellsOf 3 = 1 := by kernel_rfl
theorem od_c9 : Try.prog.cellsOf 9 = 1 := by kernel_rfl
set_option maxRecDepth 10000 in
theorem deed_cells {H : Type} {enc : TypeId × Value → H} {w : World} {base : Nat} {spare : Nat → Bool} {held : Bool} {n : Nat} {a : Addr} {cs : List Value} {x : DataW H × List MemPlace}
    (hc : w.cells? base a 4 = some cs) (h : DataW.trod enc Try.prog w base spare held n 29 cs = some x) :
    ∃ t : DD, w.cell? (a.add 0) = some (.int .i64 t.1) ∧ w.cell? (a.add 1) = some (.string t.2.1) ∧ w.cell? (a.add 2) = some (.string t.2.2.1) ∧ w.cell? (a.add 3) = some (.int .i64 t.2.2.2) := by
  obtain ⟨_, hl, hi⟩ := World.cells?_some hc
  obtain ⟨xs, m, _, _, _, hxl, hel⟩ := DataW.trod_struct Try.underlying29 h
  match cs, hl, xs, hxl with
  | [c0, c1, c2, c3], _, [y0, y1, y2, y3], _ =>
    have h0 := hel 0 _ rfl
    have h1 := hel 1 _ rfl
    have h2 := hel 2 _ rfl
    have h3 := hel 3 _ rfl
    simp [od_c3, od_c9] at h0 h1 h2 h3
    obtain ⟨p0, e0, _, _⟩ := DataW.trod_int Try.underlying3 h0
    obtain ⟨p1, e1, _, _⟩ := DataW.trod_string Try.underlying9 h1
    obtain ⟨p2, e2, _, _⟩ := DataW.trod_string Try.underlying9 h2
    obtain ⟨p3, e3, _, _⟩ := DataW.trod_int Try.underlying3 h3
    simp at e0 e1 e2 e3
    subst e0 e1 e2 e3
    exact ⟨⟨p0, p1, p2, p3⟩, by simpa using hi 0 (by omega), by simpa using hi 1 (by omega), by simpa using hi 2 (by omega), by simpa using hi 3 (by omega)⟩
set_option maxRecDepth 10000 in
theorem deed_open {H : Type} {enc : TypeId × Value → H} {W : World} {base : Nat} {spare : Nat → Bool} {held : Bool} {r : Reach} {b0 : Nat} {v : Value} {d : DataW H} {p : List MemPlace}
    (hv : Value.okWide Try.prog W r b0 29 v) (h : DataW.Trod enc Try.prog W base spare held 29 v d p) :
    ∃ (k n : Int) (key too : ByteArray), v = .agg #[.int .i64 k, .string key, .string too, .int .i64 n] := by
  obtain ⟨cs, rfl, hsz⟩ := okWide_struct Try.underlying29 hv
  rw [od_c29] at hsz
  obtain ⟨fuel, hf⟩ := h
  obtain ⟨xs, m, _, _, _, hxl, hel⟩ := DataW.trod_struct Try.underlying29 hf
  obtain ⟨ls⟩ := cs
  match ls, hsz, xs, hxl with
  | [c0, c1, c2, c3], _, [y0, y1, y2, y3], _ =>
    have h0 := hel 0 _ rfl
    have h1 := hel 1 _ rfl
    have h2 := hel 2 _ rfl
    have h3 := hel 3 _ rfl
    simp [od_c3, od_c9, Value.cells] at h0 h1 h2 h3
    obtain ⟨p0, e0, _, _⟩ := DataW.trod_int Try.underlying3 h0
    obtain ⟨p1, e1, _, _⟩ := DataW.trod_string Try.underlying9 h1
    obtain ⟨p2, e2, _, _⟩ := DataW.trod_string Try.underlying9 h2
    obtain ⟨p3, e3, _, _⟩ := DataW.trod_int Try.underlying3 h3
    simp at e0 e1 e2 e3
    subst e0 e1 e2 e3
    exact ⟨p0, p3, p1, p2, rfl⟩
theorem deeds_open {H : Type} {enc : TypeId × Value → H} {w : World} {base : Nat} {spare : Nat → Bool} {held : Bool} {a : Option Addr} {n c : Nat} {d : DataW H} {p : List MemPlace} (h : DataW.Trod enc Try.prog w base spare held 22 (.slice a n c) d p) :
    n ≤ maxLen ∧ ∃ f : Nat → DD, Deeds w a n f := by
  obtain ⟨fuel, hf⟩ := h
  rcases Go.Deep.open_slice Try.underlying22 hf with ⟨hcs, _⟩ | ⟨x, l, c', m, n', D, Pl, hcs, _, hl, hm, hmm, _, hx⟩
  · simp [Value.cells] at hcs
    exact ⟨by rw [hcs.2.1]; exact Nat.zero_le _, fun _ => (0, .empty, .empty, 0), .inl hcs.2.1⟩
  · simp [Value.cells] at hcs
    obtain ⟨rfl, rfl, rfl⟩ := hcs
    refine ⟨by omega, ?_⟩
    by_cases h0 : n = 0
    · exact ⟨fun _ => (0, .empty, .empty, 0), .inl h0⟩
    · have hall : ∀ i : Nat, ∃ t : DD, i < n → w.cell? ((x.add (i * 4)).add 0) = some (.int .i64 t.1) ∧ w.cell? ((x.add (i * 4)).add 1) = some (.string t.2.1) ∧ w.cell? ((x.add (i * 4)).add 2) = some (.string t.2.2.1) ∧ w.cell? ((x.add (i * 4)).add 3) = some (.int .i64 t.2.2.2) := by
        intro i
        by_cases hi : i < n
        · obtain ⟨cs', hc, ht⟩ := hx i (by rw [hmm]; split <;> omega)
          rw [od_c29] at hc
          obtain ⟨t, h3⟩ := deed_cells hc ht
          exact ⟨t, fun _ => h3⟩
        · exact ⟨(0, .empty, .empty, 0), fun h => absurd h hi⟩
      obtain ⟨f, hf'⟩ := Classical.axiomOfChoice hall
      obtain ⟨b, off, spot⟩ := x
      have z := (hf' 0 (by omega)).1
      have hs : spot = none := by simpa [Addr.add] using World.cell?_spot z
      subst hs
      have hb : b < w.heap.size := by simpa [Addr.add] using World.block_lt_of_cell? w _ z
      refine ⟨f, .inr ⟨b, off, rfl, hb, fun i hi => ?_⟩⟩
      obtain ⟨a0, a1, a2, a3⟩ := hf' i hi
      have e0 : ∀ j, ((⟨b, off, none⟩ : Addr).add (i * 4)).add j = ⟨b, off + i * 4 + j, none⟩ := by
        intro j
        by_cases y1 : i * 4 = 0 <;> by_cases y2 : j = 0 <;> simp [Addr.add, y1, y2]
      rw [e0] at a0 a1 a2 a3
      exact ⟨a0, a1, a2, a3⟩
end Go.Proofs.Ytfgohbhacldlmaa
