/- Entries that came in, opened. -/
import Derived.Test.YteiifcmdpoonmaaRows
import Derived.WalkKit
import Derived.ProofKit
import Derived.OpenShut
import Derived.ShutString
import Derived.ChangeOld
import Derived.ChangeSame
import Derived.Below
import Derived.Lib.SmallJoins
import Derived.SizedLaws
import Derived.Deep.Slices
import Derived.Deep.Strs
import Derived.Test.YteiifcmdpoonmaaN1
namespace Go.Proofs.Yteiifcmdpoonmaa
open Go.ChangeShapes Go.WideShapes Go.ChangeAt Go.RowKit Go.Joins
set_option linter.unusedVariables false
set_option linter.unusedSimpArgs false

theorem od_c30 : Try.prog.cellsOf 30 = 2 := by kernel_rfl
theorem od_c22 : Try.prog.cellsOf 22 = 1 := by kernel_rfl
theorem od_c9 : Try.prog.cellsOf 9 = 1 := by kernel_rfl
set_option maxRecDepth 10000 in
theorem thing_cells {H : Type} {enc : TypeId × Value → H} {w : World} {base : Nat} {spare : Nat → Bool} {held : Bool} {n : Nat} {a : Addr} {cs : List Value} {x : DataW H × List MemPlace}
    (hc : w.cells? base a 2 = some cs) (h : DataW.trod enc Try.prog w base spare held n 30 cs = some x) :
    ∃ t : TT, w.cell? (a.add 0) = some (.string t.1) ∧ w.cell? (a.add 1) = some (.string t.2) := by
  obtain ⟨_, hl, hi⟩ := World.cells?_some hc
  obtain ⟨xs, m, _, _, _, hxl, hel⟩ := DataW.trod_struct Try.underlying30 h
  match cs, hl, xs, hxl with
  | [c0, c1], _, [y0, y1], _ =>
    have h0 := hel 0 _ rfl
    have h1 := hel 1 _ rfl
    simp [od_c9] at h0 h1
    obtain ⟨p0, e0, _, _⟩ := DataW.trod_string Try.underlying9 h0
    obtain ⟨p1, e1, _, _⟩ := DataW.trod_string Try.underlying9 h1
    simp at e0 e1
    subst e0 e1
    exact ⟨⟨p0, p1⟩, by simpa using hi 0 (by omega), by simpa using hi 1 (by omega)⟩
theorem cls_at {xs : List TT} {j : Nat} {u : Value} (h : (cls xs)[j]? = some u) : ∃ k x, xs[k]? = some x ∧ ((j = k * 2 ∧ u = .string x.1) ∨ (j = k * 2 + 1 ∧ u = .string x.2)) := by
  induction xs generalizing j with
  | nil => simp [cls] at h
  | cons x xs ih =>
    rw [cls_cons] at h
    match j, h with
    | 0, h => exact ⟨0, x, rfl, .inl ⟨rfl, by simpa using h.symm⟩⟩
    | 1, h => exact ⟨0, x, rfl, .inr ⟨rfl, by simpa using h.symm⟩⟩
    | j + 2, h =>
      obtain ⟨k, y, h1, h2⟩ := ih (j := j) (by simpa using h)
      refine ⟨k + 1, y, by simpa using h1, ?_⟩
      rcases h2 with ⟨a, b⟩ | ⟨a, b⟩
      · exact .inl ⟨by omega, b⟩
      · exact .inr ⟨by omega, b⟩
theorem things_at {H : Type} {enc : TypeId × Value → H} {w : World} {base : Nat} {spare : Nat → Bool} {held : Bool} {fuel : Nat} {cs : List Value} {x : DataW H × List MemPlace} (hf : DataW.trod enc Try.prog w base spare held fuel 22 cs = some x) :
    ∃ a n c, cs = [.slice a n c] ∧ (a = none → c = 0) ∧ n ≤ c ∧ c ≤ maxLen ∧ ∃ xs : List TT, xs.length = n ∧ RdT w a xs := by
  rcases Go.Deep.open_slice Try.underlying22 hf with ⟨hcs, _⟩ | ⟨x, n, c, m, n', D, Pl, hcs, _, hl, hm, hmm, _, hx⟩
  · exact ⟨none, 0, 0, hcs, fun _ => rfl, Nat.le_refl _, Nat.zero_le _, [], rfl, .inl rfl⟩
  · refine ⟨some x, n, c, hcs, fun h => (by cases h), hl, hm, ?_⟩
    by_cases h0 : n = 0
    · exact ⟨[], h0.symm, .inl rfl⟩
    · have hall : ∀ i : Nat, ∃ t : TT, i < n → w.cell? ((x.add (i * 2)).add 0) = some (.string t.1) ∧ w.cell? ((x.add (i * 2)).add 1) = some (.string t.2) := by
        intro i
        by_cases hi : i < n
        · obtain ⟨cs', hc, ht⟩ := hx i (by rw [hmm]; split <;> omega)
          rw [od_c30] at hc
          obtain ⟨t, h3⟩ := thing_cells hc ht
          exact ⟨t, fun _ => h3⟩
        · exact ⟨(.empty, .empty), fun h => absurd h hi⟩
      obtain ⟨f, hf'⟩ := Classical.axiomOfChoice hall
      obtain ⟨b, off, spot⟩ := x
      have z := (hf' 0 (by omega)).1
      have hs : spot = none := by simpa [Addr.add] using World.cell?_spot z
      subst hs
      have hb : b < w.heap.size := by simpa [Addr.add] using World.block_lt_of_cell? w _ z
      refine ⟨(List.range n).map f, by simp, .inr ⟨b, off, rfl, hb, fun j u hj => ?_⟩⟩
      obtain ⟨k, y, hk, hj2⟩ := cls_at hj
      rw [List.getElem?_map] at hk
      have hkn : k < n := by
        cases hr : (List.range n)[k]? with
        | none => rw [hr] at hk; cases hk
        | some q => have := (List.getElem?_eq_some_iff.1 hr).1; simpa using this
      rw [List.getElem?_range hkn] at hk
      simp at hk
      subst hk
      obtain ⟨a0, a1⟩ := hf' k hkn
      have e0 : ∀ j, ((⟨b, off, none⟩ : Addr).add (k * 2)).add j = ⟨b, off + k * 2 + j, none⟩ := by
        intro j
        by_cases y1 : k * 2 = 0 <;> by_cases y2 : j = 0 <;> simp [Addr.add, y1, y2]
      rw [e0] at a0 a1
      rcases hj2 with ⟨rfl, rfl⟩ | ⟨rfl, rfl⟩
      · exact a0
      · exact a1
theorem things_open {H : Type} {enc : TypeId × Value → H} {w : World} {base : Nat} {spare : Nat → Bool} {held : Bool} {a : Option Addr} {n c : Nat} {d : DataW H} {p : List MemPlace} (h : DataW.Trod enc Try.prog w base spare held 22 (.slice a n c) d p) :
    n ≤ c ∧ c ≤ maxLen ∧ (a = none → c = 0) ∧ ∃ xs : List TT, xs.length = n ∧ RdT w a xs := by
  obtain ⟨fuel, hf⟩ := h
  obtain ⟨a', n', c', hcs, h0, h1, h2, h3⟩ := things_at hf
  simp [Value.cells] at hcs
  obtain ⟨rfl, rfl, rfl⟩ := hcs
  exact ⟨h1, h2, h0, h3⟩
end Go.Proofs.Yteiifcmdpoonmaa
