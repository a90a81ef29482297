/- Moves that came in, opened. -/
import Derived.Test.YtocbabckihcdmaaDoorRows
import Derived.WalkKit
import Derived.ProofKit
import Derived.OpenShut
import Derived.ChangeOld
import Derived.ChangeSame
import Derived.Below
import Derived.Lib.SmallJoins
import Derived.SizedLaws
import Derived.Deep.Slices
import Derived.Test.YtocbabckihcdmaaDoorT5
namespace Go.Proofs.YtocbabckihcdmaaDoor
open Go.ChangeShapes Go.WideShapes Go.ChangeAt Go.RowKit Go.Joins
set_option linter.unusedVariables false
set_option linter.unusedSimpArgs false
theorem od_c3 : Tryd.prog.cellsOf 3 = 1 := by kernel_rfl
theorem od_c54 : Tryd.prog.cellsOf 33 = 1 := by kernel_rfl
theorem od_c55 : Tryd.prog.cellsOf 24 = 1 := by kernel_rfl
theorem od_c57 : Tryd.prog.cellsOf 35 = 5 := by kernel_rfl
theorem wf64 {n : Int} (h : (Lit.int .i64 n).wf = true) : -9223372036854775808 ≤ n ∧ n ≤ 9223372036854775807 := by
  have e : (Lit.int .i64 n).wf = (decide (-9223372036854775808 ≤ n) && decide (n ≤ 9223372036854775807)) := by kernel_rfl
  rw [e, Bool.and_eq_true, decide_eq_true_eq, decide_eq_true_eq] at h; exact h
theorem wf8 {n : Int} (h : (Lit.int .u8 n).wf = true) : 0 ≤ n ∧ n ≤ 255 := by
  have e : (Lit.int .u8 n).wf = (decide (0 ≤ n) && decide (n ≤ 255)) := by kernel_rfl
  rw [e, Bool.and_eq_true, decide_eq_true_eq, decide_eq_true_eq] at h; exact h
set_option maxRecDepth 10000 in
theorem move_cells {H : Type} {enc : TypeId × Value → H} {w : World} {base : Nat} {spare : Nat → Bool} {held : Bool} {n : Nat} {a : Addr} {cs : List Value} {x : DataW H × List MemPlace}
    (hc : w.cells? base a 5 = some cs) (h : DataW.trod enc Tryd.prog w base spare held n 35 cs = some x) :
    ∃ t : MV, MOk t ∧ ∀ j u, (EM.cs t)[j]? = some u → w.cell? (a.add j) = some u := by
  obtain ⟨_, hl, hi⟩ := World.cells?_some hc
  obtain ⟨xs, m, _, hxe, _, hxl, hel⟩ := DataW.trod_struct Tryd.underlying35 h
  match cs, hl, xs, hxl with
  | [c0, c1, c2, c3, c4], _, [y0, y1, y2, y3, y4], _ =>
    have h0 := hel 0 _ rfl
    have h1 := hel 1 _ rfl
    have h2 := hel 2 _ rfl
    have h3 := hel 3 _ rfl
    have h4 := hel 4 _ rfl
    simp [od_c3, od_c54, od_c55] at h0 h1 h2 h3 h4
    obtain ⟨p0, e0, _, f0⟩ := DataW.trod_int Tryd.underlying3 h0
    obtain ⟨p1, e1, _, f1⟩ := DataW.trod_int Tryd.underlying33 h1
    obtain ⟨p2, e2, _, f2⟩ := DataW.trod_int Tryd.underlying3 h2
    obtain ⟨p3, e3, _, f3⟩ := DataW.trod_int Tryd.underlying3 h3
    obtain ⟨p4, e4, _, f4⟩ := DataW.trod_int Tryd.underlying24 h4
    simp at e0 e1 e2 e3 e4
    subst e0 e1 e2 e3 e4
    refine ⟨⟨p0, p1, p2, p3, p4⟩, ⟨(wf8 f1).1, (wf8 f1).2, wf64 f0, wf64 f2, wf64 f3, wf64 f4⟩, fun j u hu => ?_⟩
    match j, hu with
    | 0, hu => simp [EM] at hu; subst hu; simpa using hi 0 (by omega)
    | 1, hu => simp [EM] at hu; subst hu; simpa using hi 1 (by omega)
    | 2, hu => simp [EM] at hu; subst hu; simpa using hi 2 (by omega)
    | 3, hu => simp [EM] at hu; subst hu; simpa using hi 3 (by omega)
    | 4, hu => simp [EM] at hu; subst hu; simpa using hi 4 (by omega)
    | j + 5, hu => simp [EM] at hu
theorem RE.all_at {α : Type} (E : RE α) {xs : List α} {j : Nat} {u : Value} (h : (E.all xs)[j]? = some u) : ∃ k i x, xs[k]? = some x ∧ j = k * E.k + i ∧ (E.cs x)[i]? = some u := by
  induction xs generalizing j with
  | nil => simp [RE.all] at h
  | cons x xs ih =>
    rw [RE.all_cons] at h
    by_cases hj : j < E.k
    · rw [List.getElem?_append_left (by rw [E.len]; exact hj)] at h
      exact ⟨0, j, x, rfl, by omega, h⟩
    · rw [List.getElem?_append_right (by rw [E.len]; omega), E.len] at h
      obtain ⟨k, i, y, h1, h2, h3⟩ := ih h
      exact ⟨k + 1, i, y, by simpa using h1, by rw [Nat.succ_mul]; omega, h3⟩
theorem moves_open {H : Type} {enc : TypeId × Value → H} {w : World} {base : Nat} {spare : Nat → Bool} {held : Bool} {a : Option Addr} {n c : Nat} {d : DataW H} {p : List MemPlace} (h : DataW.Trod enc Tryd.prog w base spare held 22 (.slice a n c) d p) :
    ∃ xs, n ≤ c ∧ c ≤ maxLen ∧ xs.length = n ∧ EM.Rd w a xs ∧ AllOk xs := by
  obtain ⟨fuel, hf⟩ := h
  rcases Go.Deep.open_slice Tryd.underlying22 hf with ⟨hcs, _⟩ | ⟨x, l, c', m, n', D, Pl, hcs, _, hl, hm, hmm, hxe, hx⟩
  · simp [Value.cells] at hcs
    obtain ⟨rfl, rfl, rfl⟩ := hcs
    exact ⟨[], Nat.le_refl _, Nat.zero_le _, rfl, .inl rfl, fun _ h => by cases h⟩
  · simp [Value.cells] at hcs
    obtain ⟨rfl, rfl, rfl⟩ := hcs
    by_cases h0 : n = 0
    · exact ⟨[], hl, hm, h0.symm, .inl rfl, fun _ h => by cases h⟩
    · have hall : ∀ i : Nat, ∃ t : MV, MOk t ∧ (i < n → ∀ j u, (EM.cs t)[j]? = some u → w.cell? ((x.add (i * 5)).add j) = some u) := by
        intro i
        by_cases hi : i < n
        · obtain ⟨cs', hc, ht⟩ := hx i (by rw [hmm]; split <;> omega)
          rw [od_c57] at hc
          obtain ⟨t, ho, h3⟩ := move_cells hc ht
          exact ⟨t, ho, fun _ => h3⟩
        · exact ⟨⟨0, 0, 0, 0, 0⟩, by constructor <;> decide, fun h => absurd h hi⟩
      obtain ⟨f, hf'⟩ := Classical.axiomOfChoice hall
      obtain ⟨b, off, spot⟩ := x
      have z := (hf' 0).2 (by omega) 0 _ rfl
      have hs : spot = none := by simpa [Addr.add] using World.cell?_spot z
      subst hs
      have hb : b < w.heap.size := by simpa [Addr.add] using World.block_lt_of_cell? w _ z
      refine ⟨(List.range n).map f, hl, hm, by simp, .inr ⟨b, off, rfl, hb, fun j u hj => ?_⟩, fun y hy => (by obtain ⟨i, _, rfl⟩ := List.mem_map.1 hy; exact (hf' i).1)⟩
      obtain ⟨k, i, y, hk, rfl, hu⟩ := RE.all_at EM hj
      rw [List.getElem?_map] at hk
      have hkn : k < n := by
        cases hr : (List.range n)[k]? with
        | none => rw [hr] at hk; cases hk
        | some q => have := (List.getElem?_eq_some_iff.1 hr).1; simpa using this
      rw [List.getElem?_range hkn] at hk
      simp at hk
      subst hk
      have q := (hf' k).2 hkn i u hu
      have e0 : ((⟨b, off, none⟩ : Addr).add (k * 5)).add i = ⟨b, off + (k * EM.k + i), none⟩ := by
        have : EM.k = 5 := rfl
        rw [this]
        by_cases y1 : k * 5 = 0 <;> by_cases y2 : i = 0 <;> simp [Addr.add, y1, y2] <;> omega
      rw [e0] at q
      exact q
end Go.Proofs.YtocbabckihcdmaaDoor
