/- Entries and deeds that came in, opened. -/
import Derived.Test.YtdbcaiggliiacaaRows
import Derived.WalkKit
import Derived.ProofKit
import Derived.OpenShut
import Derived.ShutString
import Derived.ChangeOld
import Derived.ChangeSame
import Derived.Below
import Derived.Lib.SmallJoins
import Derived.SizedLaws
import Derived.Deep.Slices
import Derived.Deep.Strs
import Derived.Test.YtdbcaiggliiacaaC8
namespace Go.Proofs.Ytdbcaiggliiacaa
open Go.ChangeShapes Go.WideShapes Go.ChangeAt Go.RowKit Go.Joins
set_option linter.unusedVariables false
set_option linter.unusedSimpArgs false

theorem od_c44 : Try.prog.cellsOf 44 = 2 := by kernel_rfl
theorem od_c30 : Try.prog.cellsOf 30 = 1 := by kernel_rfl
theorem od_c9 : Try.prog.cellsOf 9 = 1 := by kernel_rfl
theorem od_c3 : Try.prog.cellsOf 3 = 1 := by kernel_rfl
theorem od_c29 : Try.prog.cellsOf 29 = 2 := by kernel_rfl
theorem od_c32 : Try.prog.cellsOf 32 = 6 := by kernel_rfl
theorem w_agg {H : Type} {parts : List (DataW H)} {fs : Array Field} {t : TypeId} {j : Nat} {d : DataW H} {f : Field} (hu : Try.prog.underlying t = some (.struct fs)) (hp : parts[j]? = some d) (hf : fs[j]? = some f) {q : Nat} (hq : q ∈ d.weights Try.prog f.type) : q ∈ (DataW.agg parts).weights Try.prog t := by
  simp only [DataW.weights, hu]
  exact DataW.weights_mem_each (by simp [hf]) hp q hq
theorem w_all {H : Type} {e : TypeId} {d : DataW H} {q : Nat} (hq : q ∈ d.weights Try.prog e) : ∀ {l : List (DataW H)}, d ∈ l → q ∈ DataW.weightsAll Try.prog e l
  | x :: l, h => by
    simp only [DataW.weightsAll, List.mem_append]
    rcases List.mem_cons.1 h with rfl | h
    · exact .inl hq
    · exact .inr (w_all hq h)
theorem w_slice {H : Type} {l spare : List (DataW H)} {t e : TypeId} {d : DataW H} (hu : Try.prog.underlying t = some (.slice e)) (hd : d ∈ l) {q : Nat} (hq : q ∈ d.weights Try.prog e) : q ∈ (DataW.slice l spare).weights Try.prog t := by
  simp only [DataW.weights, hu]
  exact List.mem_cons_of_mem _ (List.mem_append_left _ (w_all hq hd))
set_option maxRecDepth 10000 in
theorem thing_cells {H : Type} {enc : TypeId × Value → H} {w : World} {base : Nat} {spare : Nat → Bool} {held : Bool} {n : Nat} {a : Addr} {cs : List Value} {x : DataW H × List MemPlace}
    (hc : w.cells? base a 2 = some cs) (h : DataW.trod enc Try.prog w base spare held n 44 cs = some x) (hw : ∀ q ∈ x.1.weights Try.prog 44, q ≤ reachBytes) :
    ∃ t : TT, w.cell? (a.add 0) = some (.string t.1) ∧ w.cell? (a.add 1) = some (.string t.2) ∧ t.1.size ≤ reachBytes := by
  obtain ⟨_, hl, hi⟩ := World.cells?_some hc
  obtain ⟨xs, m, _, hxe, _, hxl, hel⟩ := DataW.trod_struct Try.underlying44 h
  match cs, hl, xs, hxl with
  | [c0, c1], _, [y0, y1], _ =>
    have h0 := hel 0 _ rfl
    have h1 := hel 1 _ rfl
    simp [od_c9] at h0 h1
    obtain ⟨p0, e0, z0, _⟩ := DataW.trod_string Try.underlying9 h0
    obtain ⟨p1, e1, _, _⟩ := DataW.trod_string Try.underlying9 h1
    simp at e0 e1
    subst e0 e1
    refine ⟨⟨p0, p1⟩, by simpa using hi 0 (by omega), by simpa using hi 1 (by omega), ?_⟩
    refine hw p0.size ?_
    rw [hxe]
    exact w_agg Try.underlying44 (j := 0) (d := y0.1) rfl rfl (by rw [z0]; simp [DataW.weights])
theorem cls_at {xs : List TT} {j : Nat} {u : Value} (h : (cls xs)[j]? = some u) : ∃ k x, xs[k]? = some x ∧ ((j = k * 2 ∧ u = .string x.1) ∨ (j = k * 2 + 1 ∧ u = .string x.2)) := by
  induction xs generalizing j with
  | nil => simp [cls] at h
  | cons x xs ih =>
    rw [cls_cons] at h
    match j, h with
    | 0, h => exact ⟨0, x, rfl, .inl ⟨rfl, by simpa using h.symm⟩⟩
    | 1, h => exact ⟨0, x, rfl, .inr ⟨rfl, by simpa using h.symm⟩⟩
    | j + 2, h =>
      obtain ⟨k, y, h1, h2⟩ := ih (j := j) (by simpa using h)
      refine ⟨k + 1, y, by simpa using h1, ?_⟩
      rcases h2 with ⟨a, b⟩ | ⟨a, b⟩
      · exact .inl ⟨by omega, b⟩
      · exact .inr ⟨by omega, b⟩
/-- Entries that came in. -/
def Came (w : World) (A : Option Addr) (n c : Nat) (xs : List TT) : Prop := (A = none → c = 0) ∧ n ≤ c ∧ c ≤ maxLen ∧ xs.length = n ∧ RdT w A xs ∧ ∀ x ∈ xs, x.1.size ≤ reachBytes
theorem things_at {H : Type} {enc : TypeId × Value → H} {w : World} {base : Nat} {spare : Nat → Bool} {held : Bool} {fuel : Nat} {cs : List Value} {x : DataW H × List MemPlace} (hf : DataW.trod enc Try.prog w base spare held fuel 30 cs = some x) (hw : ∀ q ∈ x.1.weights Try.prog 30, q ≤ reachBytes) :
    ∃ a n c xs, cs = [.slice a n c] ∧ Came w a n c xs := by
  rcases Go.Deep.open_slice Try.underlying30 hf with ⟨hcs, _⟩ | ⟨x, n, c, m, n', D, Pl, hcs, _, hl, hm, hmm, hxe, hx⟩
  · exact ⟨none, 0, 0, [], hcs, fun _ => rfl, Nat.le_refl _, Nat.zero_le _, rfl, .inl rfl, by simp⟩
  · by_cases h0 : n = 0
    · exact ⟨some x, n, c, [], hcs, fun h => (by cases h), hl, hm, h0.symm, .inl rfl, by simp⟩
    · have hall : ∀ i : Nat, ∃ t : TT, i < n → w.cell? ((x.add (i * 2)).add 0) = some (.string t.1) ∧ w.cell? ((x.add (i * 2)).add 1) = some (.string t.2) ∧ t.1.size ≤ reachBytes := by
        intro i
        by_cases hi : i < n
        · obtain ⟨cs', hc, ht⟩ := hx i (by rw [hmm]; split <;> omega)
          rw [od_c44] at hc
          obtain ⟨t, h3⟩ := thing_cells hc ht (fun q hq => hw q (by rw [hxe]; exact w_slice Try.underlying30 (List.mem_map.2 ⟨i, by simpa using hi, rfl⟩) hq))
          exact ⟨t, fun _ => h3⟩
        · exact ⟨(.empty, .empty), fun h => absurd h hi⟩
      obtain ⟨f, hf'⟩ := Classical.axiomOfChoice hall
      obtain ⟨b, off, spot⟩ := x
      have z := (hf' 0 (by omega)).1
      have hs : spot = none := by simpa [Addr.add] using World.cell?_spot z
      subst hs
      have hb : b < w.heap.size := by simpa [Addr.add] using World.block_lt_of_cell? w _ z
      refine ⟨some ⟨b, off, none⟩, n, c, (List.range n).map f, hcs, fun h => (by cases h), hl, hm, by simp, .inr ⟨b, off, rfl, hb, fun j u hj => ?_⟩, fun y hy => ?_⟩
      · obtain ⟨k, y, hk, hj2⟩ := cls_at hj
        rw [List.getElem?_map] at hk
        have hkn : k < n := by
          cases hr : (List.range n)[k]? with
          | none => rw [hr] at hk; cases hk
          | some q => have := (List.getElem?_eq_some_iff.1 hr).1; simpa using this
        rw [List.getElem?_range hkn] at hk
        simp at hk
        subst hk
        obtain ⟨a0, a1, _⟩ := hf' k hkn
        have e0 : ∀ j, ((⟨b, off, none⟩ : Addr).add (k * 2)).add j = ⟨b, off + k * 2 + j, none⟩ := by
          intro j
          by_cases y1 : k * 2 = 0 <;> by_cases y2 : j = 0 <;> simp [Addr.add, y1, y2]
        rw [e0] at a0 a1
        rcases hj2 with ⟨rfl, rfl⟩ | ⟨rfl, rfl⟩
        · exact a0
        · exact a1
      · obtain ⟨i, hi, rfl⟩ := List.mem_map.1 hy
        exact (hf' i (by simpa using hi)).2.2
theorem things_open {H : Type} {enc : TypeId × Value → H} {w : World} {base : Nat} {spare : Nat → Bool} {held : Bool} {a : Option Addr} {n c : Nat} {d : DataW H} {p : List MemPlace} (h : DataW.Trod enc Try.prog w base spare held 30 (.slice a n c) d p) (hw : ∀ q ∈ d.weights Try.prog 30, q ≤ reachBytes) :
    ∃ xs, Came w a n c xs := by
  obtain ⟨fuel, hf⟩ := h
  obtain ⟨a', n', c', xs, hcs, h0⟩ := things_at hf hw
  simp [Value.cells] at hcs
  obtain ⟨rfl, rfl, rfl⟩ := hcs
  exact ⟨xs, h0⟩
/-- A deed: what to do, with which cursor, how many; a range; a chunk. -/
structure DD where
  d : Int
  n : Int
  m : Int
  f : ByteArray
  t : ByteArray
  B : Option Addr
  len : Nat
  cap : Nat
  l : List TT
def DD.zero : DD := ⟨0, 0, 0, .empty, .empty, none, 0, 0, []⟩
/-- What a deed is, at an address. -/
def DDat (w : World) (a : Addr) (t : DD) : Prop :=
  w.cell? (a.add 0) = some (.int .i64 t.d) ∧ w.cell? (a.add 1) = some (.int .i64 t.n) ∧ w.cell? (a.add 2) = some (.int .i64 t.m) ∧ w.cell? (a.add 3) = some (.string t.f) ∧ w.cell? (a.add 4) = some (.string t.t) ∧ w.cell? (a.add 5) = some (.slice t.B t.len t.cap) ∧
    (Lit.int .i64 t.n).wf = true ∧ Came w t.B t.len t.cap t.l
def Deeds (w : World) (A : Option Addr) (n : Nat) (f : Nat → DD) : Prop :=
  n = 0 ∨ ∃ b off, A = some ⟨b, off, none⟩ ∧ b < w.heap.size ∧ ∀ i, i < n → DDat w ⟨b, off + i * 6, none⟩ (f i)
set_option maxRecDepth 10000 in
theorem deed_cells {H : Type} {enc : TypeId × Value → H} {w : World} {base : Nat} {spare : Nat → Bool} {held : Bool} {n : Nat} {a : Addr} {cs : List Value} {x : DataW H × List MemPlace}
    (hc : w.cells? base a 6 = some cs) (h : DataW.trod enc Try.prog w base spare held n 32 cs = some x) (hw : ∀ q ∈ x.1.weights Try.prog 32, q ≤ reachBytes) :
    ∃ t : DD, DDat w a t := by
  obtain ⟨_, hl, hi⟩ := World.cells?_some hc
  obtain ⟨xs, m, _, hxe, _, hxl, hel⟩ := DataW.trod_struct Try.underlying32 h
  match cs, hl, xs, hxl with
  | [c0, c1, c2, c3, c4, c5], _, [y0, y1, y2, y3, y4], _ =>
    have h0 := hel 0 _ rfl
    have h1 := hel 1 _ rfl
    have h2 := hel 2 _ rfl
    have h3 := hel 3 _ rfl
    have h4 := hel 4 _ rfl
    simp [od_c3, od_c29, od_c30] at h0 h1 h2 h3 h4
    obtain ⟨p0, e0, _, _⟩ := DataW.trod_int Try.underlying3 h0
    obtain ⟨p1, e1, _, w1⟩ := DataW.trod_int Try.underlying3 h1
    obtain ⟨p2, e2, _, _⟩ := DataW.trod_int Try.underlying3 h2
    obtain ⟨B, len, cap, l, e5, h5⟩ := things_at h4 (fun q hq => hw q (by rw [hxe]; exact w_agg Try.underlying32 (j := 4) (d := y4.1) rfl rfl hq))
    obtain ⟨zs, m2, _, _, _, hzl, hez⟩ := DataW.trod_struct Try.underlying29 h3
    match zs, hzl with
    | [z0, z1], _ =>
      have g0 := hez 0 _ rfl
      have g1 := hez 1 _ rfl
      simp [od_c9] at g0 g1
      obtain ⟨p3, e3, _, _⟩ := DataW.trod_string Try.underlying9 g0
      obtain ⟨p4, e4, _, _⟩ := DataW.trod_string Try.underlying9 g1
      simp at e0 e1 e2 e3 e4 e5
      subst e0 e1 e2 e3 e4 e5
      exact ⟨⟨p0, p1, p2, p3, p4, B, len, cap, l⟩, by simpa using hi 0 (by omega), by simpa using hi 1 (by omega), by simpa using hi 2 (by omega), by simpa using hi 3 (by omega), by simpa using hi 4 (by omega), by simpa using hi 5 (by omega), w1, h5⟩
theorem deeds_open {H : Type} {enc : TypeId × Value → H} {w : World} {base : Nat} {spare : Nat → Bool} {held : Bool} {a : Option Addr} {n c : Nat} {d : DataW H} {p : List MemPlace} (h : DataW.Trod enc Try.prog w base spare held 22 (.slice a n c) d p) (hw : ∀ q ∈ d.weights Try.prog 22, q ≤ reachBytes) :
    n ≤ maxLen ∧ ∃ f : Nat → DD, Deeds w a n f := by
  obtain ⟨fuel, hf⟩ := h
  rcases Go.Deep.open_slice Try.underlying22 hf with ⟨hcs, _⟩ | ⟨x, l, c', m, n', D, Pl, hcs, _, hl, hm, hmm, hxe, hx⟩
  · simp [Value.cells] at hcs
    exact ⟨by rw [hcs.2.1]; exact Nat.zero_le _, fun _ => .zero, .inl hcs.2.1⟩
  · simp [Value.cells] at hcs
    obtain ⟨rfl, rfl, rfl⟩ := hcs
    refine ⟨by omega, ?_⟩
    by_cases h0 : n = 0
    · exact ⟨fun _ => .zero, .inl h0⟩
    · have hall : ∀ i : Nat, ∃ t : DD, i < n → DDat w (x.add (i * 6)) t := by
        intro i
        by_cases hi : i < n
        · obtain ⟨cs', hc, ht⟩ := hx i (by rw [hmm]; split <;> omega)
          rw [od_c32] at hc
          obtain ⟨t, h3⟩ := deed_cells hc ht (fun q hq => hw q (by rw [show d = _ from congrArg Prod.fst hxe]; exact w_slice Try.underlying22 (List.mem_map.2 ⟨i, by simpa using hi, rfl⟩) hq))
          exact ⟨t, fun _ => h3⟩
        · exact ⟨.zero, fun h => absurd h hi⟩
      obtain ⟨f, hf'⟩ := Classical.axiomOfChoice hall
      obtain ⟨b, off, spot⟩ := x
      have z := (hf' 0 (by omega)).1
      have hs : spot = none := by simpa [Addr.add] using World.cell?_spot z
      subst hs
      have hb : b < w.heap.size := by simpa [Addr.add] using World.block_lt_of_cell? w _ z
      refine ⟨f, .inr ⟨b, off, rfl, hb, fun i hi => ?_⟩⟩
      have q := hf' i hi
      have e0 : (⟨b, off, none⟩ : Addr).add (i * 6) = ⟨b, off + i * 6, none⟩ := by
        by_cases y1 : i * 6 = 0 <;> simp [Addr.add, y1]
      rw [e0] at q
      exact q
theorem Came.later {w w' : World} {A : Option Addr} {n c : Nat} {xs : List TT} (h : Came w A n c xs) (hb : Below w.heap.size w w') : Came w' A n c xs := ⟨h.1, h.2.1, h.2.2.1, h.2.2.2.1, rdt_later h.2.2.2.2.1 hb, h.2.2.2.2.2⟩
theorem add_eq (b off j : Nat) : (⟨b, off, none⟩ : Addr).add j = ⟨b, off + j, none⟩ := by
  by_cases y : j = 0 <;> simp [Addr.add, y]
/-- A deed at its place. -/
theorem Deeds.at_ {w W : World} {A : Option Addr} {n : Nat} {f : Nat → DD} (h : Deeds w A n f) (hb : Below w.heap.size w W) {i : Nat} (hi : i < n) : ∃ b off, A = some ⟨b, off, none⟩ ∧ b < W.heap.size ∧
    W.cell? ⟨b, off + i * 6, none⟩ = some (.int .i64 (f i).d) ∧ W.cell? ⟨b, off + i * 6 + 1, none⟩ = some (.int .i64 (f i).n) ∧ W.cell? ⟨b, off + i * 6 + 2, none⟩ = some (.int .i64 (f i).m) ∧ W.cell? ⟨b, off + i * 6 + 3, none⟩ = some (.string (f i).f) ∧ W.cell? ⟨b, off + i * 6 + 4, none⟩ = some (.string (f i).t) ∧ W.cell? ⟨b, off + i * 6 + 5, none⟩ = some (.slice (f i).B (f i).len (f i).cap) ∧
    (Lit.int .i64 (f i).n).wf = true ∧ Came W (f i).B (f i).len (f i).cap (f i).l := by
  rcases h with h | ⟨b, off, rfl, hlt, h⟩
  · omega
  · obtain ⟨a0, a1, a2, a3, a4, a5, a6, a7⟩ := h i hi
    simp only [add_eq, Nat.add_zero] at a0 a1 a2 a3 a4 a5
    exact ⟨b, off, rfl, Nat.lt_of_lt_of_le hlt hb.size, bel_later hb a0, bel_later hb a1, bel_later hb a2, bel_later hb a3, bel_later hb a4, bel_later hb a5, a6, a7.later hb⟩
theorem lastE_size {l : List TT} (h : ∀ x ∈ l, x.1.size ≤ reachBytes) : (lastE l).size + 1 ≤ 9223372036854775807 := by
  have hr : reachBytes = 140737488351232 := rfl
  unfold lastE
  cases e : l.getLast? with
  | none => simp only [Option.map_none, Option.getD_none]; show 0 + 1 ≤ _; omega
  | some x =>
    have := h x (List.mem_of_getLast? e)
    simp only [Option.map_some, Option.getD_some]
    omega
end Go.Proofs.Ytdbcaiggliiacaa
