/- Texts of the proof, one behind the other. -/
import Derived.Test.YtdebedeebmmleaaGreatDoorRows
import Derived.WalkKit
import Derived.ProofKit
import Derived.OpenShut
import Derived.ChangeOld
import Derived.ChangeSame
import Derived.Below
import Derived.Lib.SmallJoins
import Derived.SizedLaws
import Derived.Deep.Slices
import Derived.Test.YtdebedeebmmleaaGreatDoorTc33
import Derived.Test.YtdebedeebmmleaaGreatDoorTc34
import Derived.Test.YtdebedeebmmleaaGreatDoorTie
import Derived.LaidMore
import Derived.Lay
import Derived.Lib.LaidTab
import Derived.Lib.LaidU8
import Derived.SevenTiedAt
import Derived.Stop.Joined
import Derived.Handed
import Derived.HandedShaped
import Derived.Shelf.Vars
set_option linter.unusedVariables false
set_option linter.unusedSimpArgs false
namespace Go.Proofs.YtdebedeebmmleaaGreatDoor
open Go.ChangeShapes Go.WideShapes Go.ChangeAt Go.RowKit Go.Joins
theorem oz_3 : Tryz.prog.cellsOf 3 = 1 := by kernel_rfl
theorem oz_9 : Tryz.prog.cellsOf 9 = 1 := by kernel_rfl
theorem oz_22 : Tryz.prog.cellsOf 22 = 1 := by kernel_rfl
theorem oz_38 : Tryz.prog.cellsOf 38 = 1 := by kernel_rfl
theorem oz_39 : Tryz.prog.cellsOf 39 = 1 := by kernel_rfl
theorem oz_40 : Tryz.prog.cellsOf 40 = 1 := by kernel_rfl
theorem oz_41 : Tryz.prog.cellsOf 41 = 1 := by kernel_rfl
theorem oz_42 : Tryz.prog.cellsOf 42 = 1 := by kernel_rfl
theorem oz_69 : Tryz.prog.cellsOf 69 = 1 := by kernel_rfl
theorem oz_70 : Tryz.prog.cellsOf 70 = 1 := by kernel_rfl
theorem oz_71 : Tryz.prog.cellsOf 71 = 1 := by kernel_rfl
theorem oz_24 : Tryz.prog.cellsOf 24 = 1 := by kernel_rfl
theorem oz_44 : Tryz.prog.cellsOf 44 = 5 := by kernel_rfl
theorem oz_73 : Tryz.prog.cellsOf 73 = 6 := by kernel_rfl
theorem oz_75 : Tryz.prog.cellsOf 75 = 2 := by kernel_rfl
theorem owf64 {n : Int} (h : (Lit.int .i64 n).wf = true) : -9223372036854775808 ≤ n ∧ n ≤ 9223372036854775807 := by
  have e : (Lit.int .i64 n).wf = (decide (-9223372036854775808 ≤ n) && decide (n ≤ 9223372036854775807)) := by kernel_rfl
  rw [e, Bool.and_eq_true, decide_eq_true_eq, decide_eq_true_eq] at h; exact h
theorem owfu {n : Int} (h : (Lit.int .u64 n).wf = true) : 0 ≤ n ∧ n ≤ 18446744073709551615 := by
  have e : (Lit.int .u64 n).wf = (decide (0 ≤ n) && decide (n ≤ 18446744073709551615)) := by kernel_rfl
  rw [e, Bool.and_eq_true, decide_eq_true_eq, decide_eq_true_eq] at h; exact h
theorem owf8 {n : Int} (h : (Lit.int .u8 n).wf = true) : 0 ≤ n ∧ n ≤ 255 := by
  have e : (Lit.int .u8 n).wf = (decide (0 ≤ n) && decide (n ≤ 255)) := by kernel_rfl
  rw [e, Bool.and_eq_true, decide_eq_true_eq, decide_eq_true_eq] at h; exact h
def I64 (n : Int) : Prop := -9223372036854775808 ≤ n ∧ n ≤ 9223372036854775807
/-- A message's numbers are numbers. -/
def MIn (m : M) : Prop := (0 ≤ m.dl ∧ m.dl ≤ 18446744073709551615) ∧ I64 m.q
theorem re_all_at {α : Type} (E : RE α) {xs : List α} {j : Nat} {u : Value} (h : (E.all xs)[j]? = some u) : ∃ k i x, xs[k]? = some x ∧ j = k * E.k + i ∧ (E.cs x)[i]? = some u := by
  induction xs generalizing j with
  | nil => simp [RE.all] at h
  | cons x xs ih =>
    rw [RE.all_cons] at h
    by_cases hj : j < E.k
    · rw [List.getElem?_append_left (by rw [E.len]; exact hj)] at h
      exact ⟨0, j, x, rfl, by omega, h⟩
    · rw [List.getElem?_append_right (by rw [E.len]; omega), E.len] at h
      obtain ⟨k, i, y, h1, h2, h3⟩ := ih h
      exact ⟨k + 1, i, y, by simpa using h1, by rw [Nat.succ_mul]; omega, h3⟩
theorem addr_add2 (b off i j : Nat) : ((⟨b, off, none⟩ : Addr).add i).add j = ⟨b, off + (i + j), none⟩ := by
  by_cases y1 : i = 0 <;> by_cases y2 : j = 0 <;> simp [Addr.add, y1, y2] <;> omega
/-- A row of anything, opened. -/
theorem open_re {α : Type} (E : RE α) (Q : α → Prop) {H : Type} {enc : TypeId × Value → H} {w : World} {base : Nat} {spare : Nat → Bool} {held : Bool} (hk : Tryz.prog.cellsOf E.et = E.k)
    (el : ∀ (a : Addr) (cs : List Value) (x : DataW H × List MemPlace) (n : Nat), w.cells? base a E.k = some cs → DataW.trod enc Tryz.prog w base spare held n E.et cs = some x → ∃ t : α, Q t ∧ ∀ j u, (E.cs t)[j]? = some u → w.cell? (a.add j) = some u)
    {fuel : Nat} {v : Value} {x : DataW H × List MemPlace} (h : DataW.trod enc Tryz.prog w base spare held fuel E.st [v] = some x) :
    ∃ (A : Option Addr) (c : Nat) (xs : List α), v = .slice A xs.length c ∧ E.Rd w A xs ∧ ∀ y ∈ xs, Q y := by
  rcases Go.Deep.open_slice E.und h with ⟨hcs, _⟩ | ⟨a, n, c', m, n', D, Pl, hcs, _, hl, hm, hmm, hxe, hx⟩
  · simp at hcs
    exact ⟨none, 0, [], hcs, .inl rfl, fun y hy => by cases hy⟩
  · simp at hcs
    by_cases h0 : n = 0
    · exact ⟨some a, c', [], by rw [hcs, h0]; rfl, .inl rfl, fun y hy => by cases hy⟩
    · have hall : ∀ i : Nat, ∃ t : α, (Q t ∧ (i < n → ∀ j u, (E.cs t)[j]? = some u → w.cell? ((a.add (i * E.k)).add j) = some u)) := by
        intro i
        by_cases hi : i < n
        · obtain ⟨cs', hc, ht⟩ := hx i (by rw [hmm]; split <;> omega)
          rw [hk] at hc
          obtain ⟨t, h1, h2⟩ := el _ _ _ _ hc ht
          exact ⟨t, h1, fun _ => h2⟩
        · obtain ⟨cs', hc, ht⟩ := hx 0 (by rw [hmm]; split <;> omega)
          rw [hk] at hc
          obtain ⟨t, h1, h2⟩ := el _ _ _ _ hc ht
          exact ⟨t, h1, fun h => absurd h hi⟩
      obtain ⟨f, hf⟩ := Classical.axiomOfChoice hall
      obtain ⟨b, off, spot⟩ := a
      have hf0 : ∃ u, (E.cs (f 0))[0]? = some u := ⟨_, List.getElem?_eq_getElem (by rw [E.len]; exact E.kpos)⟩
      obtain ⟨u0, hu0⟩ := hf0
      have z := (hf 0).2 (by omega) 0 u0 hu0
      have hs : spot = none := by simpa [Addr.add] using World.cell?_spot z
      subst hs
      have hb : b < w.heap.size := by simpa [Addr.add] using World.block_lt_of_cell? w _ z
      refine ⟨some ⟨b, off, none⟩, c', (List.range n).map f, by rw [hcs]; simp, .inr ⟨b, off, rfl, hb, fun j u hj => ?_⟩, fun y hy => (by obtain ⟨i, _, rfl⟩ := List.mem_map.1 hy; exact (hf i).1)⟩
      obtain ⟨k, i, y, hky, rfl, hu⟩ := re_all_at E hj
      rw [List.getElem?_map] at hky
      have hkn : k < n := by
        cases hr : (List.range n)[k]? with
        | none => rw [hr] at hky; cases hky
        | some q => have := (List.getElem?_eq_some_iff.1 hr).1; simpa using this
      rw [List.getElem?_range hkn] at hky
      simp at hky
      subst hky
      have q := (hf k).2 hkn i u hu
      rw [addr_add2] at q
      exact q
set_option maxRecDepth 10000 in
theorem msg_el {H : Type} {enc : TypeId × Value → H} {w : World} {base : Nat} {spare : Nat → Bool} {held : Bool} (a : Addr) (cs : List Value) (x : DataW H × List MemPlace) (n : Nat)
    (hc : w.cells? base a 6 = some cs) (h : DataW.trod enc Tryz.prog w base spare held n 73 cs = some x) :
    ∃ m : M, MIn m ∧ ∀ j u, (EM.cs m)[j]? = some u → w.cell? (a.add j) = some u := by
  obtain ⟨_, hl, hi⟩ := World.cells?_some hc
  obtain ⟨xs, m, _, _, _, hxl, hel⟩ := DataW.trod_struct Tryz.underlying73 h
  match cs, hl, xs, hxl with
  | [c0, c1, c2, c3, c4, c5], _, [y0, y1, y2, y3, y4, y5], _ =>
    have h0 := hel 0 _ rfl
    have h1 := hel 1 _ rfl
    have h2 := hel 2 _ rfl
    have h3 := hel 3 _ rfl
    have h4 := hel 4 _ rfl
    have h5 := hel 5 _ rfl
    simp [oz_70, oz_3, oz_9, oz_71] at h0 h1 h2 h3 h4 h5
    obtain ⟨p0, e0, _, _⟩ := DataW.trod_int Tryz.underlying70 h0
    obtain ⟨p1, e1, _, f1⟩ := DataW.trod_int Tryz.underlying3 h1
    obtain ⟨p2, e2, _, _⟩ := DataW.trod_string Tryz.underlying9 h2
    obtain ⟨p3, e3, _, _⟩ := DataW.trod_string Tryz.underlying9 h3
    obtain ⟨p4, e4, _, _⟩ := DataW.trod_string Tryz.underlying9 h4
    obtain ⟨p5, e5, _, f5⟩ := DataW.trod_int Tryz.underlying71 h5
    simp at e0 e1 e2 e3 e4 e5
    subst e0 e1 e2 e3 e4 e5
    refine ⟨⟨p0, p1, p2, p3, p4, p5⟩, ⟨owfu f5, owf64 f1⟩, fun j u hu => ?_⟩
    match j, hu with
    | 0, hu => simp [EM] at hu; subst hu; simpa using hi 0 (by omega)
    | 1, hu => simp [EM] at hu; subst hu; simpa using hi 1 (by omega)
    | 2, hu => simp [EM] at hu; subst hu; simpa using hi 2 (by omega)
    | 3, hu => simp [EM] at hu; subst hu; simpa using hi 3 (by omega)
    | 4, hu => simp [EM] at hu; subst hu; simpa using hi 4 (by omega)
    | 5, hu => simp [EM] at hu; subst hu; simpa using hi 5 (by omega)
    | j + 6, hu => simp [EM] at hu
set_option maxRecDepth 10000 in
theorem ent_el {H : Type} {enc : TypeId × Value → H} {w : World} {base : Nat} {spare : Nat → Bool} {held : Bool} (a : Addr) (cs : List Value) (x : DataW H × List MemPlace) (n : Nat)
    (hc : w.cells? base a 2 = some cs) (h : DataW.trod enc Tryz.prog w base spare held n 75 cs = some x) :
    ∃ m : EnV, True ∧ ∀ j u, (EE.cs m)[j]? = some u → w.cell? (a.add j) = some u := by
  obtain ⟨_, hl, hi⟩ := World.cells?_some hc
  obtain ⟨xs, m, _, _, _, hxl, hel⟩ := DataW.trod_struct Tryz.underlying75 h
  match cs, hl, xs, hxl with
  | [c0, c1], _, [y0, y1], _ =>
    have h0 := hel 0 _ rfl
    have h1 := hel 1 _ rfl
    simp [oz_9] at h0 h1
    obtain ⟨p0, e0, _, _⟩ := DataW.trod_string Tryz.underlying9 h0
    obtain ⟨p1, e1, _, _⟩ := DataW.trod_string Tryz.underlying9 h1
    simp at e0 e1
    subst e0 e1
    refine ⟨⟨p0, p1⟩, trivial, fun j u hu => ?_⟩
    match j, hu with
    | 0, hu => simp [EE] at hu; subst hu; simpa using hi 0 (by omega)
    | 1, hu => simp [EE] at hu; subst hu; simpa using hi 1 (by omega)
    | j + 2, hu => simp [EE] at hu
/-- A header's entries. -/
def HIn (w : World) (x : Hd) : Prop := ∃ l : List EnV, x.n = l.length ∧ EE.Rd w x.A l
set_option maxRecDepth 10000 in
theorem hd_el {H : Type} {enc : TypeId × Value → H} {w : World} {base : Nat} {spare : Nat → Bool} {held : Bool} (a : Addr) (cs : List Value) (x : DataW H × List MemPlace) (n : Nat)
    (hc : w.cells? base a 1 = some cs) (h : DataW.trod enc Tryz.prog w base spare held n 69 cs = some x) :
    ∃ o : Hd, HIn w o ∧ ∀ j u, (EH.cs o)[j]? = some u → w.cell? (a.add j) = some u := by
  obtain ⟨_, hl, hi⟩ := World.cells?_some hc
  match cs, hl with
  | [c0], _ =>
    obtain ⟨A, c, xs, e4, hA, hm⟩ := open_re EE (fun _ => True) oz_75 ent_el h
    subst e4
    refine ⟨⟨A, xs.length, c⟩, ⟨xs, rfl, hA⟩, fun j u hu => ?_⟩
    match j, hu with
    | 0, hu => simp [EH] at hu; subst hu; simpa using hi 0 (by omega)
    | j + 1, hu => simp [EH] at hu
set_option maxRecDepth 10000 in
theorem int_el {H : Type} {enc : TypeId × Value → H} {w : World} {base : Nat} {spare : Nat → Bool} {held : Bool} (a : Addr) (cs : List Value) (x : DataW H × List MemPlace) (n : Nat)
    (hc : w.cells? base a 1 = some cs) (h : DataW.trod enc Tryz.prog w base spare held n 3 cs = some x) :
    ∃ v : Int, I64 v ∧ ∀ j u, (EI.cs v)[j]? = some u → w.cell? (a.add j) = some u := by
  obtain ⟨_, hl, hi⟩ := World.cells?_some hc
  match cs, hl with
  | [c0], _ =>
    obtain ⟨p0, e0, _, f0⟩ := DataW.trod_int Tryz.underlying3 h
    simp at e0
    subst e0
    refine ⟨p0, owf64 f0, fun j u hu => ?_⟩
    match j, hu with
    | 0, hu => simp [EI] at hu; subst hu; simpa using hi 0 (by omega)
    | j + 1, hu => simp [EI] at hu
set_option maxRecDepth 10000 in
theorem str_el {H : Type} {enc : TypeId × Value → H} {w : World} {base : Nat} {spare : Nat → Bool} {held : Bool} (a : Addr) (cs : List Value) (x : DataW H × List MemPlace) (n : Nat)
    (hc : w.cells? base a 1 = some cs) (h : DataW.trod enc Tryz.prog w base spare held n 9 cs = some x) :
    ∃ v : ByteArray, True ∧ ∀ j u, (ES.cs v)[j]? = some u → w.cell? (a.add j) = some u := by
  obtain ⟨_, hl, hi⟩ := World.cells?_some hc
  match cs, hl with
  | [c0], _ =>
    obtain ⟨p0, e0, _, f0⟩ := DataW.trod_string Tryz.underlying9 h
    simp at e0
    subst e0
    refine ⟨p0, trivial, fun j u hu => ?_⟩
    match j, hu with
    | 0, hu => simp [ES] at hu; subst hu; simpa using hi 0 (by omega)
    | j + 1, hu => simp [ES] at hu
theorem heads_of {w : World} : ∀ (hs : List Hd), (∀ h ∈ hs, HIn w h) → ∃ bl : List (List EnV), hs.length = bl.length ∧ ∀ (i : Nat) (h : Hd) (l : List EnV), hs[i]? = some h → bl[i]? = some l → h.n = l.length ∧ EE.Rd w h.A l
  | [], _ => ⟨[], rfl, fun i h l hh _ => by simp at hh⟩
  | x :: xs, h => by
    obtain ⟨bl, h1, h2⟩ := heads_of xs (fun o ho => h o (List.mem_cons_of_mem _ ho))
    obtain ⟨l, e1, e2⟩ := h x (by simp)
    refine ⟨l :: bl, by simp [h1], fun i y o hy ho => ?_⟩
    cases i with
    | zero => simp at hy ho; subst hy ho; exact ⟨e1, e2⟩
    | succ i => exact h2 i y o (by simpa using hy) (by simpa using ho)
/-- What a node's cells say. -/
def NcIn (w : World) (x : NC) : Prop := ∃ hs y, NRd w x hs y ∧ NQ y
set_option maxRecDepth 10000 in
theorem node_el {H : Type} {enc : TypeId × Value → H} {w : World} {base : Nat} {spare : Nat → Bool} {held : Bool} (a : Addr) (cs : List Value) (x : DataW H × List MemPlace) (n : Nat)
    (hc : w.cells? base a 5 = some cs) (h : DataW.trod enc Tryz.prog w base spare held n 44 cs = some x) :
    ∃ o : NC, NcIn w o ∧ ∀ j u, (EN.cs o)[j]? = some u → w.cell? (a.add j) = some u := by
  obtain ⟨_, hl, hi⟩ := World.cells?_some hc
  obtain ⟨xs, m, _, _, _, hxl, hel⟩ := DataW.trod_struct Tryz.underlying44 h
  match cs, hl, xs, hxl with
  | [c0, c1, c2, c3, c4], _, [y0, y1, y2, y3, y4], _ =>
    have h0 := hel 0 _ rfl
    have h1 := hel 1 _ rfl
    have h2 := hel 2 _ rfl
    have h3 := hel 3 _ rfl
    have h4 := hel 4 _ rfl
    simp [oz_38, oz_39, oz_40, oz_41, oz_42] at h0 h1 h2 h3 h4
    obtain ⟨p0, e0, _, f0⟩ := DataW.trod_int Tryz.underlying38 h0
    obtain ⟨A1, k1, l1, e1, r1, q1⟩ := open_re ES (fun _ => True) oz_9 str_el h1
    obtain ⟨A2, k2, l2, e2, r2, q2⟩ := open_re EI I64 oz_3 int_el h2
    obtain ⟨A3, k3, l3, e3, r3, q3⟩ := open_re EM MIn oz_73 msg_el h3
    obtain ⟨A4, k4, l4, e4, r4, q4⟩ := open_re EH (HIn w) oz_69 hd_el h4
    obtain ⟨bl, b1, b2⟩ := heads_of l4 q4
    simp at e0
    subst e0 e1 e2 e3 e4
    refine ⟨⟨p0, ⟨A1, l1.length, k1⟩, ⟨A2, l2.length, k2⟩, ⟨A3, l3.length, k3⟩, ⟨A4, l4.length, k4⟩⟩, ⟨l4, ⟨p0, l1, l2, l3, bl⟩, ⟨rfl, ⟨rfl, r1⟩, ⟨rfl, r2⟩, ⟨rfl, r3⟩, ⟨rfl, r4, b1, b2⟩⟩, ⟨⟨q2, fun m hm => (q3 m hm).1, (owf8 f0).1⟩, fun m hm => (q3 m hm).2⟩⟩, fun j u hu => ?_⟩
    match j, hu with
    | 0, hu => simp [EN] at hu; subst hu; simpa using hi 0 (by omega)
    | 1, hu => simp [EN] at hu; subst hu; simpa using hi 1 (by omega)
    | 2, hu => simp [EN] at hu; subst hu; simpa using hi 2 (by omega)
    | 3, hu => simp [EN] at hu; subst hu; simpa using hi 3 (by omega)
    | 4, hu => simp [EN] at hu; subst hu; simpa using hi 4 (by omega)
    | j + 5, hu => simp [EN] at hu
theorem nodes_of {w : World} : ∀ (ns : List NC), (∀ x ∈ ns, NcIn w x) → ∃ ys : List NdV, ns.length = ys.length ∧ (∀ (i : Nat) (x : NC) (y : NdV), ns[i]? = some x → ys[i]? = some y → ∃ hs, NRd w x hs y) ∧ ∀ y ∈ ys, NQ y
  | [], _ => ⟨[], rfl, (fun i h l hh _ => by simp at hh), fun y hy => by cases hy⟩
  | x :: xs, h => by
    obtain ⟨ys, h1, h2, h3⟩ := nodes_of xs (fun o ho => h o (List.mem_cons_of_mem _ ho))
    obtain ⟨hs, y, e1, e2⟩ := h x (by simp)
    refine ⟨y :: ys, by simp [h1], fun i a b ha hb => ?_, fun z hz => ?_⟩
    · cases i with
      | zero => simp at ha hb; subst ha hb; exact ⟨hs, e1⟩
      | succ i => exact h2 i a b (by simpa using ha) (by simpa using hb)
    · rcases List.mem_cons.1 hz with rfl | hz
      · exact e2
      · exact h3 z hz
set_option maxRecDepth 10000 in
/-- A tree that came in: what it reads as. -/
theorem tree_open {H : Type} {enc : TypeId × Value → H} {W : World} {base : Nat} {spare : Nat → Bool} {held : Bool} {r : Reach} {b0 : Nat} {v : Value} {d : DataW H} {p : List MemPlace}
    (hv : Value.okWide Tryz.prog W r b0 24 v) (h : DataW.Trod enc Tryz.prog W base spare held 24 v d p) : ∃ A c ns ys, v = .agg #[.slice A ys.length c] ∧ NT W A ns ys ∧ ∀ y ∈ ys, NQ y := by
  obtain ⟨cs, rfl, hsz⟩ := okWide_struct Tryz.underlying24 hv
  rw [oz_24] at hsz
  obtain ⟨fuel, hf⟩ := h
  obtain ⟨xs, m, _, _, _, hxl, hel⟩ := DataW.trod_struct Tryz.underlying24 hf
  obtain ⟨ls⟩ := cs
  match ls, hsz, xs, hxl with
  | [c0], _, [y0], _ =>
    have h0 := hel 0 _ rfl
    simp [oz_22, Value.cells] at h0
    obtain ⟨A, c, ns, e, hA, hm⟩ := open_re EN (NcIn W) oz_44 node_el h0
    obtain ⟨ys, h1, h2, h3⟩ := nodes_of ns hm
    subst e
    exact ⟨A, c, ns, ys, by rw [h1], ⟨hA, h1, h2⟩, h3⟩
end Go.Proofs.YtdebedeebmmleaaGreatDoor
namespace Go.Proofs.YtdebedeebmmleaaGreatDoor
open Go.RowKit Go.Maps
end Go.Proofs.YtdebedeebmmleaaGreatDoor
namespace Go.Proofs.YtdebedeebmmleaaGreatDoor
open Go.ChangeShapes Go.WideShapes Go.ChangeAt Go.RowKit
/-- The wrap of a row that lists variables, the world's shape kept. -/
theorem handed_and_shaped {H : Type} {enc : TypeId × Value → H} {a : Assume} {C : Checked} {os : Os} {f : FuncId} {fn : Func} {s : ChangeSpec} {conds : List PathCond} {apart fresh handsOn again : Bool} {X : World → Array Value → Prop}
    (hX : ∀ (w w' : World) (args : Array Value), w.heap = w'.heap → X w args → X w' args)
    (own : ownKnob C.prog.godebug = none) (started : os.Started) (noInit : C.prog.inits.idxOf? f = none) (hfn : C.prog.funcs[f]? = some fn)
    (witness : ∃ (w : World) (tape : Tape) (i : Input), w.os = os ∧ (w.forCall tape i).Shaped C.prog ∧ i.vars = [] ∧ Input.okWide C.prog (w.forCall tape i) .any w.heap.size f i ∧
      ((s.pre enc C.prog fn conds apart (w.forCall tape i).memory i.args ∧ X (w.forCall tape i).memory i.args) ∧ sizedMet enc C.prog fn (OpenSpec.ofChange s) apart (w.forCall tape i).memory i.args) ∧ a.holds C.prog (lone (Frame.enter C.prog f i.args .normal) [] (w.forCall tape i)))
    (contract : ∀ (W : World) (base : Nat) (args : Array Value) (ds gs : List (DataW H)) (before : List MemPlace),
      (∀ (j : Nat) t v, fn.params[j]? = some t → args[j]? = some v → Value.okWide C.prog W .any base t v) →
      DataW.Whole enc C.prog fn.params.toList s.vars apart W args.toList ds gs before →
      (DataW.weightsEach C.prog (fn.params.toList ++ s.plain.varTypes C.prog) (ds ++ gs)).all (· ≤ reachBytes) = true → X W args → W.ShapedOpen C.prog →
      Calls C.prog f args W fun e W' => ∃ v, e = .returned v ∧ s.post enc C.prog fn apart fresh handsOn again W args v W') :
    ReturnsInHanded a C os f .any (fun w args => (s.pre enc C.prog fn conds apart w args ∧ X w args) ∧ sizedMet enc C.prog fn (OpenSpec.ofChange s) apart w args) (s.post enc C.prog fn apart fresh handsOn again) := by
  refine returnsInHanded_of_calls own started noInit witness ?_
  intro w tape i _ hsh _ hok hpre hholds
  obtain ⟨_, _, _, fn', hfn', _, _, _, _, hval⟩ := hok
  have e : fn' = fn := Option.some.inj (hfn'.symm.trans hfn)
  subst e
  obtain ⟨⟨⟨ds, gs, before, hw, hc⟩, hx⟩, hz⟩ := hpre
  have hw' := DataW.Whole.of_heap (w' := w.forCall tape i) (by rfl) hw
  refine (contract (w.forCall tape i) w.heap.size i.args ds gs before hval hw' (hz.weights hw) (hX _ _ _ (by rfl) hx) hsh).mono fun e W' ⟨v, he, hp⟩ => ?_
  subst he
  exact ChangeSpec.post_blind hp
theorem card_own : ownKnob Tryz.prog.godebug = none := by kernel_rfl
theorem card_laidOut : laidOutB Tryz.prog = true := by kernel_rfl
/-- What the rows list. -/
abbrev LL : List (String × DataW Unit) := Rows.dumpForthRow.laid
theorem iface_cell {P : Program} {H : Type} {enc : TypeId × Value → H} {w : World} {base : Nat} {sp : Nat → Bool} {held : Bool} {fuel : Nat} {t : TypeId} {ms : Array (String × TypeId)} {cs : List Value} {x : DataW H × List MemPlace} (ht : P.underlying t = some (.interface ms))
    (h : DataW.trod enc P w base sp held fuel t cs = some x) : ∃ ev, cs = [ev] ∧ (ev = .nilIface ∨ ∃ te pe, ev = .iface te pe) := by
  cases fuel with
  | zero => simp [DataW.trod] at h
  | succ m =>
    match cs, h with
    | [], h => simp [DataW.trod, ht] at h
    | [v], h =>
      cases v <;> first
        | exact ⟨_, rfl, .inl rfl⟩
        | exact ⟨_, rfl, .inr ⟨_, _, rfl⟩⟩
        | (simp [DataW.trod, ht] at h; done)
    | a :: b :: r, h => simp [DataW.trod, ht] at h
theorem od_c3 : Tryz.prog.cellsOf 3 = 1 := by kernel_rfl
set_option maxRecDepth 100000 in
theorem met_gw {W : World} (hL : laidMetH Tryz.prog LL W) (hs : W.ShapedOpen Tryz.prog) : GW W := by
  rw [MakeChecks.laidMetH_plain _ _ _ (by kernel_rfl)] at hL
  have sent : ∀ (n : String) (g : Nat) (d : DataW Unit), (n, d) ∈ LL → Tryz.prog.globalNamed n = some g → (Tryz.prog.globals[g]?).map (·.type) = some 78 → ∃ ev, W.cell? ⟨g, 0, none⟩ = some ev ∧ (ev = .nilIface ∨ ∃ te pe, ev = .iface te pe) := by
    intro n g d hm hg ht
    obtain ⟨g', t', cs, fuel, p, h1, h2, h3, h4⟩ := Lib.laidMet.reads hL hm
    obtain rfl := Option.some.inj (hg.symm.trans h1)
    obtain rfl := Option.some.inj (ht.symm.trans h2)
    obtain ⟨ev, e, hev⟩ := iface_cell Tryz.underlying78 h4
    refine ⟨ev, ?_, hev⟩
    have := World.var?_cell hg h3 0
    rw [Array.eq_one_of_toList e] at this
    simpa using this
  have tab : Lib.TabIs Tryz.prog W "internal/strconv.uint64pow10" .u64 Lib.pow10Tab := by
    have hm : ("internal/strconv.uint64pow10", Rows.laid_internal_strconv_uint64pow10) ∈ LL := .tail _ (.tail _ (.head _))
    obtain ⟨g', t', cs, fuel, p, h1, h2, h3, h4⟩ := Lib.laidMet.reads hL hm
    obtain rfl := Option.some.inj ((show Tryz.prog.globalNamed "internal/strconv.uint64pow10" = some 1 by kernel_rfl).symm.trans h1)
    obtain rfl := Option.some.inj ((show (Tryz.prog.globals[1]?).map (·.type) = some 142 by kernel_rfl).symm.trans h2)
    have e : (Rows.laid_internal_strconv_uint64pow10 : DataW Unit) = Lib.tabData .u64 Lib.pow10Tab := by kernel_rfl
    rw [e] at h4
    have q := Lib.cells_of_tab Tryz.underlying142 Tryz.underlying71 (by kernel_rfl) (by kernel_rfl) h4
    unfold Lib.TabIs
    rw [h3, ← q]
  have an : ∀ i v, ([2147483647, 2147483647, 0, 0, 0, 0, 0, 0, 0] : List Int)[i]? = some v → W.cell? ⟨0, i, none⟩ = some (.int .i64 v) := by
    have hm : ("catchment/dump.anySizes", Rows.laid_catchment_dump_anySizes) ∈ LL := .tail _ (.tail _ (.tail _ (.tail _ (.tail _ (.tail _ (.head _))))))
    obtain ⟨g', t', cs, fuel, p, h1, h2, h3, h4⟩ := Lib.laidMet.reads hL hm
    obtain rfl := Option.some.inj ((show Tryz.prog.globalNamed "catchment/dump.anySizes" = some 0 by kernel_rfl).symm.trans h1)
    obtain rfl := Option.some.inj ((show (Tryz.prog.globals[0]?).map (·.type) = some 115 by kernel_rfl).symm.trans h2)
    obtain ⟨cl⟩ := cs
    obtain ⟨xs, m, _, hxe, hcl, hxl, hel⟩ := DataW.trod_struct Tryz.underlying115 h4
    have hcl2 : cl.length = 9 := hcl.trans (by kernel_rfl)
    match cl, hcl2, xs, hxl with
    | [c0, c1, c2, c3, c4, c5, c6, c7, c8], _, [y0, y1, y2, y3, y4, y5, y6, y7, y8], _ =>
      have h0' := hel 0 _ rfl
      have h1' := hel 1 _ rfl
      have h2' := hel 2 _ rfl
      have h3' := hel 3 _ rfl
      have h4' := hel 4 _ rfl
      have h5' := hel 5 _ rfl
      have h6' := hel 6 _ rfl
      have h7' := hel 7 _ rfl
      have h8' := hel 8 _ rfl
      simp [od_c3] at h0' h1' h2' h3' h4' h5' h6' h7' h8'
      obtain ⟨p0, e0, d0, _⟩ := DataW.trod_int Tryz.underlying3 h0'
      obtain ⟨p1, e1, d1, _⟩ := DataW.trod_int Tryz.underlying3 h1'
      obtain ⟨p2, e2, d2, _⟩ := DataW.trod_int Tryz.underlying3 h2'
      obtain ⟨p3, e3, d3, _⟩ := DataW.trod_int Tryz.underlying3 h3'
      obtain ⟨p4, e4, d4, _⟩ := DataW.trod_int Tryz.underlying3 h4'
      obtain ⟨p5, e5, d5, _⟩ := DataW.trod_int Tryz.underlying3 h5'
      obtain ⟨p6, e6, d6, _⟩ := DataW.trod_int Tryz.underlying3 h6'
      obtain ⟨p7, e7, d7, _⟩ := DataW.trod_int Tryz.underlying3 h7'
      obtain ⟨p8, e8, d8, _⟩ := DataW.trod_int Tryz.underlying3 h8'
      simp at e0 e1 e2 e3 e4 e5 e6 e7 e8
      subst e0 e1 e2 e3 e4 e5 e6 e7 e8
      subst d0 d1 d2 d3 d4 d5 d6 d7 d8
      have hd := congrArg Prod.fst hxe
      simp [Rows.laid_catchment_dump_anySizes] at hd
      obtain ⟨rfl, rfl, rfl, rfl, rfl, rfl, rfl, rfl, rfl⟩ := hd
      intro i v hv
      have hc := World.var?_cell (show Tryz.prog.globalNamed "catchment/dump.anySizes" = some 0 by kernel_rfl) h3 i
      rw [hc, ← Array.getElem?_toList]
      show (([2147483647, 2147483647, 0, 0, 0, 0, 0, 0, 0] : List Int).map (Value.int .i64))[i]? = _
      rw [List.getElem?_map, hv]
      rfl
  refine ⟨an, cell_of_shapedOpen_int hs (g := 2) (t := 3) (zero := #[.int .i64 0]) (of_decide_eq_true (by kernel_rfl)) (by kernel_rfl) rfl (by kernel_rfl) (by kernel_rfl) Tryz.underlying3, ?_, ?_, tab⟩
  · exact sent "strconv.ErrSyntax" 3 _ (.tail _ (.tail _ (.tail _ (.tail _ (.tail _ (.head _)))))) (by kernel_rfl) (by kernel_rfl)
  · exact sent "strconv.ErrRange" 4 _ (.tail _ (.tail _ (.tail _ (.tail _ (.head _))))) (by kernel_rfl) (by kernel_rfl)
set_option maxRecDepth 100000 in
theorem start_met (os : Os) (args : Array Value) : laidMetH Tryz.prog LL ((World.laidAll Tryz.prog os LL).forCall (fun _ _ => 0) ⟨#[], args, []⟩).memory := by
  rw [MakeChecks.laidMetH_plain _ _ _ (by kernel_rfl)]
  exact laidMet_laidAll _ (by kernel_rfl) (by kernel_rfl)
set_option maxRecDepth 100000 in
theorem start_shaped (os : Os) (args : Array Value) : ((World.laidAll Tryz.prog os LL).forCall (fun _ _ => 0) ⟨#[], args, []⟩).Shaped Tryz.prog := World.shaped_of_ZipB (by kernel_rfl) (by kernel_rfl)
end Go.Proofs.YtdebedeebmmleaaGreatDoor
