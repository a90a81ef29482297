/- Messages that came in, opened. -/
import Derived.Test.YtdbnkeihnoglcaaRows
import Derived.WalkKit
import Derived.ProofKit
import Derived.OpenShut
import Derived.ShutString
import Derived.ChangeOld
import Derived.ChangeSame
import Derived.Below
import Derived.Lib.SmallJoins
import Derived.SizedLaws
import Derived.Deep.Slices
import Derived.Deep.Strs
import Derived.Test.YtdbnkeihnoglcaaB1
namespace Go.Proofs.Ytdbnkeihnoglcaa
open Go.ChangeShapes Go.WideShapes Go.ChangeAt Go.RowKit Go.Joins
set_option linter.unusedVariables false
set_option linter.unusedSimpArgs false
theorem od_c3 : Try.prog.cellsOf 3 = 1 := by kernel_rfl
theorem od_c9 : Try.prog.cellsOf 9 = 1 := by kernel_rfl
theorem od_c28 : Try.prog.cellsOf 28 = 1 := by kernel_rfl
theorem od_c29 : Try.prog.cellsOf 29 = 1 := by kernel_rfl
theorem od_c31 : Try.prog.cellsOf 31 = 6 := by kernel_rfl
theorem sz_of {H : Type} {ts : List TypeId} {ds : List (DataW H)} (h : (DataW.weightsEach Try.prog ts ds).all (· ≤ reachBytes) = true) {j : Nat} {t : TypeId} {d : DataW H} (ht : ts[j]? = some t) (hd : ds[j]? = some d) : ∀ q ∈ d.weights Try.prog t, q ≤ reachBytes :=
  fun q hq => by simpa using List.all_eq_true.1 h q (DataW.weights_mem_each ht hd q hq)
theorem w_agg {H : Type} {parts : List (DataW H)} {fs : Array Field} {t : TypeId} {j : Nat} {d : DataW H} {f : Field} (hu : Try.prog.underlying t = some (.struct fs)) (hp : parts[j]? = some d) (hf : fs[j]? = some f) {q : Nat} (hq : q ∈ d.weights Try.prog f.type) : q ∈ (DataW.agg parts).weights Try.prog t := by
  simp only [DataW.weights, hu]
  exact DataW.weights_mem_each (by simp [hf]) hp q hq
theorem w_all {H : Type} {e : TypeId} {d : DataW H} {q : Nat} (hq : q ∈ d.weights Try.prog e) : ∀ {l : List (DataW H)}, d ∈ l → q ∈ DataW.weightsAll Try.prog e l
  | x :: l, h => by
    simp only [DataW.weightsAll, List.mem_append]
    rcases List.mem_cons.1 h with rfl | h
    · exact .inl hq
    · exact .inr (w_all hq h)
theorem w_slice {H : Type} {l spare : List (DataW H)} {t e : TypeId} {d : DataW H} (hu : Try.prog.underlying t = some (.slice e)) (hd : d ∈ l) {q : Nat} (hq : q ∈ d.weights Try.prog e) : q ∈ (DataW.slice l spare).weights Try.prog t := by
  simp only [DataW.weights, hu]
  exact List.mem_cons_of_mem _ (List.mem_append_left _ (w_all hq hd))
set_option maxRecDepth 10000 in
theorem msg_cells {H : Type} {enc : TypeId × Value → H} {w : World} {base : Nat} {spare : Nat → Bool} {held : Bool} {n : Nat} {a : Addr} {cs : List Value} {x : DataW H × List MemPlace}
    (hc : w.cells? base a 6 = some cs) (h : DataW.trod enc Try.prog w base spare held n 31 cs = some x) (hw : ∀ q ∈ x.1.weights Try.prog 31, q ≤ reachBytes) :
    ∃ t : MG, (∀ j u, (EG.cs t)[j]? = some u → w.cell? (a.add j) = some u) ∧ t.Ok := by
  obtain ⟨_, hl, hi⟩ := World.cells?_some hc
  obtain ⟨xs, m, _, hxe, _, hxl, hel⟩ := DataW.trod_struct Try.underlying31 h
  match cs, hl, xs, hxl with
  | [c0, c1, c2, c3, c4, c5], _, [y0, y1, y2, y3, y4, y5], _ =>
    have h0 := hel 0 _ rfl
    have h1 := hel 1 _ rfl
    have h2 := hel 2 _ rfl
    have h3 := hel 3 _ rfl
    have h4 := hel 4 _ rfl
    have h5 := hel 5 _ rfl
    simp [od_c3, od_c9, od_c28, od_c29] at h0 h1 h2 h3 h4 h5
    obtain ⟨p0, e0, _, _⟩ := DataW.trod_int Try.underlying28 h0
    obtain ⟨p1, e1, _, _⟩ := DataW.trod_int Try.underlying3 h1
    obtain ⟨p2, e2, z2, _⟩ := DataW.trod_string Try.underlying9 h2
    obtain ⟨p3, e3, z3, _⟩ := DataW.trod_string Try.underlying9 h3
    obtain ⟨p4, e4, z4, _⟩ := DataW.trod_string Try.underlying9 h4
    obtain ⟨p5, e5, _, _⟩ := DataW.trod_int Try.underlying29 h5
    simp at e0 e1 e2 e3 e4 e5
    subst e0 e1 e2 e3 e4 e5
    have hr : reachBytes ≤ 140737488355328 := by decide
    refine ⟨⟨p0, p1, p2, p3, p4, p5⟩, fun j u hu => ?_, ?_, ?_, ?_⟩
    · match j, hu with
      | 0, hu => simp [EG] at hu; subst hu; simpa using hi 0 (by omega)
      | 1, hu => simp [EG] at hu; subst hu; simpa using hi 1 (by omega)
      | 2, hu => simp [EG] at hu; subst hu; simpa using hi 2 (by omega)
      | 3, hu => simp [EG] at hu; subst hu; simpa using hi 3 (by omega)
      | 4, hu => simp [EG] at hu; subst hu; simpa using hi 4 (by omega)
      | 5, hu => simp [EG] at hu; subst hu; simpa using hi 5 (by omega)
      | j + 6, hu => simp [EG] at hu
    · exact Nat.le_trans (hw p2.size (by rw [hxe]; exact w_agg Try.underlying31 (j := 2) (d := y2.1) rfl rfl (by rw [z2]; simp [DataW.weights]))) hr
    · exact Nat.le_trans (hw p3.size (by rw [hxe]; exact w_agg Try.underlying31 (j := 3) (d := y3.1) rfl rfl (by rw [z3]; simp [DataW.weights]))) hr
    · exact Nat.le_trans (hw p4.size (by rw [hxe]; exact w_agg Try.underlying31 (j := 4) (d := y4.1) rfl rfl (by rw [z4]; simp [DataW.weights]))) hr
theorem RE.all_at {α : Type} (E : RE α) {xs : List α} {j : Nat} {u : Value} (h : (E.all xs)[j]? = some u) : ∃ k i x, xs[k]? = some x ∧ j = k * E.k + i ∧ (E.cs x)[i]? = some u := by
  induction xs generalizing j with
  | nil => simp [RE.all] at h
  | cons x xs ih =>
    rw [RE.all_cons] at h
    by_cases hj : j < E.k
    · rw [List.getElem?_append_left (by rw [E.len]; exact hj)] at h
      exact ⟨0, j, x, rfl, by omega, h⟩
    · rw [List.getElem?_append_right (by rw [E.len]; omega), E.len] at h
      obtain ⟨k, i, y, h1, h2, h3⟩ := ih h
      exact ⟨k + 1, i, y, by simpa using h1, by rw [Nat.succ_mul]; omega, h3⟩
theorem zok : (⟨0, 0, .empty, .empty, .empty, 0⟩ : MG).Ok := by refine ⟨?_, ?_, ?_⟩ <;> decide
theorem msgs_open {H : Type} {enc : TypeId × Value → H} {w : World} {base : Nat} {spare : Nat → Bool} {held : Bool} {a : Option Addr} {n c : Nat} {d : DataW H} {p : List MemPlace} (h : DataW.Trod enc Try.prog w base spare held 22 (.slice a n c) d p) (hw : ∀ q ∈ d.weights Try.prog 22, q ≤ reachBytes) :
    ∃ xs, n ≤ c ∧ c ≤ maxLen ∧ xs.length = n ∧ EG.Rd w a xs ∧ OkA xs := by
  obtain ⟨fuel, hf⟩ := h
  rcases Go.Deep.open_slice Try.underlying22 hf with ⟨hcs, _⟩ | ⟨x, l, c', m, n', D, Pl, hcs, _, hl, hm, hmm, hxe, hx⟩
  · simp [Value.cells] at hcs
    obtain ⟨rfl, rfl, rfl⟩ := hcs
    exact ⟨[], Nat.le_refl _, Nat.zero_le _, rfl, .inl rfl, fun x hx => by cases hx⟩
  · simp [Value.cells] at hcs
    obtain ⟨rfl, rfl, rfl⟩ := hcs
    by_cases h0 : n = 0
    · exact ⟨[], hl, hm, h0.symm, .inl rfl, fun x hx => by cases hx⟩
    · have hall : ∀ i : Nat, ∃ t : MG, (i < n → ∀ j u, (EG.cs t)[j]? = some u → w.cell? ((x.add (i * 6)).add j) = some u) ∧ t.Ok := by
        intro i
        by_cases hi : i < n
        · obtain ⟨cs', hc, ht⟩ := hx i (by rw [hmm]; split <;> omega)
          rw [od_c31] at hc
          obtain ⟨t, h3, h4⟩ := msg_cells hc ht (fun q hq => hw q (by have hd : d = _ := congrArg Prod.fst hxe; rw [hd]; exact w_slice Try.underlying22 (List.mem_map.2 ⟨i, by simpa using hi, rfl⟩) hq))
          exact ⟨t, fun _ => h3, h4⟩
        · exact ⟨⟨0, 0, .empty, .empty, .empty, 0⟩, fun h => absurd h hi, zok⟩
      obtain ⟨f, hf''⟩ := Classical.axiomOfChoice hall
      have hf' := fun i => (hf'' i).1
      obtain ⟨b, off, spot⟩ := x
      have z := hf' 0 (by omega) 0 _ rfl
      have hs : spot = none := by simpa [Addr.add] using World.cell?_spot z
      subst hs
      have hb : b < w.heap.size := by simpa [Addr.add] using World.block_lt_of_cell? w _ z
      refine ⟨(List.range n).map f, hl, hm, by simp, .inr ⟨b, off, rfl, hb, fun j u hj => ?_⟩, fun y hy => ?_⟩
      · obtain ⟨k, i, y, hk, rfl, hu⟩ := RE.all_at EG hj
        rw [List.getElem?_map] at hk
        have hkn : k < n := by
          cases hr : (List.range n)[k]? with
          | none => rw [hr] at hk; cases hk
          | some q => have := (List.getElem?_eq_some_iff.1 hr).1; simpa using this
        rw [List.getElem?_range hkn] at hk
        simp at hk
        subst hk
        have q := hf' k hkn i u hu
        have e0 : ((⟨b, off, none⟩ : Addr).add (k * 6)).add i = ⟨b, off + (k * EG.k + i), none⟩ := by
          have : EG.k = 6 := rfl
          rw [this]
          by_cases y1 : k * 6 = 0 <;> by_cases y2 : i = 0 <;> simp [Addr.add, y1, y2] <;> omega
        rw [e0] at q
        exact q
      · obtain ⟨k, _, rfl⟩ := List.mem_map.1 hy
        exact (hf'' k).2
theorem looks_law (A : Option Addr) (n cap : Nat) (xs : List MG) (r0 r1 s : ByteArray) (w : World) (hnc : n ≤ cap) (hc : cap ≤ maxLen) (hl : xs.length = n) (hA : EG.Rd w A xs) (ho : OkA xs) :
    Calls Try.prog 3 #[.slice A n cap, .agg #[.string r0, .string r1], .string s] w fun r w' => r = .returned (.bool true) ∧ Below w.heap.size w w' :=
  looks_few A (min n 30) cap (xs.take (min n 30)) r0 r1 s n w rfl hnc (by unfold maxLen at hc; omega) (by rw [List.length_take, hl]; omega) (hA.take _) (fun x hx => ho x (List.mem_of_mem_take hx))
end Go.Proofs.Ytdbnkeihnoglcaa
