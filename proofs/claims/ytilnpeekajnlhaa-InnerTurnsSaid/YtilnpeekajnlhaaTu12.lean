/- Texts of the proof, one behind the other. -/
import Derived.Test.YtilnpeekajnlhaaTu11
import Derived.Test.YtilnpeekajnlhaaTu05
import Derived.Test.YtilnpeekajnlhaaTu02
import Derived.Test.YtilnpeekajnlhaaTu08
import Derived.Deep.RegionHeld3
import Derived.Test.YtilnpeekajnlhaaTu10
import Derived.Test.YtilnpeekajnlhaaTu09
import Derived.ArgAppend
set_option linter.unusedVariables false
set_option linter.unusedSimpArgs false
namespace Go.Proofs.Ytilnpeekajnlhaa
open Go.RowKit Go.Maps
/-- The messages for a kid. -/
def kidL (ps : List ByteArray) (f t : ByteArray) (i : Int) (ms : List MG) : List MG := if Pv.spanB ps f t i = true then forL (Pv.spanF ps f t i).1 (Pv.spanF ps f t i).2 ms else []
set_option maxHeartbeats 4000000 in
theorem ifor_any (kd : Int) (P J M B : Option Addr) (n pc k kc m mc b bc : Nat) (ps : List ByteArray) (ms : List MG) (f t : ByteArray) (i : Int) (w : World) (hl : ps.length = n) (hn : n ≤ 100) (hP : Pv.RdS w P ps) (hk : k = n + 1) (hm : ms.length = m) (hm1 : m ≤ 1000) (hM : EG.Rd w M ms) (ho : OkA ms) :
    Calls Try.prog 18 #[NV kd (.slice P n pc) (.slice J k kc) (.slice M m mc) (.slice B b bc), .agg #[.string f, .string t], .int .i64 i] w fun r w' => (∃ A' c', r = .returned (.slice A' (kidL ps f t i ms).length c') ∧ EG.Row w' w.heap.size A' (kidL ps f t i ms) c') ∧ Below w.heap.size w w' := by
  have SP := Lib.hid (fun W (h : Below w.heap.size w W) => part_all kd P J M B n pc k kc m mc b bc ps f t i W hl hn (Rd.later hP h) hk)
  have FA := Lib.hid (fun x y W (h : Below w.heap.size w W) => for_any x y M m mc ms W hm hm1 (hM.later h) ho)
  have y1 := two_new w (NO kd (.slice P n pc) (.slice J k kc) (.slice M m mc) (.slice B b bc)) (rgc f t)
  have H0 := Lib.hid (bel_alloc (alb w (NO kd (.slice P n pc) (.slice J k kc) (.slice M m mc) (.slice B b bc))) (rgc f t))
  have Z := Lib.hid y1.1
  have Y := Lib.hid y1.2
  unfold kidL
  unfold Pv.SpanPost Pv.spv at SP
  obtain ⟨x, hx⟩ : ∃ x, x = (Pv.spanF ps f t i).1 := ⟨_, rfl⟩
  obtain ⟨y, hy⟩ : ∃ y, y = (Pv.spanF ps f t i).2 := ⟨_, rfl⟩
  rw [← hx, ← hy] at SP ⊢
  obtain ⟨c0, c1, c2, c3, c4⟩ := cells5 Z.out
  obtain ⟨d0, d1, -, -⟩ := has_two Y.out
  cases hok : Pv.spanB ps f t i
  · rw [hok] at SP
    clear hx hy hok hl hP hm hM ho hk y1
    go_enter Try.func18, Try.ntmps18
    go_wp2_with (first
      | (go_at_call 37; ((with_reducible refine (SP.out _ H0.out).mono ?_); rintro e w1 ⟨rfl, b1⟩; have B1 := Lib.hid (bel_trans H0.out b1); clear b1))
      | fail)
    go_ret
    exact ⟨⟨none, 0, rfl, RE.Row.nil⟩, bel_alloc B1.out _⟩
  · rw [hok] at SP
    clear hx hy hok hl hP hm hM ho hk y1
    go_enter Try.func18, Try.ntmps18
    go_wp2_with (first
      | (go_at_call 37; ((with_reducible refine (SP.out _ H0.out).mono ?_); rintro e w1 ⟨rfl, b1⟩; have B1 := Lib.hid (bel_alloc (bel_trans H0.out b1) (rgc x y)); have Z1 := Lib.hid (keep_bel (bel_trans b1 (alb w1 (rgc x y))) Z.out); clear b1 c0 c1 c2 c3 c4 d0 d1; obtain ⟨c0, c1, c2, c3, c4⟩ := cells5 Z1.out; obtain ⟨d0, d1, -, -⟩ := has_two (heap_alloc_new w1 (rgc x y))))
      | (go_at_call 48; ((with_reducible refine (FA.out x y _ B1.out).mono ?_); rintro e w2 ⟨⟨A', c', rfl, r2⟩, b2⟩; have R2 := Lib.hid r2; have B2 := Lib.hid (bel_trans B1.out b2); clear b2 r2))
      | fail)
    go_ret
    exact ⟨⟨A', c', rfl, R2.out.base B1.out.size⟩, B2.out⟩
end Go.Proofs.Ytilnpeekajnlhaa
namespace Go.Proofs.Ytilnpeekajnlhaa
open Go.RowKit Go.Maps
end Go.Proofs.Ytilnpeekajnlhaa
namespace Go.Proofs.Ytilnpeekajnlhaa
open Go.RowKit Go.Maps
end Go.Proofs.Ytilnpeekajnlhaa
namespace Go.Proofs.Ytilnpeekajnlhaa
open Go.RowKit Go.Maps
end Go.Proofs.Ytilnpeekajnlhaa
namespace Go.Proofs.Ytilnpeekajnlhaa
end Go.Proofs.Ytilnpeekajnlhaa
namespace Go.Proofs.Ytilnpeekajnlhaa
open Go.RowKit Go.Maps
abbrev SzOk (a : ByteArray) : Prop := a.size ≤ 140737488355328
end Go.Proofs.Ytilnpeekajnlhaa
namespace Go.Proofs.Ytilnpeekajnlhaa
open Go.ChangeShapes Go.WideShapes Go.ChangeAt Go.RowKit Go.Joins
theorem od_n28 : Try.prog.cellsOf 28 = 5 := by kernel_rfl
theorem od_n22 : Try.prog.cellsOf 22 = 1 := by kernel_rfl
theorem od_n23 : Try.prog.cellsOf 23 = 1 := by kernel_rfl
theorem od_n24 : Try.prog.cellsOf 24 = 1 := by kernel_rfl
theorem od_n25 : Try.prog.cellsOf 25 = 1 := by kernel_rfl
theorem od_n26 : Try.prog.cellsOf 26 = 1 := by kernel_rfl
theorem str_cell {H : Type} {enc : TypeId × Value → H} {w : World} {base : Nat} {spare : Nat → Bool} {held : Bool} {n : Nat} {a : Addr} {cs : List Value} {x : DataW H × List MemPlace}
    (hc : w.cells? base a 1 = some cs) (h : DataW.trod enc Try.prog w base spare held n 9 cs = some x) (hw : ∀ q ∈ x.1.weights Try.prog 9, q ≤ reachBytes) :
    ∃ t : ByteArray, (∀ j u, (ES.cs t)[j]? = some u → w.cell? (a.add j) = some u) ∧ SzOk t := by
  obtain ⟨_, hl, hi⟩ := World.cells?_some hc
  match cs, hl with
  | [c0], _ =>
    obtain ⟨p2, e2, z2, _⟩ := DataW.trod_string Try.underlying9 h
    simp at e2
    subst e2
    have hr : reachBytes ≤ 140737488355328 := by decide
    refine ⟨p2, fun j u hu => ?_, ?_⟩
    · match j, hu with
      | 0, hu => simp [ES] at hu; subst hu; simpa using hi 0 (by omega)
      | j + 1, hu => simp [ES] at hu
    · exact Nat.le_trans (hw p2.size (by rw [z2]; simp [DataW.weights])) hr
theorem strs_open {H : Type} {enc : TypeId × Value → H} {w : World} {base : Nat} {spare : Nat → Bool} {held : Bool} {a : Option Addr} {n c : Nat} {d : DataW H} {p : List MemPlace} (h : DataW.Trod enc Try.prog w base spare held 23 (.slice a n c) d p) (hw : ∀ q ∈ d.weights Try.prog 23, q ≤ reachBytes) :
    ∃ xs, n ≤ c ∧ c ≤ maxLen ∧ xs.length = n ∧ ES.Rd w a xs ∧ (∀ x ∈ xs, SzOk x) := by
  obtain ⟨fuel, hf⟩ := h
  rcases Go.Deep.open_slice Try.underlying23 hf with ⟨hcs, _⟩ | ⟨x, l, c', m, n', D, Pl, hcs, _, hl, hm, hmm, hxe, hx⟩
  · simp [Value.cells] at hcs
    obtain ⟨rfl, rfl, rfl⟩ := hcs
    exact ⟨[], Nat.le_refl _, Nat.zero_le _, rfl, .inl rfl, fun x hx => by cases hx⟩
  · simp [Value.cells] at hcs
    obtain ⟨rfl, rfl, rfl⟩ := hcs
    by_cases h0 : n = 0
    · exact ⟨[], hl, hm, h0.symm, .inl rfl, fun x hx => by cases hx⟩
    · have hall : ∀ i : Nat, ∃ t : ByteArray, (i < n → ∀ j u, (ES.cs t)[j]? = some u → w.cell? ((x.add (i * 1)).add j) = some u) ∧ SzOk t := by
        intro i
        by_cases hi : i < n
        · obtain ⟨cs', hc, ht⟩ := hx i (by rw [hmm]; split <;> omega)
          rw [od_c9] at hc
          obtain ⟨t, h3, h4⟩ := str_cell hc ht (fun q hq => hw q (by have hd : d = _ := congrArg Prod.fst hxe; rw [hd]; exact w_slice Try.underlying23 (List.mem_map.2 ⟨i, by simpa using hi, rfl⟩) hq))
          exact ⟨t, fun _ => h3, h4⟩
        · exact ⟨emptyS, fun h => absurd h hi, by decide⟩
      obtain ⟨f, hf''⟩ := Classical.axiomOfChoice hall
      have hf' := fun i => (hf'' i).1
      obtain ⟨b, off, spot⟩ := x
      have z := hf' 0 (by omega) 0 _ rfl
      have hs : spot = none := by simpa [Addr.add] using World.cell?_spot z
      subst hs
      have hb : b < w.heap.size := by simpa [Addr.add] using World.block_lt_of_cell? w _ z
      refine ⟨(List.range n).map f, hl, hm, by simp, .inr ⟨b, off, rfl, hb, fun j u hj => ?_⟩, fun y hy => ?_⟩
      · obtain ⟨k, i, y, hk, rfl, hu⟩ := RE.all_at ES hj
        rw [List.getElem?_map] at hk
        have hkn : k < n := by
          cases hr : (List.range n)[k]? with
          | none => rw [hr] at hk; cases hk
          | some q => have := (List.getElem?_eq_some_iff.1 hr).1; simpa using this
        rw [List.getElem?_range hkn] at hk
        simp at hk
        subst hk
        have q := hf' k hkn i u hu
        have e0 : ((⟨b, off, none⟩ : Addr).add (k * 1)).add i = ⟨b, off + (k * ES.k + i), none⟩ := by
          have : ES.k = 1 := rfl
          rw [this]
          by_cases y1 : k = 0 <;> by_cases y2 : i = 0 <;> simp [Addr.add, y1, y2] <;> (try omega) <;> (try (split <;> omega)) <;> (try (split <;> simp <;> omega))
        rw [e0] at q
        exact q
      · obtain ⟨k, _, rfl⟩ := List.mem_map.1 hy
        exact (hf'' k).2

theorem slice_cell {H : Type} {enc : TypeId × Value → H} {w : World} {base : Nat} {spare : Nat → Bool} {held : Bool} {fuel : Nat} {t e : TypeId} {c : Value} {y : DataW H × List MemPlace} (hu : Try.prog.underlying t = some (.slice e))
    (h : DataW.trod enc Try.prog w base spare held fuel t [c] = some y) : ∃ a n k, c = .slice a n k ∧ DataW.Trod enc Try.prog w base spare held t (.slice a n k) y.1 y.2 := by
  have hv : ∀ a n k, c = .slice a n k → DataW.Trod enc Try.prog w base spare held t (.slice a n k) y.1 y.2 := fun a n k e => ⟨fuel, by subst e; exact h⟩
  rcases Go.Deep.open_slice hu h with ⟨hcs, _⟩ | ⟨x, l, c', m, n', D, Pl, hcs, _⟩
  · simp at hcs; exact ⟨_, _, _, hcs, hv _ _ _ hcs⟩
  · simp at hcs; exact ⟨_, _, _, hcs, hv _ _ _ hcs⟩
theorem nd_ints24 {H : Type} {enc : TypeId × Value → H} {w : World} {base : Nat} {spare : Nat → Bool} {held : Bool} {a : Option Addr} {n c : Nat} {d : DataW H} {p : List MemPlace} (h : DataW.Trod enc Try.prog w base spare held 24 (.slice a n c) d p) :
    ∃ l : List Int, l.length = n ∧ Rd w w.heap.size a (l.map (Value.int .i64)) ∧ n ≤ c ∧ c ≤ maxLen ∧ (a = none → n = 0) ∧ (∀ s ∈ l, (Lit.int .i64 s).wf = true) := by
  obtain ⟨fuel, hf⟩ := h
  rcases open_ints Try.underlying24 Try.underlying3 (by kernel_rfl) hf with ⟨hcs, _⟩ | ⟨x, len, cap, ss, hcs, _, hl, hm, hlen, _, hcell, hsz⟩
  · simp [Value.cells] at hcs
    obtain ⟨rfl, rfl, rfl⟩ := hcs
    exact ⟨[], rfl, .inl rfl, Nat.le_refl _, by simp [maxLen], fun _ => rfl, by simp⟩
  · simp [Value.cells] at hcs
    obtain ⟨rfl, rfl, rfl⟩ := hcs
    have hle : n ≤ ss.length := by rw [hlen]; split <;> omega
    refine ⟨ss.take n, by simp; omega, ?_, hl, hm, fun h => (by cases h), fun s hs => hsz s (List.mem_of_mem_take hs)⟩
    by_cases h0 : n = 0
    · subst h0; exact .inl (by simp)
    · obtain ⟨b, off, spot⟩ := x
      have c0 := hcell 0 (by omega)
      have hs : spot = none := by simpa [Addr.add] using World.cell?_spot c0
      subst hs
      have hb := World.block_lt_of_cell? w _ c0
      refine .inr ⟨b, off, rfl, by simpa [Addr.add] using hb, fun j u hj => ?_⟩
      rw [List.getElem?_map, List.getElem?_take] at hj
      split at hj
      · rename_i hjn
        have cj := hcell j (by omega)
        rw [List.getD_eq_getElem?_getD] at cj
        cases hg : ss[j]? with
        | none => rw [hg] at hj; simp at hj
        | some s =>
          rw [hg] at hj cj
          simp at hj cj
          subst hj
          by_cases z : j = 0
          · subst z; simpa [Addr.add] using cj
          · simpa [Addr.add, z] using cj
      · simp at hj
theorem ei_of {w : World} {A : Option Addr} {l : List Int} (h : Rd w w.heap.size A (l.map (Value.int .i64))) : EI.Rd w A l := by
  have e : ∀ q : List Int, EI.all q = q.map (Value.int .i64) := by
    intro q
    induction q with
    | nil => rfl
    | cons x xs ih => rw [RE.all_cons, ih]; rfl
  unfold RE.Rd
  rw [e]; exact h

/-- What is known of a node that came in. -/
structure NodeIn (W : World) (v : Value) (kd : Int) (P J M B : Option Addr) (n pc k kc m mc b bc : Nat) (ps : List ByteArray) (ks : List Int) (ms : List MG) : Prop where
  hv : v = .agg #[.int .u8 kd, .slice P n pc, .slice J k kc, .slice M m mc, .slice B b bc]
  hl : ps.length = n
  hP : ES.Rd W P ps
  hps : ∀ x ∈ ps, SzOk x
  hkl : ks.length = k
  hJ : EI.Rd W J ks
  hx : ∀ x ∈ ks, (Lit.int .i64 x).wf = true
  hm : ms.length = m
  hM : EG.Rd W M ms
  ho : OkA ms
  np : n ≤ pc ∧ pc ≤ maxLen
  nk : k ≤ kc ∧ kc ≤ maxLen
  nm : m ≤ mc ∧ mc ≤ maxLen
set_option maxRecDepth 100000 in
theorem node_open {H : Type} {enc : TypeId × Value → H} {W : World} {base : Nat} {spare : Nat → Bool} {held : Bool} {r : Reach} {b0 : Nat} {v : Value} {d : DataW H} {p : List MemPlace}
    (hv : Value.okWide Try.prog W r b0 28 v) (h : DataW.Trod enc Try.prog W base spare held 28 v d p) (hw : ∀ q ∈ d.weights Try.prog 28, q ≤ reachBytes) :
    ∃ kd P J M B n pc k kc m mc b bc ps ks ms, NodeIn W v kd P J M B n pc k kc m mc b bc ps ks ms := by
  obtain ⟨cs, rfl, hsz⟩ := okWide_struct Try.underlying28 hv
  rw [od_n28] at hsz
  obtain ⟨fuel, hf⟩ := h
  obtain ⟨xs, m, _, hxe, _, hxl, hel⟩ := DataW.trod_struct Try.underlying28 hf
  obtain ⟨ls⟩ := cs
  match ls, hsz, xs, hxl with
  | [c0, c1, c2, c3, c4], _, [y0, y1, y2, y3, y4], _ =>
    have h0 := hel 0 _ rfl
    have h1 := hel 1 _ rfl
    have h2 := hel 2 _ rfl
    have h3 := hel 3 _ rfl
    have h4 := hel 4 _ rfl
    simp [od_n22, od_n23, od_n24, od_n25, od_n26, Value.cells] at h0 h1 h2 h3 h4
    obtain ⟨p0, e0, _, _⟩ := DataW.trod_int Try.underlying22 h0
    simp at e0
    obtain ⟨P, n, pc, e1, t1⟩ := slice_cell Try.underlying23 h1
    obtain ⟨J, k, kc, e2, t2⟩ := slice_cell Try.underlying24 h2
    obtain ⟨M, m, mc, e3, t3⟩ := slice_cell Try.underlying25 h3
    obtain ⟨B, b, bc, e4, t4⟩ := slice_cell Try.underlying26 h4
    subst e0 e1 e2 e3 e4
    have hxe' : d = _ := congrArg Prod.fst hxe
    obtain ⟨ps, i1, i2, i3, i4, i5⟩ := strs_open t1 (fun q hq => hw q (by rw [hxe']; exact w_agg Try.underlying28 (j := 1) (d := y1.1) rfl rfl hq))
    obtain ⟨ks, k1, k2, k3, k4, _, k6⟩ := nd_ints24 t2
    obtain ⟨ms, m1, m2, m3, m4, m5⟩ := msgs_open t3 (fun q hq => hw q (by rw [hxe']; exact w_agg Try.underlying28 (j := 3) (d := y3.1) rfl rfl hq))
    exact ⟨p0, P, J, M, B, n, pc, k, kc, m, mc, b, bc, ps, ks, ms, ⟨rfl, i3, i4, i5, k1, ei_of k2, k6, m3, m4, m5, ⟨i1, i2⟩, ⟨k3, k4⟩, ⟨m1, m2⟩⟩⟩
end Go.Proofs.Ytilnpeekajnlhaa
namespace Go.Proofs.Ytilnpeekajnlhaa.Pv
open Go.RowKit

end Go.Proofs.Ytilnpeekajnlhaa.Pv
namespace Go.Proofs.Ytilnpeekajnlhaa.Pv
open Go.RowKit

/-- One more pivot. -/
theorem rd_take {w : World} {A : Option Addr} {l : List ByteArray} (h : RdS w A l) (k : Nat) : RdS w A (l.take k) := by
  rcases h with h | ⟨b, off, e, hlt, hc⟩
  · have : l = [] := List.map_eq_nil_iff.1 h
    subst this
    exact .inl (by simp)
  · refine .inr ⟨b, off, e, hlt, fun j u hj => hc j u ?_⟩
    rw [List.map_take, List.getElem?_take] at hj
    split at hj
    · exact hj
    · cases hj
def ins (p : List ByteArray) (i : Nat) (s : ByteArray) : List ByteArray := p.take i ++ s :: p.drop i
theorem ins_length {p : List ByteArray} {i : Nat} (s : ByteArray) (hi : i ≤ p.length) : (ins p i s).length = p.length + 1 := by simp [ins]; omega
theorem one_strs (l : List ByteArray) : ∀ u ∈ l.map Value.string, u.oneCell' = true := by intro u hu; obtain ⟨x, _, rfl⟩ := List.mem_map.1 hu; rfl
/-- Texts are appended to an owned row. -/
theorem putS_any {w : World} {base n : Nat} {v : Value} {xs : List Value} (h : w.ownsRow base 9 1 v n xs) (hn : n ≤ 1000000) (hb : base ≤ w.heap.size) (A : Option Addr) (m c : Nat) (l : List ByteArray) (hl : l.length = m) (hm : m ≤ 1000000) (hr : RdS w A l) (ty : TypeId) :
    ∃ v' w', (Builtin.append_ #[23, 23] ty #[v, .slice A m c]).run Try.prog w = .ok v' w' ∧ w'.ownsRow base 9 1 v' (n + m) (xs ++ l.map Value.string) ∧ w.grownBy w' v.ownBlock := by
  obtain ⟨i0, hI0, hI1, hI2, hI3⟩ := info_parts info9
  cases A with
  | none =>
    have h0 : l = [] := by
      rcases hr with h | ⟨b, off, e, _⟩
      · exact List.map_eq_nil_iff.1 h
      · cases e
    subst h0
    subst hl
    refine ⟨v, w, ?_, by simpa using h, ⟨rfl, rfl, rfl, Nat.le_refl _, fun _ _ _ => rfl⟩⟩
    rcases h.2 with ⟨rfl, h0⟩ | ⟨g, cap, cur, rfl, _, _, hcap, _⟩
    · simp [Builtin.append_, run_underlying Try.underlying23, sizeOf, typeInfo, hI0, Builtin.lenOf, Builtin.firstCells]
    · simp [Builtin.append_, run_underlying Try.underlying23, sizeOf, typeInfo, hI0, Builtin.lenOf, Builtin.firstCells, hcap, storeCells]
  | some a =>
    have hnews : ∀ j u, (l.map Value.string)[j]? = some u → w.cell? (a.add j) = some u := by
      rcases hr with h | ⟨b, off, e, hlt, hc⟩
      · intro j u hu; rw [h] at hu; simp at hu
      · cases e; exact rds_news (.inr ⟨b, off, rfl, hlt, hc⟩)
    obtain ⟨v', w', hr', h2, h3, _, h5⟩ := run_append_own_at (P := Try.prog) w base 23 ty 9 i0 (.string ⟨#[]⟩) 1 16 Try.underlying23 hI0 hI1 hI2 hI3 rfl (by decide) v n xs h a m c (l.map Value.string) (by rw [List.length_map, hl, Nat.mul_one]) hnews (one_strs _) (by unfold maxLen; omega) (by omega) hb
    exact ⟨v', w', hr', h2, h3⟩
theorem step_putS (w : World) {ops : Array Oper} {o : Oper} {a : Act} {K : Act → World → Prop} {Q : Exit → Act → World → Prop} {E : Prop} (hg : o.guard = none) (s x : Operand)
    (hop : o.op = Op.call { callee := Callee.builtin Builtin.append, args := #[s, x], argTypes := #[23, 23] }) {base n : Nat} {v : Value} {xs : List Value} (A : Option Addr) (m c : Nat) (l : List ByteArray) (hs : a.eval s = v) (hx : a.eval x = .slice A m c)
    (h : w.ownsRow base 9 1 v n xs) (hn : n ≤ 1000000) (hb : base ≤ w.heap.size) (hl : l.length = m) (hm : m ≤ 1000000) (hr : RdS w A l)
    (hK : ∀ v' w', w'.ownsRow base 9 1 v' (n + m) (xs ++ l.map Value.string) → w.grownBy w' v.ownBlock → K (a.put o.dst v') w') :
    if Region.wanted o (yielded ops a.tmps) = true then Oper.wp Try.prog o a w K Q else E := by
  have hw : Region.wanted o (yielded ops a.tmps) = true := by simp [Region.wanted, hg]
  rw [if_pos hw]
  obtain ⟨v', w', hrun, r1, r2⟩ := putS_any h hn hb A m c l hl hm hr o.type
  unfold Oper.wp
  simp [execOp, hop, resolve, invoke, builtin, hs, hx, hrun, Result.andThen]
  exact hK v' w' r1 r2
/-- A text is appended to a full row that is not owned: the row is new. -/
theorem fullS_any {w : World} (A : Option Addr) (i : Nat) (l : List ByteArray) (hl : l.length = i) (hi : i ≤ 1000000) (hA : A = none → i = 0) (hr : RdS w A l) (a : Addr) (s : ByteArray) (hs : w.cell? (a.add 0) = some (.string s)) (ty : TypeId) :
    ∃ v' w', (Builtin.append_ #[23, 23] ty #[.slice A i i, .slice (some a) 1 1]).run Try.prog w = .ok v' w' ∧ w'.ownsRow w.heap.size 9 1 v' (i + 1) (l.map Value.string ++ [.string s]) ∧ w.grownBy w' none := by
  obtain ⟨i0, hI0, hI1, hI2, hI3⟩ := info_parts info9
  have hnews : ∀ j u, [Value.string s][j]? = some u → w.cell? (a.add j) = some u := by
    intro j u hu
    match j, hu with
    | 0, hu => simp at hu; subst hu; exact hs
  cases A with
  | none =>
    obtain rfl : i = 0 := hA rfl
    obtain rfl : l = [] := List.eq_nil_of_length_eq_zero hl
    obtain ⟨v', w', hrun, r1, r2, _⟩ := run_append_own (P := Try.prog) w w.heap.size 23 ty 9 i0 (.string ⟨#[]⟩) 1 16 Try.underlying23 hI0 hI1 hI2 hI3 rfl (by decide) (.slice none 0 0) 0 [] (World.ownsRow_nil w _ 9 1) a 1 1 [.string s] rfl hnews (by simp [Value.oneCell']) (by decide) (by decide) (Nat.le_refl _)
    exact ⟨v', w', hrun, r1, r2⟩
  | some b =>
    have holds : ∀ j u, (l.map Value.string)[j]? = some u → w.cell? (b.add j) = some u := by
      rcases hr with h | ⟨b', off, e, hlt, hc⟩
      · intro j u hu; rw [h] at hu; simp at hu
      · cases e; exact rds_news (.inr ⟨b', off, rfl, hlt, hc⟩)
    obtain ⟨v', w', hrun, r1, r2⟩ := run_append_arg_grows (P := Try.prog) w 23 ty 9 i0 (.string ⟨#[]⟩) 1 16 Try.underlying23 hI0 hI1 hI2 hI3 rfl (by decide) b i i (l.map Value.string) (by simp [hl]) holds a 1 1 [.string s] rfl hnews (by omega) (by unfold maxLen; omega) (by omega)
    exact ⟨v', w', hrun, r1, r2⟩
theorem step_fullS (w : World) {ops : Array Oper} {o : Oper} {a : Act} {K : Act → World → Prop} {Q : Exit → Act → World → Prop} {E : Prop} (hg : o.guard = none) (sl x : Operand)
    (hop : o.op = Op.call { callee := Callee.builtin Builtin.append, args := #[sl, x], argTypes := #[23, 23] }) (A : Option Addr) (i : Nat) (l : List ByteArray) (ad : Addr) (s : ByteArray) (hs : a.eval sl = .slice A i i) (hx : a.eval x = .slice (some ad) 1 1)
    (hl : l.length = i) (hi : i ≤ 1000000) (hA : A = none → i = 0) (hr : RdS w A l) (hc : w.cell? (ad.add 0) = some (.string s))
    (hK : ∀ v' w', w'.ownsRow w.heap.size 9 1 v' (i + 1) (l.map Value.string ++ [.string s]) → w.grownBy w' none → K (a.put o.dst v') w') :
    if Region.wanted o (yielded ops a.tmps) = true then Oper.wp Try.prog o a w K Q else E := by
  have hw : Region.wanted o (yielded ops a.tmps) = true := by simp [Region.wanted, hg]
  rw [if_pos hw]
  obtain ⟨v', w', hrun, r1, r2⟩ := fullS_any A i l hl hi hA hr ad s hc o.type
  unfold Oper.wp
  simp [execOp, hop, resolve, invoke, builtin, hs, hx, hrun, Result.andThen]
  exact hK v' w' r1 r2
end Go.Proofs.Ytilnpeekajnlhaa.Pv
namespace Go.Proofs.Ytilnpeekajnlhaa.Pv
open Go.RowKit Go.Maps

theorem own_cap {w : World} {base n c size : Nat} {e : TypeId} {A : Option Addr} {xs : List Value} (h : w.ownsRow base e size (.slice A n c) n xs) (hn : 0 < n) : n ≤ c ∧ c ≤ maxLen := by
  rcases h.2 with ⟨hv, h0⟩ | ⟨g, cap, cur, hv, _, _, h1, h2, _⟩
  · omega
  · cases hv; exact ⟨h1, h2⟩
theorem put_any {w : World} {base n : Nat} {v : Value} {xs : List Value} (h : w.ownsRow base 9 1 v n xs) (hn : n ≤ 1000000) (hb : base ≤ w.heap.size) (A : Option Addr) (m c : Nat) (l : List ByteArray) (hl : l.length = m) (hm : m ≤ 1000000) (hr : RdS w A l) (ty : TypeId) :
    ∃ v' w', (Builtin.append_ #[23, 23] ty #[v, .slice A m c]).run Try.prog w = .ok v' w' ∧ w'.ownsRow base 9 1 v' (n + m) (xs ++ l.map Value.string) ∧ w.grownBy w' v.ownBlock ∧ (v'.ownBlock = v.ownBlock ∨ v'.ownBlock = some w.heap.size) := by
  obtain ⟨i0, hI0, hI1, hI2, hI3⟩ := info_parts info9
  cases A with
  | none =>
    have h0 : l = [] := by
      rcases hr with h | ⟨b, off, e, _⟩
      · exact List.map_eq_nil_iff.1 h
      · cases e
    subst h0
    subst hl
    refine ⟨v, w, ?_, by simpa using h, ⟨rfl, rfl, rfl, Nat.le_refl _, fun _ _ _ => rfl⟩, .inl rfl⟩
    rcases h.2 with ⟨rfl, h0⟩ | ⟨g, cap, cur, rfl, _, _, hcap, _⟩
    · simp [Builtin.append_, run_underlying Try.underlying23, sizeOf, typeInfo, hI0, Builtin.lenOf, Builtin.firstCells]
    · simp [Builtin.append_, run_underlying Try.underlying23, sizeOf, typeInfo, hI0, Builtin.lenOf, Builtin.firstCells, hcap, storeCells]
  | some a =>
    have hnews : ∀ j u, (l.map Value.string)[j]? = some u → w.cell? (a.add j) = some u := by
      rcases hr with h | ⟨b, off, e, hlt, hc⟩
      · intro j u hu; rw [h] at hu; simp at hu
      · cases e; exact rds_news (.inr ⟨b, off, rfl, hlt, hc⟩)
    obtain ⟨v', w', hr', h2, h3, _, h5⟩ := run_append_own_at (P := Try.prog) w base 23 ty 9 i0 (.string ⟨#[]⟩) 1 16 Try.underlying23 hI0 hI1 hI2 hI3 rfl (by decide) v n xs h a m c (l.map Value.string) (by rw [List.length_map, hl, Nat.mul_one]) hnews (one_strs _) (by unfold maxLen; omega) (by omega) hb
    exact ⟨v', w', hr', h2, h3, h5⟩
/-- A row of texts in memory of its own, or an empty one that has no room. -/
def Row (w : World) (base : Nat) (A : Option Addr) (l : List ByteArray) (c : Nat) : Prop :=
  (l = [] ∧ c = 0) ∨ (0 < c ∧ w.ownsRow base 9 1 (.slice A l.length c) l.length (l.map Value.string))
/-- The block that it may write. -/
def fpr (A : Option Addr) (c : Nat) : Option Nat := if c = 0 then none else A.map (·.block)
theorem Row.rd {w : World} {base : Nat} {A : Option Addr} {l : List ByteArray} {c : Nat} (h : Row w base A l c) : RdS w A l := by
  rcases h with ⟨h, _⟩ | ⟨_, h⟩
  · subst h; exact .inl rfl
  · exact Rd.of_own h (by decide)
theorem Row.cap {w : World} {base : Nat} {A : Option Addr} {l : List ByteArray} {c : Nat} (h : Row w base A l c) : l.length ≤ c ∧ c ≤ maxLen := by
  rcases h with ⟨h, h2⟩ | ⟨h0, h⟩
  · subst h h2; exact ⟨Nat.le_refl _, Nat.zero_le _⟩
  · rcases h.2 with ⟨hv, hn⟩ | ⟨g, cap, cur, hv, _, _, h1, h2, _⟩
    · injection hv with e1 e2 e3; omega
    · cases hv; exact ⟨h1, h2⟩
theorem Row.kept {w w' : World} {base : Nat} {A : Option Addr} {l : List ByteArray} {c : Nat} {row : Option Nat} (h : Row w base A l c) (hg : w.grownBy w' row) (hne : fpr A c = none ∨ fpr A c ≠ row) : Row w' base A l c := by
  rcases h with h | ⟨h0, h⟩
  · exact .inl h
  · refine .inr ⟨h0, h.kept hg ?_⟩
    have hc : ¬ c = 0 := by omega
    cases A with
    | none => left; rfl
    | some a => right; rcases hne with hne | hne <;> simp [fpr, hc] at hne; simpa [Value.ownBlock] using hne
theorem Row.fp_lt {w : World} {base : Nat} {A : Option Addr} {l : List ByteArray} {c g : Nat} (h : Row w base A l c) (hf : fpr A c = some g) : base ≤ g ∧ g < w.heap.size := by
  rcases h with ⟨_, h⟩ | ⟨h0, h⟩
  · subst h; simp [fpr] at hf
  · have hc : ¬ c = 0 := by omega
    cases A with
    | none => simp [fpr, hc] at hf
    | some a => simp [fpr, hc] at hf; exact h.lt g (by rw [← hf]; rfl)
theorem Row.base {w : World} {base b2 : Nat} {A : Option Addr} {l : List ByteArray} {c : Nat} (h : Row w base A l c) (hb : b2 ≤ base) : Row w b2 A l c := by
  rcases h with h | ⟨h0, h⟩
  · exact .inl h
  · refine .inr ⟨h0, ?_⟩
    rcases h with ⟨h1, h2 | ⟨g, cap, cur, e1, e2, e3⟩⟩
    · exact ⟨h1, .inl h2⟩
    · exact ⟨h1, .inr ⟨g, cap, cur, e1, Nat.le_trans hb e2, e3⟩⟩

/-- A row is put behind a row. -/
theorem put_row {w : World} {base : Nat} {A0 : Option Addr} {c0 : Nat} {l0 : List ByteArray} (h : Row w base A0 l0 c0) (hn : l0.length ≤ 1000000) (hb : base ≤ w.heap.size) (A : Option Addr) (c : Nat) (l : List ByteArray) (hm : l.length ≤ 1000000) (hr : RdS w A l) (ty : TypeId) :
    ∃ A' c' w', (Builtin.append_ #[23, 23] ty #[.slice A0 l0.length c0, .slice A l.length c]).run Try.prog w = .ok (.slice A' (l0.length + l.length) c') w' ∧ Row w' base A' (l0 ++ l) c' ∧ w.grownBy w' (fpr A0 c0) ∧ (fpr A' c' = none ∨ fpr A' c' = fpr A0 c0 ∨ fpr A' c' = some w.heap.size) := by
  obtain ⟨i0, hI0, hI1, hI2, hI3⟩ := info_parts info9
  rcases h with ⟨rfl, rfl⟩ | ⟨h0, h⟩
  · by_cases hl : l = []
    · subst hl
      refine ⟨A0, 0, w, ?_, .inl ⟨rfl, rfl⟩, ⟨rfl, rfl, rfl, Nat.le_refl _, fun _ _ _ => rfl⟩, .inl (by simp [fpr])⟩
      exact put_nothing A0 A 0 0 c (Nat.le_refl _) ty w
    · have hlp : 0 < l.length := List.length_pos_iff.2 hl
      rcases hr with hr | ⟨b, off, rfl, hlt, hc⟩
      · exact absurd (List.map_eq_nil_iff.1 hr) hl
      · have hnews := rds_news (.inr ⟨b, off, rfl, hlt, hc⟩ : RdS w (some ⟨b, off, none⟩) l)
        have hcap := grownCap_le_maxLen w l.length 0 9 (by unfold maxLen; omega)
        have hge := grownCap_ge w l.length 0 9
        have hrun : (Builtin.append_ #[23, 23] ty #[.slice A0 0 0, .slice (some ⟨b, off, none⟩) l.length c]).run Try.prog w =
            .ok (.slice (some ⟨w.heap.size, 0, none⟩) l.length (grownCap w l.length 0 9)) (w.drew.alloc (.cells ((l.map Value.string).toArray ++ Builtin.zeroCells (Value.string ⟨#[]⟩).cells (grownCap w l.length 0 9 - l.length)) 9)) := by
          cases A0 with
          | none => exact run_append_nil (P := Try.prog) w 23 ty 9 i0 (.string ⟨#[]⟩) Try.underlying23 hI0 hI1 ⟨b, off, none⟩ l.length c (l.map Value.string) (by rw [List.length_map, hI2, Nat.mul_one]) hnews hlp (by omega) (by rw [hI3]; omega)
          | some a =>
            have h := run_append_grow (P := Try.prog) w 23 ty 9 i0 (.string ⟨#[]⟩) Try.underlying23 hI0 hI1 a 0 0 [] (by simp) (fun j v hv => by simp at hv) ⟨b, off, none⟩ l.length c (l.map Value.string) (by rw [List.length_map, hI2, Nat.mul_one]) hnews (by omega) (by omega) (by rw [Nat.zero_add, nextslicecap_zero hlp, hI3]; omega)
            simpa using h
        refine ⟨some ⟨w.heap.size, 0, none⟩, grownCap w l.length 0 9, _, by simpa using hrun, .inr ⟨by omega, ?_⟩, ?_, ?_⟩
        · refine ⟨by simp, .inr ⟨w.heap.size, _, _, rfl, hb, heap_alloc_new w.drew _, hge, hcap, ?_, ?_⟩⟩
          · rw [Array.size_append, size_zeroCells]
            simp [Value.cells]
            omega
          · simp
        · exact ⟨rfl, rfl, rfl, by simp, fun i hi _ => Rows_old' w.drew _ i hi⟩
        · right; right
          have : ¬ grownCap w l.length 0 9 = 0 := by omega
          simp [fpr, this]
  · have hc0 : ¬ c0 = 0 := by omega
    have hfp : (Value.slice A0 l0.length c0).ownBlock = fpr A0 c0 := by cases A0 <;> simp [fpr, hc0, Value.ownBlock]
    by_cases hl : l = []
    · subst hl
      have hcap := (Row.cap (.inr ⟨h0, h⟩ : Row w base A0 l0 c0)).1
      exact ⟨A0, c0, w, put_nothing A0 A l0.length c0 c hcap ty w, by rw [List.append_nil]; exact .inr ⟨h0, h⟩, ⟨rfl, rfl, rfl, Nat.le_refl _, fun _ _ _ => rfl⟩, .inr (.inl rfl)⟩
    · have hlp : 0 < l.length := List.length_pos_iff.2 hl
      obtain ⟨v', w', hrun, r1, r2, r3⟩ := put_any h hn hb A l.length c l rfl hm hr ty
      obtain ⟨g, c', rfl, _, _⟩ := r1.form (by omega)
      have hc' : 0 < c' := by have := (own_cap r1 (by omega)).1; omega
      have hc'' : ¬ c' = 0 := by omega
      refine ⟨some ⟨g, 0, none⟩, c', w', hrun, .inr ⟨hc', by rw [List.length_append, List.map_append]; exact r1⟩, by rw [← hfp]; exact r2, .inr ?_⟩
      rcases r3 with r3 | r3
      · left; rw [← hfp, ← r3]; simp [fpr, hc'', Value.ownBlock]
      · right; simpa [fpr, hc'', Value.ownBlock] using r3
where
  Rows_old' (w : World) (o : Obj) (i : Nat) (h : i < w.heap.size) : (w.alloc o).heap[i]? = w.heap[i]? := by
    show (w.heap.push o)[i]? = _
    rw [Array.getElem?_push, if_neg (by omega)]
theorem wpList_put_row (w : World) {ops : Array Oper} {rest : List Oper} {o : Oper} {a : Act} {Q : Exit → Act → World → Prop} (hg : o.guard = none) (s x : Operand)
    (hop : o.op = Op.call { callee := Callee.builtin Builtin.append, args := #[s, x], argTypes := #[23, 23] }) {base : Nat} (A0 : Option Addr) (n0 c0 : Nat) (l0 : List ByteArray) (A : Option Addr) (m c : Nat) (l : List ByteArray) (hs : a.eval s = .slice A0 n0 c0) (hx : a.eval x = .slice A m c)
    (h : Row w base A0 l0 c0) (hn0 : l0.length = n0) (hn : n0 ≤ 1000000) (hb : base ≤ w.heap.size) (hl : l.length = m) (hm : m ≤ 1000000) (hr : RdS w A l)
    (hK : ∀ A' c' w', Row w' base A' (l0 ++ l) c' → w.grownBy w' (fpr A0 c0) → (fpr A' c' = none ∨ fpr A' c' = fpr A0 c0 ∨ fpr A' c' = some w.heap.size) → wpList Try.prog ops Q rest (a.put o.dst (.slice A' (n0 + m) c')) w') :
    wpList Try.prog ops Q (o :: rest) a w := by
  subst hn0 hl
  refine wpList_plain hg fun K' hK' => ?_
  obtain ⟨A', c', w', hrun, r1, r2, r3⟩ := put_row h hn hb A c l hm hr o.type
  unfold Oper.wp
  simp [execOp, hop, resolve, invoke, builtin, hs, hx, hrun, Result.andThen]
  exact hK' _ _ (hK A' c' w' r1 r2 r3)
theorem step_put_row (w : World) {ops : Array Oper} {o : Oper} {a : Act} {K : Act → World → Prop} {Q : Exit → Act → World → Prop} {E : Prop} (hg : o.guard = none) (s x : Operand)
    (hop : o.op = Op.call { callee := Callee.builtin Builtin.append, args := #[s, x], argTypes := #[23, 23] }) {base : Nat} (A0 : Option Addr) (n0 c0 : Nat) (l0 : List ByteArray) (A : Option Addr) (m c : Nat) (l : List ByteArray) (hs : a.eval s = .slice A0 n0 c0) (hx : a.eval x = .slice A m c)
    (h : Row w base A0 l0 c0) (hn0 : l0.length = n0) (hn : n0 ≤ 1000000) (hb : base ≤ w.heap.size) (hl : l.length = m) (hm : m ≤ 1000000) (hr : RdS w A l)
    (hK : ∀ A' c' w', Row w' base A' (l0 ++ l) c' → w.grownBy w' (fpr A0 c0) → (fpr A' c' = none ∨ fpr A' c' = fpr A0 c0 ∨ fpr A' c' = some w.heap.size) → K (a.put o.dst (.slice A' (n0 + m) c')) w') :
    if Region.wanted o (yielded ops a.tmps) = true then Oper.wp Try.prog o a w K Q else E := by
  have hw : Region.wanted o (yielded ops a.tmps) = true := by simp [Region.wanted, hg]
  rw [if_pos hw]
  subst hn0 hl
  obtain ⟨A', c', w', hrun, r1, r2, r3⟩ := put_row h hn hb A c l hm hr o.type
  unfold Oper.wp
  simp [execOp, hop, resolve, invoke, builtin, hs, hx, hrun, Result.andThen]
  exact hK A' c' w' r1 r2 r3

/-- A row in new memory. -/
def OwnPost (w : World) (l : List ByteArray) (e : Ending) (w' : World) : Prop := ∃ A c, e = .returned (.slice A l.length c) ∧ Row w' w.heap.size A l c ∧ Below w.heap.size w w'
theorem own_row (A : Option Addr) (n c : Nat) (l : List ByteArray) (w : World) (hl : l.length = n) (hn : n ≤ 1000000) (hA : RdS w A l) :
    Calls Try.prog 94 #[.slice A n c] w (OwnPost w l) := by
  have HL := Lib.hid hl
  have HA := Lib.hid hA
  clear hl hA
  go_enter Try.func94, Try.ntmps94
  go_wp2_with (first
    | (at_builtin; refine wpList_put_row _ rfl (.tmp 4) (.tmp 5) rfl (base := w.heap.size) A 0 0 [] A n c l rfl rfl (.inl ⟨rfl, rfl⟩) rfl (by omega) (Nat.le_refl _) HL.out hn HA.out ?_; intro A' c' w' r1 r2 r3; have HR1 := Lib.hid r1; have HR2 := Lib.hid r2; clear r1 r2 r3)
    | fail)
  exact bodyPost_ret (v := .slice A' n c') (by simp [results, Try.results94, go_sem]) rfl ⟨A', c', by rw [HL.out], by simpa using HR1.out, (Below.refl _ _).grown HR2.out (Nat.le_refl _) (fun j hj => by simp [fpr] at hj)⟩
end Go.Proofs.Ytilnpeekajnlhaa.Pv
