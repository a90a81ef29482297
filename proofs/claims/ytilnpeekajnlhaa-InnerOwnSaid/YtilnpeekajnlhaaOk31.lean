/- Texts of the proof, one behind the other. -/
import Derived.Test.YtilnpeekajnlhaaOk02
import Derived.Test.YtilnpeekajnlhaaOk29
import Derived.Test.YtilnpeekajnlhaaOk30
set_option linter.unusedVariables false
set_option linter.unusedSimpArgs false
namespace Go.Proofs.Ytilnpeekajnlhaa
open Go.ChangeShapes Go.WideShapes Go.ChangeAt Go.RowKit Go.Joins
theorem od_n28 : Try.prog.cellsOf 28 = 5 := by kernel_rfl
theorem od_n22 : Try.prog.cellsOf 22 = 1 := by kernel_rfl
theorem od_n23 : Try.prog.cellsOf 23 = 1 := by kernel_rfl
theorem od_n24 : Try.prog.cellsOf 24 = 1 := by kernel_rfl
theorem od_n25 : Try.prog.cellsOf 25 = 1 := by kernel_rfl
theorem od_n26 : Try.prog.cellsOf 26 = 1 := by kernel_rfl
theorem str_cell {H : Type} {enc : TypeId × Value → H} {w : World} {base : Nat} {spare : Nat → Bool} {held : Bool} {n : Nat} {a : Addr} {cs : List Value} {x : DataW H × List MemPlace}
    (hc : w.cells? base a 1 = some cs) (h : DataW.trod enc Try.prog w base spare held n 9 cs = some x) (hw : ∀ q ∈ x.1.weights Try.prog 9, q ≤ reachBytes) :
    ∃ t : ByteArray, (∀ j u, (ES.cs t)[j]? = some u → w.cell? (a.add j) = some u) ∧ SzOk t := by
  obtain ⟨_, hl, hi⟩ := World.cells?_some hc
  match cs, hl with
  | [c0], _ =>
    obtain ⟨p2, e2, z2, _⟩ := DataW.trod_string Try.underlying9 h
    simp at e2
    subst e2
    have hr : reachBytes ≤ 140737488355328 := by decide
    refine ⟨p2, fun j u hu => ?_, ?_⟩
    · match j, hu with
      | 0, hu => simp [ES] at hu; subst hu; simpa using hi 0 (by omega)
      | j + 1, hu => simp [ES] at hu
    · exact Nat.le_trans (hw p2.size (by rw [z2]; simp [DataW.weights])) hr
theorem strs_open {H : Type} {enc : TypeId × Value → H} {w : World} {base : Nat} {spare : Nat → Bool} {held : Bool} {a : Option Addr} {n c : Nat} {d : DataW H} {p : List MemPlace} (h : DataW.Trod enc Try.prog w base spare held 23 (.slice a n c) d p) (hw : ∀ q ∈ d.weights Try.prog 23, q ≤ reachBytes) :
    ∃ xs, n ≤ c ∧ c ≤ maxLen ∧ xs.length = n ∧ ES.Rd w a xs ∧ (∀ x ∈ xs, SzOk x) := by
  obtain ⟨fuel, hf⟩ := h
  rcases Go.Deep.open_slice Try.underlying23 hf with ⟨hcs, _⟩ | ⟨x, l, c', m, n', D, Pl, hcs, _, hl, hm, hmm, hxe, hx⟩
  · simp [Value.cells] at hcs
    obtain ⟨rfl, rfl, rfl⟩ := hcs
    exact ⟨[], Nat.le_refl _, Nat.zero_le _, rfl, .inl rfl, fun x hx => by cases hx⟩
  · simp [Value.cells] at hcs
    obtain ⟨rfl, rfl, rfl⟩ := hcs
    by_cases h0 : n = 0
    · exact ⟨[], hl, hm, h0.symm, .inl rfl, fun x hx => by cases hx⟩
    · have hall : ∀ i : Nat, ∃ t : ByteArray, (i < n → ∀ j u, (ES.cs t)[j]? = some u → w.cell? ((x.add (i * 1)).add j) = some u) ∧ SzOk t := by
        intro i
        by_cases hi : i < n
        · obtain ⟨cs', hc, ht⟩ := hx i (by rw [hmm]; split <;> omega)
          rw [od_c9] at hc
          obtain ⟨t, h3, h4⟩ := str_cell hc ht (fun q hq => hw q (by have hd : d = _ := congrArg Prod.fst hxe; rw [hd]; exact w_slice Try.underlying23 (List.mem_map.2 ⟨i, by simpa using hi, rfl⟩) hq))
          exact ⟨t, fun _ => h3, h4⟩
        · exact ⟨emptyS, fun h => absurd h hi, by decide⟩
      obtain ⟨f, hf''⟩ := Classical.axiomOfChoice hall
      have hf' := fun i => (hf'' i).1
      obtain ⟨b, off, spot⟩ := x
      have z := hf' 0 (by omega) 0 _ rfl
      have hs : spot = none := by simpa [Addr.add] using World.cell?_spot z
      subst hs
      have hb : b < w.heap.size := by simpa [Addr.add] using World.block_lt_of_cell? w _ z
      refine ⟨(List.range n).map f, hl, hm, by simp, .inr ⟨b, off, rfl, hb, fun j u hj => ?_⟩, fun y hy => ?_⟩
      · obtain ⟨k, i, y, hk, rfl, hu⟩ := RE.all_at ES hj
        rw [List.getElem?_map] at hk
        have hkn : k < n := by
          cases hr : (List.range n)[k]? with
          | none => rw [hr] at hk; cases hk
          | some q => have := (List.getElem?_eq_some_iff.1 hr).1; simpa using this
        rw [List.getElem?_range hkn] at hk
        simp at hk
        subst hk
        have q := hf' k hkn i u hu
        have e0 : ((⟨b, off, none⟩ : Addr).add (k * 1)).add i = ⟨b, off + (k * ES.k + i), none⟩ := by
          have : ES.k = 1 := rfl
          rw [this]
          by_cases y1 : k = 0 <;> by_cases y2 : i = 0 <;> simp [Addr.add, y1, y2] <;> (try omega) <;> (try (split <;> omega)) <;> (try (split <;> simp <;> omega))
        rw [e0] at q
        exact q
      · obtain ⟨k, _, rfl⟩ := List.mem_map.1 hy
        exact (hf'' k).2

theorem slice_cell {H : Type} {enc : TypeId × Value → H} {w : World} {base : Nat} {spare : Nat → Bool} {held : Bool} {fuel : Nat} {t e : TypeId} {c : Value} {y : DataW H × List MemPlace} (hu : Try.prog.underlying t = some (.slice e))
    (h : DataW.trod enc Try.prog w base spare held fuel t [c] = some y) : ∃ a n k, c = .slice a n k ∧ DataW.Trod enc Try.prog w base spare held t (.slice a n k) y.1 y.2 := by
  have hv : ∀ a n k, c = .slice a n k → DataW.Trod enc Try.prog w base spare held t (.slice a n k) y.1 y.2 := fun a n k e => ⟨fuel, by subst e; exact h⟩
  rcases Go.Deep.open_slice hu h with ⟨hcs, _⟩ | ⟨x, l, c', m, n', D, Pl, hcs, _⟩
  · simp at hcs; exact ⟨_, _, _, hcs, hv _ _ _ hcs⟩
  · simp at hcs; exact ⟨_, _, _, hcs, hv _ _ _ hcs⟩
theorem nd_ints24 {H : Type} {enc : TypeId × Value → H} {w : World} {base : Nat} {spare : Nat → Bool} {held : Bool} {a : Option Addr} {n c : Nat} {d : DataW H} {p : List MemPlace} (h : DataW.Trod enc Try.prog w base spare held 24 (.slice a n c) d p) :
    ∃ l : List Int, l.length = n ∧ Rd w w.heap.size a (l.map (Value.int .i64)) ∧ n ≤ c ∧ c ≤ maxLen ∧ (a = none → n = 0) ∧ (∀ s ∈ l, (Lit.int .i64 s).wf = true) := by
  obtain ⟨fuel, hf⟩ := h
  rcases open_ints Try.underlying24 Try.underlying3 (by kernel_rfl) hf with ⟨hcs, _⟩ | ⟨x, len, cap, ss, hcs, _, hl, hm, hlen, _, hcell, hsz⟩
  · simp [Value.cells] at hcs
    obtain ⟨rfl, rfl, rfl⟩ := hcs
    exact ⟨[], rfl, .inl rfl, Nat.le_refl _, by simp [maxLen], fun _ => rfl, by simp⟩
  · simp [Value.cells] at hcs
    obtain ⟨rfl, rfl, rfl⟩ := hcs
    have hle : n ≤ ss.length := by rw [hlen]; split <;> omega
    refine ⟨ss.take n, by simp; omega, ?_, hl, hm, fun h => (by cases h), fun s hs => hsz s (List.mem_of_mem_take hs)⟩
    by_cases h0 : n = 0
    · subst h0; exact .inl (by simp)
    · obtain ⟨b, off, spot⟩ := x
      have c0 := hcell 0 (by omega)
      have hs : spot = none := by simpa [Addr.add] using World.cell?_spot c0
      subst hs
      have hb := World.block_lt_of_cell? w _ c0
      refine .inr ⟨b, off, rfl, by simpa [Addr.add] using hb, fun j u hj => ?_⟩
      rw [List.getElem?_map, List.getElem?_take] at hj
      split at hj
      · rename_i hjn
        have cj := hcell j (by omega)
        rw [List.getD_eq_getElem?_getD] at cj
        cases hg : ss[j]? with
        | none => rw [hg] at hj; simp at hj
        | some s =>
          rw [hg] at hj cj
          simp at hj cj
          subst hj
          by_cases z : j = 0
          · subst z; simpa [Addr.add] using cj
          · simpa [Addr.add, z] using cj
      · simp at hj
theorem ei_of {w : World} {A : Option Addr} {l : List Int} (h : Rd w w.heap.size A (l.map (Value.int .i64))) : EI.Rd w A l := by
  have e : ∀ q : List Int, EI.all q = q.map (Value.int .i64) := by
    intro q
    induction q with
    | nil => rfl
    | cons x xs ih => rw [RE.all_cons, ih]; rfl
  unfold RE.Rd
  rw [e]; exact h

/-- What is known of a node that came in. -/
structure NodeIn (W : World) (v : Value) (kd : Int) (P J M B : Option Addr) (n pc k kc m mc b bc : Nat) (ps : List ByteArray) (ks : List Int) (ms : List MG) : Prop where
  hv : v = .agg #[.int .u8 kd, .slice P n pc, .slice J k kc, .slice M m mc, .slice B b bc]
  hl : ps.length = n
  hP : ES.Rd W P ps
  hps : ∀ x ∈ ps, SzOk x
  hkl : ks.length = k
  hJ : EI.Rd W J ks
  hx : ∀ x ∈ ks, (Lit.int .i64 x).wf = true
  hm : ms.length = m
  hM : EG.Rd W M ms
  ho : OkA ms
  np : n ≤ pc ∧ pc ≤ maxLen
  nk : k ≤ kc ∧ kc ≤ maxLen
  nm : m ≤ mc ∧ mc ≤ maxLen
set_option maxRecDepth 100000 in
theorem node_open {H : Type} {enc : TypeId × Value → H} {W : World} {base : Nat} {spare : Nat → Bool} {held : Bool} {r : Reach} {b0 : Nat} {v : Value} {d : DataW H} {p : List MemPlace}
    (hv : Value.okWide Try.prog W r b0 28 v) (h : DataW.Trod enc Try.prog W base spare held 28 v d p) (hw : ∀ q ∈ d.weights Try.prog 28, q ≤ reachBytes) :
    ∃ kd P J M B n pc k kc m mc b bc ps ks ms, NodeIn W v kd P J M B n pc k kc m mc b bc ps ks ms := by
  obtain ⟨cs, rfl, hsz⟩ := okWide_struct Try.underlying28 hv
  rw [od_n28] at hsz
  obtain ⟨fuel, hf⟩ := h
  obtain ⟨xs, m, _, hxe, _, hxl, hel⟩ := DataW.trod_struct Try.underlying28 hf
  obtain ⟨ls⟩ := cs
  match ls, hsz, xs, hxl with
  | [c0, c1, c2, c3, c4], _, [y0, y1, y2, y3, y4], _ =>
    have h0 := hel 0 _ rfl
    have h1 := hel 1 _ rfl
    have h2 := hel 2 _ rfl
    have h3 := hel 3 _ rfl
    have h4 := hel 4 _ rfl
    simp [od_n22, od_n23, od_n24, od_n25, od_n26, Value.cells] at h0 h1 h2 h3 h4
    obtain ⟨p0, e0, _, _⟩ := DataW.trod_int Try.underlying22 h0
    simp at e0
    obtain ⟨P, n, pc, e1, t1⟩ := slice_cell Try.underlying23 h1
    obtain ⟨J, k, kc, e2, t2⟩ := slice_cell Try.underlying24 h2
    obtain ⟨M, m, mc, e3, t3⟩ := slice_cell Try.underlying25 h3
    obtain ⟨B, b, bc, e4, t4⟩ := slice_cell Try.underlying26 h4
    subst e0 e1 e2 e3 e4
    have hxe' : d = _ := congrArg Prod.fst hxe
    obtain ⟨ps, i1, i2, i3, i4, i5⟩ := strs_open t1 (fun q hq => hw q (by rw [hxe']; exact w_agg Try.underlying28 (j := 1) (d := y1.1) rfl rfl hq))
    obtain ⟨ks, k1, k2, k3, k4, _, k6⟩ := nd_ints24 t2
    obtain ⟨ms, m1, m2, m3, m4, m5⟩ := msgs_open t3 (fun q hq => hw q (by rw [hxe']; exact w_agg Try.underlying28 (j := 3) (d := y3.1) rfl rfl hq))
    exact ⟨p0, P, J, M, B, n, pc, k, kc, m, mc, b, bc, ps, ks, ms, ⟨rfl, i3, i4, i5, k1, ei_of k2, k6, m3, m4, m5, ⟨i1, i2⟩, ⟨k3, k4⟩, ⟨m1, m2⟩⟩⟩
end Go.Proofs.Ytilnpeekajnlhaa
namespace Go.Proofs.Ytilnpeekajnlhaa
open Go.RowKit Go.Maps
set_option maxRecDepth 100000 in
set_option maxHeartbeats 8000000 in
theorem own_not (kd : Int) (P J M B : Option Addr) (n pc k kc m mc b bc : Nat) (ps : List ByteArray) (ks : List Int) (ms : List MG) (f t : ByteArray) (w : World) (hl : ps.length = n) (hP : ES.Rd w P ps) (hkl : ks.length = k) (hJ : EI.Rd w J ks) (hm : ms.length = m) (hM : EG.Rd w M ms) (ho : OkA ms)
    (hno : (smallB n k m b && rnB kd n k b ps ks ms f t) = false) :
    Calls Try.prog 6 #[NV kd (.slice P n pc) (.slice J k kc) (.slice M m mc) (.slice B b bc), .agg #[.string f, .string t]] w fun e w' => e = .returned (.bool true) ∧ Below w.heap.size w w' := by
  have y1 := two_new w (NO kd (.slice P n pc) (.slice J k kc) (.slice M m mc) (.slice B b bc)) (rgc f t)
  have H0 := Lib.hid (bel_alloc (alb w (NO kd (.slice P n pc) (.slice J k kc) (.slice M m mc) (.slice B b bc))) (rgc f t))
  have Z := Lib.hid y1.1
  have Y := Lib.hid y1.2
  clear y1
  obtain ⟨c0, c1, c2, c3, c4⟩ := cells5 Z.out
  obtain ⟨d0, d1, -, -⟩ := has_two Y.out
  have SA := Lib.hid (fun W => small_any kd P J M B n pc k kc m mc b bc W)
  cases hs : smallB n k m b
  · rw [hs] at SA
    clear hl hP hkl hJ hm hM ho hno hs
    go_enter Try.func6, Try.ntmps6
    go_wp2_with (first
      | (go_at_call 7; ((with_reducible refine (SA.out _).mono ?_); rintro e w1 ⟨rfl, b1⟩; have B1 := Lib.hid (bel_trans H0.out b1); clear b1))
      | (go_at_call 9; ((with_reducible refine (live_true _).mono ?_); rintro e w3 ⟨rfl, b3⟩; have B3 := Lib.hid (bel_trans B1.out b3); clear b3))
      | fail)
    go_ret
    exact ⟨rfl, B3.out⟩
  · rw [hs] at SA hno
    obtain ⟨s1, s2, s3, s4⟩ := small_yes hs
    rw [Bool.true_and] at hno
    have RA : Hid (∀ W, Below w.heap.size w W → Calls Try.prog 8 #[NV kd (.slice P n pc) (.slice J k kc) (.slice M m mc) (.slice B b bc), .agg #[.string f, .string t]] W fun e w' => e = .returned (.bool false) ∧ Below W.heap.size W w') := Lib.hid (fun W h => by
      have q := rright14 kd P J M B n pc k kc m mc b bc ps ks ms f t W hl (by omega) (es_rd.1 (hP.later h)) hkl (by omega) (hJ.later h) hm (by omega) (hM.later h) ho
      rw [hno] at q; exact q)
    clear hl hP hkl hJ hm hM ho hno hs
    go_enter Try.func6, Try.ntmps6
    go_wp2_with (first
      | (go_at_call 7; ((with_reducible refine (SA.out _).mono ?_); rintro e w1 ⟨rfl, b1⟩; have B1 := Lib.hid (bel_trans H0.out b1); replace Z := Lib.hid (keep_bel b1 Z.out); replace Y := Lib.hid (keep_bel b1 Y.out); clear b1 c0 c1 c2 c3 c4 d0 d1; obtain ⟨c0, c1, c2, c3, c4⟩ := cells5 Z.out; obtain ⟨d0, d1, -, -⟩ := has_two Y.out))
      | (go_at_call 8; ((with_reducible refine (RA.out _ B1.out).mono ?_); rintro e w2 ⟨rfl, b2⟩; have B2 := Lib.hid (bel_trans B1.out b2); clear b2))
      | (go_at_call 9; ((with_reducible refine (live_true _).mono ?_); rintro e w3 ⟨rfl, b3⟩; have B3 := Lib.hid (bel_trans B2.out b3); clear b3))
      | fail)
    go_ret
    exact ⟨rfl, B3.out⟩
theorem own_law {W : World} {v : Value} {kd : Int} {P J M B : Option Addr} {n pc k kc m mc b bc : Nat} {ps : List ByteArray} {ks : List Int} {ms : List MG} (N : NodeIn W v kd P J M B n pc k kc m mc b bc ps ks ms) (f t : ByteArray) :
    Calls Try.prog 6 #[.agg #[.int .u8 kd, .slice P n pc, .slice J k kc, .slice M m mc, .slice B b bc], .agg #[.string f, .string t]] W fun e w' => e = .returned (.bool true) ∧ Below W.heap.size W w' := by
  cases hno : (smallB n k m b && rnB kd n k b ps ks ms f t)
  · exact own_not kd P J M B n pc k kc m mc b bc ps ks ms f t W N.hl N.hP N.hkl N.hJ N.hm N.hM N.ho hno
  · rw [Bool.and_eq_true] at hno
    obtain ⟨hs, hr⟩ := hno
    have hr := rnB_iff.1 hr
    have hb := hr.hb
    subst hb
    obtain ⟨s1, s2, s3, -⟩ := small_yes hs
    have hk := hr.hk
    by_cases h1 : k = 1
    · exact own_yes kd P J M B n pc k kc m mc bc ps ks ms f t W N.hl N.hP N.hkl N.hJ N.hm N.hM N.ho hs hr kd 0 n k m 0 0 0 ps ks ms [] [] [] emptyS N.hl N.hkl N.hm rfl rfl rfl (by omega)
        (fun W' hW => halves_one kd P J M B n pc k kc m mc bc ps ks ms W' N.hl (N.hP.later hW) N.hkl (N.hJ.later hW) N.hm (by omega) (N.hM.later hW) (by omega) h1)
    · have hp : k / 2 - 1 < ps.length := by rw [N.hl]; omega
      have hL := forL_len emptyS (ps[k / 2 - 1]'hp) ms
      have hR := resL_len emptyS (ps[k / 2 - 1]'hp) ms
      exact own_yes kd P J M B n pc k kc m mc bc ps ks ms f t W N.hl N.hP N.hkl N.hJ N.hm N.hM N.ho hs hr 2 2 (k / 2 - 1) (k / 2) _ (n - k / 2) (k - k / 2) _ _ _ _ _ _ _ (ps[k / 2 - 1]'hp) (by rw [List.length_take, N.hl]; omega) (by rw [List.length_take, N.hkl]; omega) rfl (by rw [List.length_drop, N.hl]) (by rw [List.length_drop, N.hkl]) rfl (by have := N.hm; omega)
        (fun W' hW => halves_two kd P J M B n pc k kc m mc bc ps ks ms W' N.hl (N.hP.later hW) N.hkl (N.hJ.later hW) N.hm (by omega) (N.hM.later hW) N.ho (by omega) hk (k / 2) (k / 2 - 1) _ _ rfl (by omega) _ (List.getElem?_eq_getElem hp) rfl rfl)
end Go.Proofs.Ytilnpeekajnlhaa
