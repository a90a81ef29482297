/- Who holds what behind one move. -/
import Derived.Test.YtocbabckihcdmaaDoorT7
import Derived.WideMake
import Derived.WalkMore
namespace Go.Proofs.YtocbabckihcdmaaDoor
set_option linter.unusedSimpArgs false
open Go.RowKit Go.Maps
set_option linter.unusedVariables false
theorem mupd_first (w : World) (mty et : TypeId) (r clock : Nat) (i : Int) (val : Value) (hm : Tryd.prog.underlying mty = some (.map 3 et)) (hb : w.heap[r]? = some (.map #[] clock)) :
    (Instr.mapUpdate mty (.map (some r)) (.int .i64 i) val).run Tryd.prog w = .ok () { w with heap := w.heap.setIfInBounds r (.map #[{ key := .int .i64 i, val := val, born := clock }] (clock + 1)) } := by
  have hf : Instr.findNow (.int .i64) (.int .i64 i) ([] : List MapEntry) 0 = some none := rfl
  have hc : (Instr.checkKey false 10000 3 (.int .i64 i)).run Tryd.prog w = .ok () w := MapKept.run_checkKey (k := .int .i64 i) Tryd.underlying3 (by simp [MapKept.IsKey]) false 9999
  simp [Instr.mapUpdate, run_underlying hm, MapKept.run_getObj_map hb, hc, MapKept.run_findKey Tryd.underlying3 hf, MapKept.run_setObj_map _ hb, Result.andThen]
theorem mlook_none (w : World) (mty et : TypeId) (r clock : Nat) (i : Int) (z : Value) (ok : Bool) (hm : Tryd.prog.underlying mty = some (.map 3 et)) (hb : w.heap[r]? = some (.map #[] clock)) (hz : (zeroValue et).run Tryd.prog w = .ok z w) :
    (Instr.lookup mty (.map (some r)) (.int .i64 i) ok).run Tryd.prog w = .ok (if ok then .tuple #[z, .bool false] else z) w := by
  have hf : Instr.findNow (.int .i64) (.int .i64 i) ([] : List MapEntry) 0 = some none := rfl
  have hc : (Instr.checkKey true 10000 3 (.int .i64 i)).run Tryd.prog w = .ok () w := MapKept.run_checkKey (k := .int .i64 i) Tryd.underlying3 (by simp [MapKept.IsKey]) true 9999
  simp [Instr.lookup, run_underlying hm, MapKept.run_getObj_map hb, hc, MapKept.run_findKey Tryd.underlying3 hf, hz, Result.andThen]
theorem mlook_one (w : World) (mty et : TypeId) (r clock b : Nat) (i : Int) (v : Value) (hm : Tryd.prog.underlying mty = some (.map 3 et)) (hb : w.heap[r]? = some (.map #[{ key := .int .i64 i, val := v, born := b }] clock)) :
    (Instr.lookup mty (.map (some r)) (.int .i64 i) false).run Tryd.prog w = .ok v w := by
  have hf : Instr.findNow (.int .i64) (.int .i64 i) ([{ key := .int .i64 i, val := v, born := b }] : List MapEntry) 0 = some (some (0, v)) := by simp [Instr.findNow, Instr.sameNow]
  have hc : (Instr.checkKey false 10000 3 (.int .i64 i)).run Tryd.prog w = .ok () w := MapKept.run_checkKey (k := .int .i64 i) Tryd.underlying3 (by simp [MapKept.IsKey]) false 9999
  simp [Instr.lookup, run_underlying hm, MapKept.run_getObj_map hb, hc, MapKept.run_findKey Tryd.underlying3 hf, Result.andThen]
theorem bel_heap {B : Nat} {w W : World} {r : Nat} {o : Obj} (h : Below B w W) (hr : B ≤ r) : Below B w { W with heap := W.heap.setIfInBounds r o } :=
  ⟨h.os, h.tape, h.output, by simpa using h.size, fun i hi => by
    show (W.heap.setIfInBounds r o)[i]? = w.heap[i]?
    rw [Array.getElem?_setIfInBounds_ne (by omega)]
    exact h.block i hi⟩
theorem keep_heap {W : World} {r x : Nat} {o p : Obj} (h : x ≠ r) (z : W.heap[x]? = some p) : ({ W with heap := W.heap.setIfInBounds r o } : World).heap[x]? = some p := by
  show (W.heap.setIfInBounds r o)[x]? = some p
  rw [Array.getElem?_setIfInBounds_ne (by omega)]; exact z
theorem set_heap {W : World} {r : Nat} {o p : Obj} (z : W.heap[r]? = some p) : ({ W with heap := W.heap.setIfInBounds r o } : World).heap[r]? = some o := by
  show (W.heap.setIfInBounds r o)[r]? = some o
  have := (Array.getElem?_eq_some_iff.1 z).1
  simp [this]
theorem step_putG {α : Type} (E : RE α) (w : World) {ops : Array Oper} {o : Oper} {a : Act} {K : Act → World → Prop} {Q : Exit → Act → World → Prop} {X : Prop} (hw : Region.wanted o (yielded ops a.tmps) = true) (s x : Operand)
    (hop : o.op = Op.call { callee := Callee.builtin Builtin.append, args := #[s, x], argTypes := #[E.st, E.st] }) {base : Nat} (A0 : Option Addr) (n0 c0 : Nat) (l0 : List α) (A : Option Addr) (m c : Nat) (l : List α) (hs : a.eval s = .slice A0 n0 c0) (hx : a.eval x = .slice A m c)
    (h : E.Row w base A0 l0 c0) (hn0 : l0.length = n0) (hn : n0 ≤ 1000000) (hb : base ≤ w.heap.size) (hl : l.length = m) (hm : m ≤ 1000000) (hr : E.Rd w A l)
    (hK : ∀ A' c' w', E.Row w' base A' (l0 ++ l) c' → w.grownBy w' (RE.fp A0 c0) → K (a.put o.dst (.slice A' (n0 + m) c')) w') :
    if Region.wanted o (yielded ops a.tmps) = true then Oper.wp Tryd.prog o a w K Q else X := by
  rw [if_pos hw]
  subst hn0 hl
  obtain ⟨A', c', w', hrun, r1, r2, r3⟩ := h.put hn hb A c l hm hr o.type
  unfold Oper.wp
  simp [execOp, hop, resolve, invoke, builtin, hs, hx, hrun, Result.andThen]
  exact hK _ _ _ r1 r2
abbrev x0 : MV := ⟨1, 3, 2, 7, 0⟩
theorem step_mm (w : World) {ops : Array Oper} {o : Oper} {a : Act} {K : Act → World → Prop} {Q : Exit → Act → World → Prop} {X : Prop} (hw : Region.wanted o (yielded ops a.tmps) = true) (t : TypeId) (hop : o.op = Op.makeMap t none)
    (hK : K (a.put o.dst (.map (some w.heap.size))) (w.alloc (.map #[] 0))) : if Region.wanted o (yielded ops a.tmps) = true then Oper.wp Tryd.prog o a w K Q else X := by
  rw [if_pos hw]
  unfold Oper.wp
  simp [execOp, hop, run_makeMap_plain, Result.andThen]
  exact hK
theorem step_mu (w : World) {ops : Array Oper} {o : Oper} {a : Act} {K : Act → World → Prop} {Q : Exit → Act → World → Prop} {X : Prop} (hw : Region.wanted o (yielded ops a.tmps) = true) (t et : TypeId) (m x v : Operand) (hop : o.op = Op.mapUpdate t m x v) (hu : Tryd.prog.underlying t = some (.map 3 et))
    (r clock : Nat) (i : Int) (val : Value) (hm : a.eval m = .map (some r)) (hx : a.eval x = .int .i64 i) (hv : a.eval v = val) (hb : w.heap[r]? = some (.map #[] clock))
    (hK : ∀ W1 : World, W1.heap[r]? = some (.map #[{ key := .int .i64 i, val := val, born := clock }] (clock + 1)) → (∀ x o, x ≠ r → w.heap[x]? = some o → W1.heap[x]? = some o) → (∀ B w0, Below B w0 w → B ≤ r → Below B w0 W1) → K (a.put o.dst undef) W1) : if Region.wanted o (yielded ops a.tmps) = true then Oper.wp Tryd.prog o a w K Q else X := by
  rw [if_pos hw]
  subst hv
  have g := mupd_first w t et r clock i (a.eval v) hu hb
  unfold Oper.wp
  simp [execOp, hop, hm, hx, g, Result.andThen]
  exact hK _ (set_heap hb) (fun x o h z => keep_heap h z) (fun B w0 h hr => bel_heap h hr)
theorem step_lk (w : World) {ops : Array Oper} {o : Oper} {a : Act} {K : Act → World → Prop} {Q : Exit → Act → World → Prop} {X : Prop} (hw : Region.wanted o (yielded ops a.tmps) = true) (t et : TypeId) (m x : Operand) (hop : o.op = Op.lookup t m x false) (hu : Tryd.prog.underlying t = some (.map 3 et))
    (r clock : Nat) (i : Int) (z : Value) (hm : a.eval m = .map (some r)) (hx : a.eval x = .int .i64 i) (hb : w.heap[r]? = some (.map #[] clock)) (hz : (zeroValue et).run Tryd.prog w = .ok z w)
    (hK : K (a.put o.dst z) w) : if Region.wanted o (yielded ops a.tmps) = true then Oper.wp Tryd.prog o a w K Q else X := by
  rw [if_pos hw]
  have g := mlook_none w t et r clock i z false hu hb hz
  unfold Oper.wp
  simp [execOp, hop, hm, hx, g, Result.andThen]
  exact hK
theorem has2 {W : World} {g : Nat} {a b : Value} {t : TypeId} (z : W.heap[g]? = some (.cells #[a, b] t)) : W.cell? ⟨g, 0, none⟩ = some a ∧ W.cell? ⟨g, 1, none⟩ = some b := by
  simp [World.cell?, z]
set_option maxRecDepth 100000 in
set_option maxHeartbeats 8000000 in
theorem held_one (A : Option Addr) (cap : Nat) (w : World) (hA : EM.Rd w A [x0]) :
    Calls Tryd.prog 28 #[.slice A (1 : Nat) cap] w fun e w' => ∃ M, e = .returned (.tuple #[.map (some M), .int .i64 0]) ∧ w'.heap[M]? = some (.map #[{ key := .int .i64 2, val := .int .i64 1, born := 0 }] 1) ∧ w.heap.size ≤ M ∧ Below w.heap.size w w' := by
  have HA := Lib.hid (fun W (b : Below w.heap.size w W) => hA.later b)
  have z3 : ∀ W : World, (zeroValue 3).run Tryd.prog W = .ok (.int .i64 0) W := fun W => by kernel_rfl
  have z39 : ∀ W : World, (zeroValue 39).run Tryd.prog W = .ok (.slice none 0 0) W := fun W => by kernel_rfl
  have Z3 := Lib.hid z3
  have Z39 := Lib.hid z39
  clear hA z3 z39
  have b1 := alb w (.map #[] 0)
  have b2 := alb (w.alloc (.map #[] 0)) (.map #[] 0)
  have b3 := alb ((w.alloc (.map #[] 0)).alloc (.map #[] 0)) (.cells #[.map (some w.heap.size), .map (some (w.heap.size + 1))] 73)
  have BB := Lib.hid (bel_trans (bel_trans b1 b2) b3)
  have M1 := keep_bel b3 (keep_bel b2 (heap_alloc_new w (.map #[] 0)))
  have M2 : (((w.alloc (.map #[] 0)).alloc (.map #[] 0)).alloc (.cells #[.map (some w.heap.size), .map (some (w.heap.size + 1))] 73)).heap[w.heap.size + 1]? = some (.map #[] 0) := by
    have g := keep_bel b3 (heap_alloc_new (w.alloc (.map #[] 0)) (.map #[] 0))
    simpa using g
  have M3 : (((w.alloc (.map #[] 0)).alloc (.map #[] 0)).alloc (.cells #[.map (some w.heap.size), .map (some (w.heap.size + 1))] 73)).heap[w.heap.size + 1 + 1]? = some (.cells #[.map (some w.heap.size), .map (some (w.heap.size + 1))] 73) := by
    have g := heap_alloc_new ((w.alloc (.map #[] 0)).alloc (.map #[] 0)) (.cells #[.map (some w.heap.size), .map (some (w.heap.size + 1))] 73)
    simpa using g
  have hmm := @run_makeMap Tryd.prog
  have N1 := Lib.hid M1
  have N2 := Lib.hid M2
  have N3 := Lib.hid M3
  clear b1 b2 b3 M1 M2 M3
  go_enter Tryd.func28, Tryd.ntmps28
  go_upto_region 1 with fail
  go_step3
  go_upto_region 2 with fail
  try go_step3
  go_upto_region 2 with fail
  clear hmm
  have G1 := N1
  have G2 := N2
  have G3 := N3
  have B0 := BB
  clear N1 N2 N3 BB
  generalize World.alloc (World.alloc (World.alloc w _) _) _ = W0 at G1 G2 G3 B0 ⊢
  have PQ : ∃ p q g, p = w.heap.size ∧ q = w.heap.size + 1 ∧ g = w.heap.size + 1 + 1 := ⟨_, _, _, rfl, rfl, rfl⟩
  obtain ⟨p, q, g, hp, hq, hg⟩ := PQ
  have HPQ : Hid (p ≠ q ∧ p ≠ g ∧ q ≠ g) := Lib.hid (by omega)
  have HP : Hid (w.heap.size ≤ p) := Lib.hid (by omega)
  have HQ : Hid (w.heap.size ≤ q) := Lib.hid (by omega)
  have HG : Hid (w.heap.size ≤ g) := Lib.hid (by omega)
  rw [← hg, ← hq, ← hp] at G3
  rw [← hp] at G1
  rw [← hq] at G2
  rw [← hg]
  clear hp hq hg
  go_upto_region 3 with fail
  · skip
    go_loopw [17] (fun iv wr => ∃ (k : Nat), k ≤ 1 ∧ iv = .int .i64 k ∧ (k = 0 → wr = W0) ∧ (k = 1 → Hid (wr.heap[p]? = some (.map #[{ key := .int .i64 2, val := .int .i64 1, born := 0 }] 1)) ∧ Hid (wr.heap[g]? = some (.cells #[.map (some p), .map (some q)] 73)) ∧ Hid (Below w.heap.size w wr))) (fun i _ => 1 - (intOf i).toNat)
    case atStart => exact ⟨0, by omega, rfl, fun _ => rfl, fun h => absurd h (by omega)⟩
    case round =>
      obtain ⟨k, hk, rfl, hk0, hk1⟩ := hrel
      by_cases h8 : k = 1
      · subst h8
        obtain ⟨HM, HH, HB⟩ := hk1 rfl
        obtain ⟨q0, q1⟩ := has2 HH.out
        clear hk0 hk1 hk
        go_wp2
        simp only [Exit.noGoto_ret]
        refine bodyPost_ret (v := .tuple #[.map (some p), .int .i64 0]) (by simp [results, Tryd.results28, go_sem]) rfl ⟨p, rfl, HM.out, HP.out, HB.out⟩
      · have h0 : k = 0 := by omega
        subst h0
        obtain rfl : wr = W0 := hk0 rfl
        obtain ⟨b, off, rfl, hlt, g0, g1, g2, g3, g4⟩ := em_at (HA.out _ B0.out) (i := 0) (x := x0) rfl
        rw [Nat.zero_mul, Nat.add_zero] at g0 g1 g2 g3 g4
        have BX := Lib.hid (bel_alloc B0.out (MO x0))
        have QG := Lib.hid (keep_bel (alb wr (MO x0)) G3.out)
        have QP := Lib.hid (keep_bel (alb wr (MO x0)) G1.out)
        have QQ := Lib.hid (keep_bel (alb wr (MO x0)) G2.out)
        have QM := Lib.hid (heap_alloc_new wr (MO x0))
        have LG := Lib.hid (World.block_lt_of_cell? _ _ (has2 G3.out).1)
        have LP := Lib.hid ((Array.getElem?_eq_some_iff.1 G1.out).1)
        have LQ := Lib.hid ((Array.getElem?_eq_some_iff.1 G2.out).1)
        obtain ⟨c0, c1, c2, c3, c4⟩ := cells5 QM.out
        clear hk0 hk1 hk h8 hlt
        go_upto_region 7 with fail
        refine wp_region_held_drew (S := (fun V : World => V.heap[g]? = some (.cells #[.map (some p), .map (some q)] 73) ∧ V.heap[wr.heap.size]? = some (MO x0) ∧ V.heap[p]? = some (.map #[] 0))) (by kernel_rfl) ?_ (fun hHeld => ?_)
        · exact ⟨QG.out, QM.out, QP.out⟩
        have HHeld := Lib.hid hHeld; clear hHeld
        refine wpAnyH_take (i := 0) (oi := { dst := some 27, op := Op.move (Operand.tmp 4), type := 70, pos := "held.go:24", after := #[], guard := none }) (v := ?_) rfl (by kernel_rfl) (by kernel_rfl) (by kernel_rfl) (fun _ _ _ h => h) (Or.inl ⟨by rfl, ?_⟩) HHeld.out ?_
        rotate_left
        · intro w hSw; clear hSw; go_simp; try with_reducible rfl
        try simp only [Act.put, List.setIfInBounds_toArray, List.set_cons_zero, List.set_cons_succ]
        refine wpAnyH_take (i := 1) (oi := { dst := some 28, op := Op.nilCheck (Operand.tmp 27), type := 0, pos := "held.go:24", after := #[{ on := 0, ground := Ground.data }], guard := none }) (v := ?_) rfl (by kernel_rfl) (by kernel_rfl) (by kernel_rfl) (fun _ _ _ h => h) (Or.inl ⟨by rfl, ?_⟩) HHeld.out ?_
        rotate_left
        · intro w hSw; clear hSw; go_simp; try with_reducible rfl
        try simp only [Act.put, List.setIfInBounds_toArray, List.set_cons_zero, List.set_cons_succ]
        refine wpAnyH_take (i := 2) (oi := { dst := some 29, op := Op.fieldAddr 73 (Operand.tmp 28) 0, type := 0, pos := "held.go:24", after := #[{ on := 1, ground := Ground.data }], guard := none }) (v := ?_) rfl (by kernel_rfl) (by kernel_rfl) (by kernel_rfl) (fun _ _ _ h => h) (Or.inl ⟨by rfl, ?_⟩) HHeld.out ?_
        rotate_left
        · intro w hSw; clear hSw; go_simp; try with_reducible rfl
        try simp only [Act.put, List.setIfInBounds_toArray, List.set_cons_zero, List.set_cons_succ]
        refine wpAnyH_take (i := 3) (oi := { dst := some 30, op := Op.load 58 (Operand.tmp 29), type := 58, pos := "held.go:24", after := #[{ on := 2, ground := Ground.data }], guard := none }) (v := (.map (some p) : Value)) rfl (by kernel_rfl) (by kernel_rfl) (by kernel_rfl) (fun _ _ _ h => h) (Or.inl ⟨by rfl, ?_⟩) HHeld.out ?_
        · intro V hV; have hc0 := (has2 hV.1).1; clear hV; go_simp
        try simp only [Act.put, List.setIfInBounds_toArray, List.set_cons_zero, List.set_cons_succ]
        refine wpAnyH_take (i := 4) (oi := { dst := some 31, op := Op.fieldAddr 35 (Operand.tmp 6) 2, type := 0, pos := "held.go:24", after := #[], guard := none }) (v := ?_) rfl (by kernel_rfl) (by kernel_rfl) (by kernel_rfl) (fun _ _ _ h => h) (Or.inl ⟨by rfl, ?_⟩) HHeld.out ?_
        rotate_left
        · intro w hSw; clear hSw; go_simp; try with_reducible rfl
        try simp only [Act.put, List.setIfInBounds_toArray, List.set_cons_zero, List.set_cons_succ]
        refine wpAnyH_take (i := 5) (oi := { dst := some 32, op := Op.load 3 (Operand.tmp 31), type := 3, pos := "held.go:24", after := #[{ on := 4, ground := Ground.data }], guard := none }) (v := (.int .i64 2 : Value)) rfl (by kernel_rfl) (by kernel_rfl) (by kernel_rfl) (fun _ _ _ h => h) (Or.inl ⟨by rfl, ?_⟩) HHeld.out ?_
        · intro V hV; have hc0 := (cells5 hV.2.1).2.2.1; clear hV; go_simp
        try simp only [Act.put, List.setIfInBounds_toArray, List.set_cons_zero, List.set_cons_succ]
        refine wpAnyH_take (i := 6) (oi := { dst := some 33, op := Op.lookup 58 (Operand.tmp 30) (Operand.tmp 32) true, type := 74, pos := "held.go:24", after := #[{ on := 3, ground := Ground.data }, { on := 5, ground := Ground.data }], guard := none }) (v := (.tuple #[.int .i64 0, .bool false] : Value)) rfl (by kernel_rfl) (by kernel_rfl) (by kernel_rfl) (fun _ _ _ h => h) (Or.inl ⟨by rfl, ?_⟩) HHeld.out ?_
        · intro V hV; have hc0 := mlook_none V 58 3 p 0 2 (.int .i64 0) true Tryd.underlying58 hV.2.2 (Z3.out V); clear hV; go_simp
        try simp only [Act.put, List.setIfInBounds_toArray, List.set_cons_zero, List.set_cons_succ]
        refine wpAnyH_take (i := 7) (oi := { dst := some 26, op := Op.move (Operand.tmp 33), type := 74, pos := "held.go:24", after := #[{ on := 6, ground := Ground.data }], guard := none }) (v := ?_) rfl (by kernel_rfl) (by kernel_rfl) (by kernel_rfl) (fun _ _ _ h => h) (Or.inl ⟨by rfl, ?_⟩) HHeld.out ?_
        rotate_left
        · intro w hSw; clear hSw; go_simp; try with_reducible rfl
        try simp only [Act.put, List.setIfInBounds_toArray, List.set_cons_zero, List.set_cons_succ]
        refine wpAnyH_take (i := 8) (oi := { dst := some 34, op := Op.extract (Operand.tmp 26) 0, type := 3, pos := "held.go:24", after := #[{ on := 7, ground := Ground.data }], guard := none }) (v := ?_) rfl (by kernel_rfl) (by kernel_rfl) (by kernel_rfl) (fun _ _ _ h => h) (Or.inl ⟨by rfl, ?_⟩) HHeld.out ?_
        rotate_left
        · intro w hSw; clear hSw; go_simp; try with_reducible rfl
        try simp only [Act.put, List.setIfInBounds_toArray, List.set_cons_zero, List.set_cons_succ]
        refine wpAnyH_take (i := 9) (oi := { dst := some 35, op := Op.extract (Operand.tmp 26) 1, type := 4, pos := "held.go:24", after := #[{ on := 7, ground := Ground.data }, { on := 10, ground := Ground.gcOnly Departure.lateStores }], guard := none }) (v := ?_) rfl (by kernel_rfl) (by kernel_rfl) (by kernel_rfl) (fun _ _ _ h => h) (Or.inl ⟨by rfl, ?_⟩) HHeld.out ?_
        rotate_left
        · intro w hSw; clear hSw; go_simp; try with_reducible rfl
        try simp only [Act.put, List.setIfInBounds_toArray, List.set_cons_zero, List.set_cons_succ]
        refine wpAnyH_take (i := 10) (oi := { dst := some 7, op := Op.assign (Operand.tmp 34), type := 3, pos := "held.go:24", after := #[{ on := 8, ground := Ground.data }, { on := 0, ground := Ground.phase }, { on := 1, ground := Ground.phase }, { on := 2, ground := Ground.phase }, { on := 3, ground := Ground.phase }, { on := 4, ground := Ground.phase }, { on := 5, ground := Ground.phase }, { on := 6, ground := Ground.phase }, { on := 7, ground := Ground.phase }, { on := 8, ground := Ground.phase }, { on := 9, ground := Ground.textOnly Departure.lateStores }], guard := none }) (v := ?_) rfl (by kernel_rfl) (by kernel_rfl) (by kernel_rfl) (fun _ _ _ h => h) (Or.inl ⟨by rfl, ?_⟩) HHeld.out ?_
        rotate_left
        · intro w hSw; clear hSw; go_simp; try with_reducible rfl
        try simp only [Act.put, List.setIfInBounds_toArray, List.set_cons_zero, List.set_cons_succ]
        refine wpAnyH_take (i := 11) (oi := { dst := some 8, op := Op.assign (Operand.tmp 35), type := 4, pos := "held.go:24", after := #[{ on := 9, ground := Ground.data }, { on := 10, ground := Ground.chain }, { on := 0, ground := Ground.phase }, { on := 1, ground := Ground.phase }, { on := 2, ground := Ground.phase }, { on := 3, ground := Ground.phase }, { on := 4, ground := Ground.phase }, { on := 5, ground := Ground.phase }, { on := 6, ground := Ground.phase }, { on := 7, ground := Ground.phase }, { on := 8, ground := Ground.phase }, { on := 9, ground := Ground.phase }, { on := 10, ground := Ground.phase }], guard := none }) (v := ?_) rfl (by kernel_rfl) (by kernel_rfl) (by kernel_rfl) (fun _ _ _ h => h) (Or.inl ⟨by rfl, ?_⟩) HHeld.out ?_
        rotate_left
        · intro w hSw; clear hSw; go_simp; try with_reducible rfl
        try simp only [Act.put, List.setIfInBounds_toArray, List.set_cons_zero, List.set_cons_succ]
        refine wpAnyH_done (by kernel_rfl) ?_ _
        clear HHeld
        go_upto_region 10 with fail
        refine wp_region_held_drew (S := (fun V : World => V.heap[g]? = some (.cells #[.map (some p), .map (some q)] 73) ∧ V.heap[wr.heap.size]? = some (MO x0))) (by kernel_rfl) ?_ (fun hHeld => ?_)
        · exact ⟨QG.out, QM.out⟩
        have HHeld := Lib.hid hHeld; clear hHeld
        refine wpAnyH_take (i := 0) (oi := { dst := some 43, op := Op.move (Operand.tmp 4), type := 70, pos := "held.go:27", after := #[], guard := none }) (v := ?_) rfl (by kernel_rfl) (by kernel_rfl) (by kernel_rfl) (fun _ _ _ h => h) (Or.inl ⟨by rfl, ?_⟩) HHeld.out ?_
        rotate_left
        · intro w hSw; clear hSw; go_simp; try with_reducible rfl
        try simp only [Act.put, List.setIfInBounds_toArray, List.set_cons_zero, List.set_cons_succ]
        refine wpAnyH_take (i := 1) (oi := { dst := some 44, op := Op.nilCheck (Operand.tmp 43), type := 0, pos := "held.go:27", after := #[{ on := 0, ground := Ground.data }], guard := none }) (v := ?_) rfl (by kernel_rfl) (by kernel_rfl) (by kernel_rfl) (fun _ _ _ h => h) (Or.inl ⟨by rfl, ?_⟩) HHeld.out ?_
        rotate_left
        · intro w hSw; clear hSw; go_simp; try with_reducible rfl
        try simp only [Act.put, List.setIfInBounds_toArray, List.set_cons_zero, List.set_cons_succ]
        refine wpAnyH_take (i := 2) (oi := { dst := some 45, op := Op.fieldAddr 73 (Operand.tmp 44) 0, type := 0, pos := "held.go:27", after := #[{ on := 1, ground := Ground.data }], guard := none }) (v := ?_) rfl (by kernel_rfl) (by kernel_rfl) (by kernel_rfl) (fun _ _ _ h => h) (Or.inl ⟨by rfl, ?_⟩) HHeld.out ?_
        rotate_left
        · intro w hSw; clear hSw; go_simp; try with_reducible rfl
        try simp only [Act.put, List.setIfInBounds_toArray, List.set_cons_zero, List.set_cons_succ]
        refine wpAnyH_take (i := 3) (oi := { dst := some 46, op := Op.load 58 (Operand.tmp 45), type := 58, pos := "held.go:27", after := #[{ on := 2, ground := Ground.data }], guard := none }) (v := (.map (some p) : Value)) rfl (by kernel_rfl) (by kernel_rfl) (by kernel_rfl) (fun _ _ _ h => h) (Or.inl ⟨by rfl, ?_⟩) HHeld.out ?_
        · intro V hV; have hc0 := (has2 hV.1).1; clear hV; go_simp
        try simp only [Act.put, List.setIfInBounds_toArray, List.set_cons_zero, List.set_cons_succ]
        refine wpAnyH_take (i := 4) (oi := { dst := some 47, op := Op.fieldAddr 35 (Operand.tmp 6) 2, type := 0, pos := "held.go:27", after := #[], guard := none }) (v := ?_) rfl (by kernel_rfl) (by kernel_rfl) (by kernel_rfl) (fun _ _ _ h => h) (Or.inl ⟨by rfl, ?_⟩) HHeld.out ?_
        rotate_left
        · intro w hSw; clear hSw; go_simp; try with_reducible rfl
        try simp only [Act.put, List.setIfInBounds_toArray, List.set_cons_zero, List.set_cons_succ]
        refine wpAnyH_take (i := 5) (oi := { dst := some 48, op := Op.load 3 (Operand.tmp 47), type := 3, pos := "held.go:27", after := #[{ on := 4, ground := Ground.data }], guard := none }) (v := (.int .i64 2 : Value)) rfl (by kernel_rfl) (by kernel_rfl) (by kernel_rfl) (fun _ _ _ h => h) (Or.inl ⟨by rfl, ?_⟩) HHeld.out ?_
        · intro V hV; have hc0 := (cells5 hV.2).2.2.1; clear hV; go_simp
        try simp only [Act.put, List.setIfInBounds_toArray, List.set_cons_zero, List.set_cons_succ]
        refine wpAnyH_take (i := 6) (oi := { dst := some 49, op := Op.fieldAddr 35 (Operand.tmp 6) 0, type := 0, pos := "held.go:27", after := #[], guard := none }) (v := ?_) rfl (by kernel_rfl) (by kernel_rfl) (by kernel_rfl) (fun _ _ _ h => h) (Or.inl ⟨by rfl, ?_⟩) HHeld.out ?_
        rotate_left
        · intro w hSw; clear hSw; go_simp; try with_reducible rfl
        try simp only [Act.put, List.setIfInBounds_toArray, List.set_cons_zero, List.set_cons_succ]
        refine wpAnyH_take (i := 7) (oi := { dst := some 50, op := Op.load 3 (Operand.tmp 49), type := 3, pos := "held.go:27", after := #[{ on := 6, ground := Ground.data }], guard := none }) (v := (.int .i64 1 : Value)) rfl (by kernel_rfl) (by kernel_rfl) (by kernel_rfl) (fun _ _ _ h => h) (Or.inl ⟨by rfl, ?_⟩) HHeld.out ?_
        · intro V hV; have hc0 := (cells5 hV.2).1; clear hV; go_simp
        try simp only [Act.put, List.setIfInBounds_toArray, List.set_cons_zero, List.set_cons_succ]
        refine wpAnyH_ready (rs := [8]) (by kernel_rfl) (by simp) ?_
        refine AllReadyH.cons (o := { dst := none, op := Op.mapUpdate 58 (Operand.tmp 46) (Operand.tmp 48) (Operand.tmp 50), type := 0, pos := "held.go:27", after := #[{ on := 3, ground := Ground.data }, { on := 5, ground := Ground.data }, { on := 7, ground := Ground.data }, { on := 0, ground := Ground.phase }, { on := 1, ground := Ground.phase }, { on := 2, ground := Ground.phase }, { on := 3, ground := Ground.phase }, { on := 4, ground := Ground.phase }, { on := 5, ground := Ground.phase }, { on := 6, ground := Ground.phase }, { on := 7, ground := Ground.phase }], guard := none }) rfl (fun K hK => ?_) AllReadyH.nil
        refine step_mu _ (by rfl) 58 3 (.tmp 46) (.tmp 48) (.tmp 50) rfl Tryd.underlying58 p 0 2 (.int .i64 1) (by simp [Act.eval, Act.put]) (by simp [Act.eval, Act.put]) (by simp [Act.eval, Act.put]) (by exact QP.out) ?_
        intro W1 h1 h2 h3
        have U1 := Lib.hid h1
        have U2 := Lib.hid (h2 g _ HPQ.out.2.1.symm QG.out)
        have U3 := Lib.hid (h2 wr.heap.size _ (by have := LP.out; omega) QM.out)
        have U4 := Lib.hid (h2 q _ HPQ.out.1.symm QQ.out)
        have U5 := Lib.hid (h3 w.heap.size w (by exact BX.out.drew.drew) HP.out)
        clear h1 h2 h3
        refine hK.out _ _ ?_ (fun hHeld => ?_)
        · exact ⟨U2.out, U3.out⟩
        clear HHeld; have HHeld := Lib.hid hHeld; clear hHeld
        clear hK K
        try simp only [Act.put, List.setIfInBounds_toArray, List.set_cons_zero, List.set_cons_succ]
        refine wpAnyH_done (by kernel_rfl) ?_ _
        clear HHeld QG QM QP QQ c0 c1 c2 c3 c4 g0 g1 g2 g3 g4
        go_upto_region 11 with fail
        refine wp_region_held_drew (S := (fun V : World => V.heap[g]? = some (.cells #[.map (some p), .map (some q)] 73) ∧ V.heap[wr.heap.size]? = some (MO x0))) (by kernel_rfl) ?_ (fun hHeld => ?_)
        · exact ⟨U2.out, U3.out⟩
        have HHeld := Lib.hid hHeld; clear hHeld
        refine wpAnyH_take (i := 0) (oi := { dst := some 51, op := Op.move (Operand.tmp 4), type := 70, pos := "held.go:28", after := #[], guard := none }) (v := ?_) rfl (by kernel_rfl) (by kernel_rfl) (by kernel_rfl) (fun _ _ _ h => h) (Or.inl ⟨by rfl, ?_⟩) HHeld.out ?_
        rotate_left
        · intro w hSw; clear hSw; go_simp; try with_reducible rfl
        try simp only [Act.put, List.setIfInBounds_toArray, List.set_cons_zero, List.set_cons_succ]
        refine wpAnyH_take (i := 1) (oi := { dst := some 52, op := Op.nilCheck (Operand.tmp 51), type := 0, pos := "held.go:28", after := #[{ on := 0, ground := Ground.data }], guard := none }) (v := ?_) rfl (by kernel_rfl) (by kernel_rfl) (by kernel_rfl) (fun _ _ _ h => h) (Or.inl ⟨by rfl, ?_⟩) HHeld.out ?_
        rotate_left
        · intro w hSw; clear hSw; go_simp; try with_reducible rfl
        try simp only [Act.put, List.setIfInBounds_toArray, List.set_cons_zero, List.set_cons_succ]
        refine wpAnyH_take (i := 2) (oi := { dst := some 53, op := Op.fieldAddr 73 (Operand.tmp 52) 1, type := 0, pos := "held.go:28", after := #[{ on := 1, ground := Ground.data }], guard := none }) (v := ?_) rfl (by kernel_rfl) (by kernel_rfl) (by kernel_rfl) (fun _ _ _ h => h) (Or.inl ⟨by rfl, ?_⟩) HHeld.out ?_
        rotate_left
        · intro w hSw; clear hSw; go_simp; try with_reducible rfl
        try simp only [Act.put, List.setIfInBounds_toArray, List.set_cons_zero, List.set_cons_succ]
        refine wpAnyH_take (i := 3) (oi := { dst := some 54, op := Op.load 71 (Operand.tmp 53), type := 71, pos := "held.go:28", after := #[{ on := 2, ground := Ground.data }], guard := none }) (v := (.map (some q) : Value)) rfl (by kernel_rfl) (by kernel_rfl) (by kernel_rfl) (fun _ _ _ h => h) (Or.inl ⟨by rfl, ?_⟩) HHeld.out ?_
        · intro V hV; have hc0 := (has2 hV.1).2; clear hV; go_simp
        try simp only [Act.put, List.setIfInBounds_toArray, List.set_cons_zero, List.set_cons_succ]
        refine wpAnyH_take (i := 4) (oi := { dst := some 55, op := Op.fieldAddr 35 (Operand.tmp 6) 0, type := 0, pos := "held.go:28", after := #[], guard := none }) (v := ?_) rfl (by kernel_rfl) (by kernel_rfl) (by kernel_rfl) (fun _ _ _ h => h) (Or.inl ⟨by rfl, ?_⟩) HHeld.out ?_
        rotate_left
        · intro w hSw; clear hSw; go_simp; try with_reducible rfl
        try simp only [Act.put, List.setIfInBounds_toArray, List.set_cons_zero, List.set_cons_succ]
        refine wpAnyH_take (i := 5) (oi := { dst := some 56, op := Op.load 3 (Operand.tmp 55), type := 3, pos := "held.go:28", after := #[{ on := 4, ground := Ground.data }], guard := none }) (v := (.int .i64 1 : Value)) rfl (by kernel_rfl) (by kernel_rfl) (by kernel_rfl) (fun _ _ _ h => h) (Or.inl ⟨by rfl, ?_⟩) HHeld.out ?_
        · intro V hV; have hc0 := (cells5 hV.2).1; clear hV; go_simp
        try simp only [Act.put, List.setIfInBounds_toArray, List.set_cons_zero, List.set_cons_succ]
        refine wpAnyH_take (i := 6) (oi := { dst := some 57, op := Op.move (Operand.tmp 4), type := 70, pos := "held.go:28", after := #[], guard := none }) (v := ?_) rfl (by kernel_rfl) (by kernel_rfl) (by kernel_rfl) (fun _ _ _ h => h) (Or.inl ⟨by rfl, ?_⟩) HHeld.out ?_
        rotate_left
        · intro w hSw; clear hSw; go_simp; try with_reducible rfl
        try simp only [Act.put, List.setIfInBounds_toArray, List.set_cons_zero, List.set_cons_succ]
        refine wpAnyH_take (i := 7) (oi := { dst := some 58, op := Op.nilCheck (Operand.tmp 57), type := 0, pos := "held.go:28", after := #[{ on := 6, ground := Ground.data }], guard := none }) (v := ?_) rfl (by kernel_rfl) (by kernel_rfl) (by kernel_rfl) (fun _ _ _ h => h) (Or.inl ⟨by rfl, ?_⟩) HHeld.out ?_
        rotate_left
        · intro w hSw; clear hSw; go_simp; try with_reducible rfl
        try simp only [Act.put, List.setIfInBounds_toArray, List.set_cons_zero, List.set_cons_succ]
        refine wpAnyH_take (i := 8) (oi := { dst := some 59, op := Op.fieldAddr 73 (Operand.tmp 58) 1, type := 0, pos := "held.go:28", after := #[{ on := 7, ground := Ground.data }], guard := none }) (v := ?_) rfl (by kernel_rfl) (by kernel_rfl) (by kernel_rfl) (fun _ _ _ h => h) (Or.inl ⟨by rfl, ?_⟩) HHeld.out ?_
        rotate_left
        · intro w hSw; clear hSw; go_simp; try with_reducible rfl
        try simp only [Act.put, List.setIfInBounds_toArray, List.set_cons_zero, List.set_cons_succ]
        refine wpAnyH_take (i := 9) (oi := { dst := some 60, op := Op.load 71 (Operand.tmp 59), type := 71, pos := "held.go:28", after := #[{ on := 8, ground := Ground.data }], guard := none }) (v := (.map (some q) : Value)) rfl (by kernel_rfl) (by kernel_rfl) (by kernel_rfl) (fun _ _ _ h => h) (Or.inl ⟨by rfl, ?_⟩) HHeld.out ?_
        · intro V hV; have hc0 := (has2 hV.1).2; clear hV; go_simp
        try simp only [Act.put, List.setIfInBounds_toArray, List.set_cons_zero, List.set_cons_succ]
        refine wpAnyH_take (i := 10) (oi := { dst := some 61, op := Op.fieldAddr 35 (Operand.tmp 6) 0, type := 0, pos := "held.go:28", after := #[], guard := none }) (v := ?_) rfl (by kernel_rfl) (by kernel_rfl) (by kernel_rfl) (fun _ _ _ h => h) (Or.inl ⟨by rfl, ?_⟩) HHeld.out ?_
        rotate_left
        · intro w hSw; clear hSw; go_simp; try with_reducible rfl
        try simp only [Act.put, List.setIfInBounds_toArray, List.set_cons_zero, List.set_cons_succ]
        refine wpAnyH_take (i := 11) (oi := { dst := some 62, op := Op.load 3 (Operand.tmp 61), type := 3, pos := "held.go:28", after := #[{ on := 10, ground := Ground.data }], guard := none }) (v := (.int .i64 1 : Value)) rfl (by kernel_rfl) (by kernel_rfl) (by kernel_rfl) (fun _ _ _ h => h) (Or.inl ⟨by rfl, ?_⟩) HHeld.out ?_
        · intro V hV; have hc0 := (cells5 hV.2).1; clear hV; go_simp
        try simp only [Act.put, List.setIfInBounds_toArray, List.set_cons_zero, List.set_cons_succ]
        refine wpAnyH_take (i := 13) (oi := { dst := some 64, op := Op.fieldAddr 35 (Operand.tmp 6) 2, type := 0, pos := "held.go:28", after := #[], guard := none }) (v := ?_) rfl (by kernel_rfl) (by kernel_rfl) (by kernel_rfl) (fun _ _ _ h => h) (Or.inl ⟨by rfl, ?_⟩) HHeld.out ?_
        rotate_left
        · intro w hSw; clear hSw; go_simp; try with_reducible rfl
        try simp only [Act.put, List.setIfInBounds_toArray, List.set_cons_zero, List.set_cons_succ]
        refine wpAnyH_take (i := 14) (oi := { dst := some 65, op := Op.load 3 (Operand.tmp 64), type := 3, pos := "held.go:28", after := #[{ on := 13, ground := Ground.data }], guard := none }) (v := (.int .i64 2 : Value)) rfl (by kernel_rfl) (by kernel_rfl) (by kernel_rfl) (fun _ _ _ h => h) (Or.inl ⟨by rfl, ?_⟩) HHeld.out ?_
        · intro V hV; have hc0 := (cells5 hV.2).2.2.1; clear hV; go_simp
        try simp only [Act.put, List.setIfInBounds_toArray, List.set_cons_zero, List.set_cons_succ]
        refine wpAnyH_ready (rs := [12, 15]) (by kernel_rfl) (by simp) ?_
        refine AllReadyH.cons (o := { dst := some 63, op := Op.lookup 71 (Operand.tmp 60) (Operand.tmp 62) false, type := 39, pos := "held.go:28", after := #[{ on := 9, ground := Ground.data }, { on := 11, ground := Ground.data }], guard := none }) rfl (fun K hK => ?_) (AllReadyH.cons (o := { dst := some 66, op := Op.buildSlice 39 1 #[(0, Operand.tmp 65)], type := 39, pos := "held.go:28", after := #[{ on := 14, ground := Ground.data }], guard := none }) rfl (fun K hK => ?_) AllReadyH.nil)
        · refine step_lk _ (by rfl) 71 39 (.tmp 60) (.tmp 62) rfl Tryd.underlying71 q 0 1 (.slice none 0 0) (by simp [Act.eval, Act.put]) (by simp [Act.eval, Act.put]) (by exact U4.out) (Z39.out _) ?_
          refine hK.out _ _ ?_ (fun hHeld => ?_)
          · exact ⟨U2.out, U3.out⟩
          clear HHeld; have HHeld := Lib.hid hHeld; clear hHeld
          clear hK K
          try simp only [Act.put, List.setIfInBounds_toArray, List.set_cons_zero, List.set_cons_succ]
          refine wpAnyH_ready (rs := [15]) (by kernel_rfl) (by simp) ?_
          refine AllReadyH.cons (o := { dst := some 66, op := Op.buildSlice 39 1 #[(0, Operand.tmp 65)], type := 39, pos := "held.go:28", after := #[{ on := 14, ground := Ground.data }], guard := none }) rfl (fun K hK => ?_) AllReadyH.nil
          go_simp
          have V1 := Lib.hid (keep_bel (alb W1.drew (.cells #[.int .i64 2] 3)) (by exact U2.out))
          have V2 := Lib.hid (keep_bel (alb W1.drew (.cells #[.int .i64 2] 3)) (by exact U3.out))
          have V3 := Lib.hid (keep_bel (alb W1.drew (.cells #[.int .i64 2] 3)) (by exact U4.out))
          have V4 := Lib.hid (keep_bel (alb W1.drew (.cells #[.int .i64 2] 3)) (by exact U1.out))
          have V5 := Lib.hid (bel_alloc U5.out.drew (.cells #[.int .i64 2] 3))
          have RL := Lib.hid (RE.Rd.lit (E := EI) W1.drew 3 [2] #[.int .i64 2] rfl)
          refine hK.out _ _ ?_ (fun hHeld => ?_)
          · exact ⟨V1.out, V2.out⟩
          clear HHeld; have HHeld := Lib.hid hHeld; clear hHeld
          clear hK K
          try simp only [Act.put, List.setIfInBounds_toArray, List.set_cons_zero, List.set_cons_succ]
          refine wpAnyH_ready (rs := [16]) (by kernel_rfl) (by simp) ?_
          refine AllReadyH.cons (o := { dst := some 67, op := Op.call { callee := Callee.builtin Builtin.append, args := #[Operand.tmp 63, Operand.tmp 66], argTypes := #[39, 39] }, type := 39, pos := "held.go:28", after := #[{ on := 12, ground := Ground.data }, { on := 15, ground := Ground.data }], guard := none }) rfl (fun K hK => ?_) AllReadyH.nil
          refine step_putG EI _ (by rfl) (.tmp 63) (.tmp 66) rfl (base := (W1.drew.alloc (.cells #[.int .i64 2] 3)).heap.size) none 0 0 [] (some ⟨W1.heap.size, 0, none⟩) 1 1 [2] (by simp [Act.eval, Act.put]) (by simp [Act.eval, Act.put]) (.inl ⟨rfl, rfl⟩) rfl (by omega) (Nat.le_refl _) rfl (by omega) RL.out ?_
          intro A2 c2 W2 r1 r2
          have bW : Below (W1.drew.alloc (.cells #[.int .i64 2] 3)).heap.size (W1.drew.alloc (.cells #[.int .i64 2] 3)) W2 := RE.Row.below (E := EI) r2 (show EI.Row (W1.drew.alloc (.cells #[.int .i64 2] 3)) (W1.drew.alloc (.cells #[.int .i64 2] 3)).heap.size none [] 0 from .inl ⟨rfl, rfl⟩) (Nat.le_refl _) (Nat.le_refl _)
          have X1 := Lib.hid (keep_bel bW V1.out)
          have X2 := Lib.hid (keep_bel bW V2.out)
          have X3 := Lib.hid (keep_bel bW V3.out)
          have X4 := Lib.hid (keep_bel bW V4.out)
          have X5 := Lib.hid (bel_trans V5.out bW)
          clear r1 r2 bW
          refine hK.out _ _ ?_ (fun hHeld => ?_)
          · exact ⟨X1.out, X2.out⟩
          clear HHeld; have HHeld := Lib.hid hHeld; clear hHeld
          clear hK K
          try simp only [Act.put, List.setIfInBounds_toArray, List.set_cons_zero, List.set_cons_succ]
          refine wpAnyH_ready (rs := [17]) (by kernel_rfl) (by simp) ?_
          refine AllReadyH.cons (o := { dst := none, op := Op.mapUpdate 71 (Operand.tmp 54) (Operand.tmp 56) (Operand.tmp 67), type := 0, pos := "held.go:28", after := #[{ on := 3, ground := Ground.data }, { on := 5, ground := Ground.data }, { on := 16, ground := Ground.data }, { on := 16, ground := Ground.chain }, { on := 0, ground := Ground.phase }, { on := 1, ground := Ground.phase }, { on := 2, ground := Ground.phase }, { on := 3, ground := Ground.phase }, { on := 4, ground := Ground.phase }, { on := 5, ground := Ground.phase }, { on := 6, ground := Ground.phase }, { on := 7, ground := Ground.phase }, { on := 8, ground := Ground.phase }, { on := 9, ground := Ground.phase }, { on := 10, ground := Ground.phase }, { on := 11, ground := Ground.phase }, { on := 12, ground := Ground.phase }, { on := 13, ground := Ground.phase }, { on := 14, ground := Ground.phase }, { on := 15, ground := Ground.phase }, { on := 16, ground := Ground.phase }], guard := none }) rfl (fun K hK => ?_) AllReadyH.nil
          refine step_mu _ (by rfl) 71 39 (.tmp 54) (.tmp 56) (.tmp 67) rfl Tryd.underlying71 q 0 1 _ (by simp [Act.eval, Act.put]) (by simp [Act.eval, Act.put]) rfl (by exact X3.out) ?_
          intro W3 h1 h2 h3
          have Y1 := Lib.hid (h2 g _ HPQ.out.2.2.symm X1.out)
          have Y2 := Lib.hid (h2 p _ HPQ.out.1 X4.out)
          have Y3 := Lib.hid (h2 wr.heap.size _ (by have := LQ.out; omega) X2.out)
          have Y5 := Lib.hid (h3 w.heap.size w X5.out HQ.out)
          clear h1 h2 h3
          refine hK.out _ _ ?_ (fun hHeld => ?_)
          · exact ⟨Y1.out, Y3.out⟩
          clear HHeld; have HHeld := Lib.hid hHeld; clear hHeld
          clear hK K
          try simp only [Act.put, List.setIfInBounds_toArray, List.set_cons_zero, List.set_cons_succ]
          refine wpAnyH_done (by kernel_rfl) ?_ _
          clear HHeld
          go_wp2
          exact ⟨⟨1, by omega, rfl, fun h => absurd h (by omega), fun _ => ⟨Y2, Y1, Y5⟩⟩, by simp [intOf]⟩
        · go_simp
          have V1 := Lib.hid (keep_bel (alb W1.drew (.cells #[.int .i64 2] 3)) (by exact U2.out))
          have V2 := Lib.hid (keep_bel (alb W1.drew (.cells #[.int .i64 2] 3)) (by exact U3.out))
          have V3 := Lib.hid (keep_bel (alb W1.drew (.cells #[.int .i64 2] 3)) (by exact U4.out))
          have V4 := Lib.hid (keep_bel (alb W1.drew (.cells #[.int .i64 2] 3)) (by exact U1.out))
          have V5 := Lib.hid (bel_alloc U5.out.drew (.cells #[.int .i64 2] 3))
          have RL := Lib.hid (RE.Rd.lit (E := EI) W1.drew 3 [2] #[.int .i64 2] rfl)
          refine hK.out _ _ ?_ (fun hHeld => ?_)
          · exact ⟨V1.out, V2.out⟩
          clear HHeld; have HHeld := Lib.hid hHeld; clear hHeld
          clear hK K
          try simp only [Act.put, List.setIfInBounds_toArray, List.set_cons_zero, List.set_cons_succ]
          refine wpAnyH_ready (rs := [12]) (by kernel_rfl) (by simp) ?_
          refine AllReadyH.cons (o := { dst := some 63, op := Op.lookup 71 (Operand.tmp 60) (Operand.tmp 62) false, type := 39, pos := "held.go:28", after := #[{ on := 9, ground := Ground.data }, { on := 11, ground := Ground.data }], guard := none }) rfl (fun K hK => ?_) AllReadyH.nil
          refine step_lk _ (by rfl) 71 39 (.tmp 60) (.tmp 62) rfl Tryd.underlying71 q 0 1 (.slice none 0 0) (by simp [Act.eval, Act.put]) (by simp [Act.eval, Act.put]) (by exact V3.out) (Z39.out _) ?_
          refine hK.out _ _ ?_ (fun hHeld => ?_)
          · exact ⟨V1.out, V2.out⟩
          clear HHeld; have HHeld := Lib.hid hHeld; clear hHeld
          clear hK K
          try simp only [Act.put, List.setIfInBounds_toArray, List.set_cons_zero, List.set_cons_succ]
          refine wpAnyH_ready (rs := [16]) (by kernel_rfl) (by simp) ?_
          refine AllReadyH.cons (o := { dst := some 67, op := Op.call { callee := Callee.builtin Builtin.append, args := #[Operand.tmp 63, Operand.tmp 66], argTypes := #[39, 39] }, type := 39, pos := "held.go:28", after := #[{ on := 12, ground := Ground.data }, { on := 15, ground := Ground.data }], guard := none }) rfl (fun K hK => ?_) AllReadyH.nil
          refine step_putG EI _ (by rfl) (.tmp 63) (.tmp 66) rfl (base := (W1.drew.alloc (.cells #[.int .i64 2] 3)).heap.size) none 0 0 [] (some ⟨W1.heap.size, 0, none⟩) 1 1 [2] (by simp [Act.eval, Act.put]) (by simp [Act.eval, Act.put]) (.inl ⟨rfl, rfl⟩) rfl (by omega) (Nat.le_refl _) rfl (by omega) RL.out ?_
          intro A2 c2 W2 r1 r2
          have bW : Below (W1.drew.alloc (.cells #[.int .i64 2] 3)).heap.size (W1.drew.alloc (.cells #[.int .i64 2] 3)) W2 := RE.Row.below (E := EI) r2 (show EI.Row (W1.drew.alloc (.cells #[.int .i64 2] 3)) (W1.drew.alloc (.cells #[.int .i64 2] 3)).heap.size none [] 0 from .inl ⟨rfl, rfl⟩) (Nat.le_refl _) (Nat.le_refl _)
          have X1 := Lib.hid (keep_bel bW V1.out)
          have X2 := Lib.hid (keep_bel bW V2.out)
          have X3 := Lib.hid (keep_bel bW V3.out)
          have X4 := Lib.hid (keep_bel bW V4.out)
          have X5 := Lib.hid (bel_trans V5.out bW)
          clear r1 r2 bW
          refine hK.out _ _ ?_ (fun hHeld => ?_)
          · exact ⟨X1.out, X2.out⟩
          clear HHeld; have HHeld := Lib.hid hHeld; clear hHeld
          clear hK K
          try simp only [Act.put, List.setIfInBounds_toArray, List.set_cons_zero, List.set_cons_succ]
          refine wpAnyH_ready (rs := [17]) (by kernel_rfl) (by simp) ?_
          refine AllReadyH.cons (o := { dst := none, op := Op.mapUpdate 71 (Operand.tmp 54) (Operand.tmp 56) (Operand.tmp 67), type := 0, pos := "held.go:28", after := #[{ on := 3, ground := Ground.data }, { on := 5, ground := Ground.data }, { on := 16, ground := Ground.data }, { on := 16, ground := Ground.chain }, { on := 0, ground := Ground.phase }, { on := 1, ground := Ground.phase }, { on := 2, ground := Ground.phase }, { on := 3, ground := Ground.phase }, { on := 4, ground := Ground.phase }, { on := 5, ground := Ground.phase }, { on := 6, ground := Ground.phase }, { on := 7, ground := Ground.phase }, { on := 8, ground := Ground.phase }, { on := 9, ground := Ground.phase }, { on := 10, ground := Ground.phase }, { on := 11, ground := Ground.phase }, { on := 12, ground := Ground.phase }, { on := 13, ground := Ground.phase }, { on := 14, ground := Ground.phase }, { on := 15, ground := Ground.phase }, { on := 16, ground := Ground.phase }], guard := none }) rfl (fun K hK => ?_) AllReadyH.nil
          refine step_mu _ (by rfl) 71 39 (.tmp 54) (.tmp 56) (.tmp 67) rfl Tryd.underlying71 q 0 1 _ (by simp [Act.eval, Act.put]) (by simp [Act.eval, Act.put]) rfl (by exact X3.out) ?_
          intro W3 h1 h2 h3
          have Y1 := Lib.hid (h2 g _ HPQ.out.2.2.symm X1.out)
          have Y2 := Lib.hid (h2 p _ HPQ.out.1 X4.out)
          have Y3 := Lib.hid (h2 wr.heap.size _ (by have := LQ.out; omega) X2.out)
          have Y5 := Lib.hid (h3 w.heap.size w X5.out HQ.out)
          clear h1 h2 h3
          refine hK.out _ _ ?_ (fun hHeld => ?_)
          · exact ⟨Y1.out, Y3.out⟩
          clear HHeld; have HHeld := Lib.hid hHeld; clear hHeld
          clear hK K
          try simp only [Act.put, List.setIfInBounds_toArray, List.set_cons_zero, List.set_cons_succ]
          refine wpAnyH_done (by kernel_rfl) ?_ _
          clear HHeld
          go_wp2
          exact ⟨⟨1, by omega, rfl, fun h => absurd h (by omega), fun _ => ⟨Y2, Y1, Y5⟩⟩, by simp [intOf]⟩
end Go.Proofs.YtocbabckihcdmaaDoor
