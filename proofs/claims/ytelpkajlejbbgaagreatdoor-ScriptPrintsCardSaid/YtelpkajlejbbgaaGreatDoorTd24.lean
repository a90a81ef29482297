/- What catches a reader that gives up. -/
import Derived.Test.YtelpkajlejbbgaaGreatDoorTd01
import Derived.Test.YtelpkajlejbbgaaGreatDoorTd16
import Derived.Recover
import Derived.Defers
set_option linter.unusedVariables false
set_option linter.unusedSimpArgs false
namespace Go.Proofs.YtelpkajlejbbgaaGreatDoor
open Go.RowKit Go.Maps
set_option maxHeartbeats 1000000 in
set_option maxRecDepth 100000 in
theorem catch_idle (p q s : Addr) (w : World) :
    CallsD Tryz.prog 38 #[.pointer (some p), .pointer (some q), .pointer (some s)] .returning w fun e u' w' => e = .returned (.tuple #[]) ∧ u' = .returning ∧ w' = w := by
  refine callsD_of_wpS Tryz.func38 rfl fun c₀ cs hu => ?_
  apply wpS_seq
  apply wpS_region
  simp [wpOpsS, go_sem, recoverD, hu, Tryz.ntmps38, Exit.thenS]
  refine wpS_of_wp ?_
  change Code.wp Tryz.prog _ _ { tmps := #[.pointer (some p), .pointer (some q), .pointer (some s), undef, undef, undef, .nilIface, undef, undef, undef, undef, undef, undef, undef, undef, undef, undef], defers := [] } _
  go_wp2
  cases c₀
  simp_all [bodyPostS, results, Tryz.results38]
/-- The cells of a script, in a box. -/
abbrev scO (v0 v1 v2 v3 v4 v5 v6 v7 v8 v9 v10 : Value) : Obj := .cells #[v0, v1, v2, v3, v4, v5, v6, v7, v8, v9, v10] 27
theorem set11w {w : World} {g : Nat} {t : TypeId} {v0 v1 v2 v3 v4 v5 v6 v7 v8 v9 v10 : Value} (hz : w.heap[g]? = some (.cells #[v0, v1, v2, v3, v4, v5, v6, v7, v8, v9, v10] t (0, 0))) (u0 u1 u2 u3 u4 u5 u6 u7 u8 u9 u10 : Value) : (((((((((((w.setCell ⟨g, 0, none⟩ u0).setCell ⟨g, 1, none⟩ u1).setCell ⟨g, 2, none⟩ u2).setCell ⟨g, 3, none⟩ u3).setCell ⟨g, 4, none⟩ u4).setCell ⟨g, 5, none⟩ u5).setCell ⟨g, 6, none⟩ u6).setCell ⟨g, 7, none⟩ u7).setCell ⟨g, 8, none⟩ u8).setCell ⟨g, 9, none⟩ u9).setCell ⟨g, 10, none⟩ u10).heap[g]? = some (.cells #[u0, u1, u2, u3, u4, u5, u6, u7, u8, u9, u10] t (0, 0)) := by
  have z0 : (w.setCell ⟨g, 0, none⟩ u0).heap[g]? = some (.cells #[u0, v1, v2, v3, v4, v5, v6, v7, v8, v9, v10] t (0, 0)) := hset hz u0
  have z1 : ((w.setCell ⟨g, 0, none⟩ u0).setCell ⟨g, 1, none⟩ u1).heap[g]? = some (.cells #[u0, u1, v2, v3, v4, v5, v6, v7, v8, v9, v10] t (0, 0)) := hset z0 u1
  have z2 : (((w.setCell ⟨g, 0, none⟩ u0).setCell ⟨g, 1, none⟩ u1).setCell ⟨g, 2, none⟩ u2).heap[g]? = some (.cells #[u0, u1, u2, v3, v4, v5, v6, v7, v8, v9, v10] t (0, 0)) := hset z1 u2
  have z3 : ((((w.setCell ⟨g, 0, none⟩ u0).setCell ⟨g, 1, none⟩ u1).setCell ⟨g, 2, none⟩ u2).setCell ⟨g, 3, none⟩ u3).heap[g]? = some (.cells #[u0, u1, u2, u3, v4, v5, v6, v7, v8, v9, v10] t (0, 0)) := hset z2 u3
  have z4 : (((((w.setCell ⟨g, 0, none⟩ u0).setCell ⟨g, 1, none⟩ u1).setCell ⟨g, 2, none⟩ u2).setCell ⟨g, 3, none⟩ u3).setCell ⟨g, 4, none⟩ u4).heap[g]? = some (.cells #[u0, u1, u2, u3, u4, v5, v6, v7, v8, v9, v10] t (0, 0)) := hset z3 u4
  have z5 : ((((((w.setCell ⟨g, 0, none⟩ u0).setCell ⟨g, 1, none⟩ u1).setCell ⟨g, 2, none⟩ u2).setCell ⟨g, 3, none⟩ u3).setCell ⟨g, 4, none⟩ u4).setCell ⟨g, 5, none⟩ u5).heap[g]? = some (.cells #[u0, u1, u2, u3, u4, u5, v6, v7, v8, v9, v10] t (0, 0)) := hset z4 u5
  have z6 : (((((((w.setCell ⟨g, 0, none⟩ u0).setCell ⟨g, 1, none⟩ u1).setCell ⟨g, 2, none⟩ u2).setCell ⟨g, 3, none⟩ u3).setCell ⟨g, 4, none⟩ u4).setCell ⟨g, 5, none⟩ u5).setCell ⟨g, 6, none⟩ u6).heap[g]? = some (.cells #[u0, u1, u2, u3, u4, u5, u6, v7, v8, v9, v10] t (0, 0)) := hset z5 u6
  have z7 : ((((((((w.setCell ⟨g, 0, none⟩ u0).setCell ⟨g, 1, none⟩ u1).setCell ⟨g, 2, none⟩ u2).setCell ⟨g, 3, none⟩ u3).setCell ⟨g, 4, none⟩ u4).setCell ⟨g, 5, none⟩ u5).setCell ⟨g, 6, none⟩ u6).setCell ⟨g, 7, none⟩ u7).heap[g]? = some (.cells #[u0, u1, u2, u3, u4, u5, u6, u7, v8, v9, v10] t (0, 0)) := hset z6 u7
  have z8 : (((((((((w.setCell ⟨g, 0, none⟩ u0).setCell ⟨g, 1, none⟩ u1).setCell ⟨g, 2, none⟩ u2).setCell ⟨g, 3, none⟩ u3).setCell ⟨g, 4, none⟩ u4).setCell ⟨g, 5, none⟩ u5).setCell ⟨g, 6, none⟩ u6).setCell ⟨g, 7, none⟩ u7).setCell ⟨g, 8, none⟩ u8).heap[g]? = some (.cells #[u0, u1, u2, u3, u4, u5, u6, u7, u8, v9, v10] t (0, 0)) := hset z7 u8
  have z9 : ((((((((((w.setCell ⟨g, 0, none⟩ u0).setCell ⟨g, 1, none⟩ u1).setCell ⟨g, 2, none⟩ u2).setCell ⟨g, 3, none⟩ u3).setCell ⟨g, 4, none⟩ u4).setCell ⟨g, 5, none⟩ u5).setCell ⟨g, 6, none⟩ u6).setCell ⟨g, 7, none⟩ u7).setCell ⟨g, 8, none⟩ u8).setCell ⟨g, 9, none⟩ u9).heap[g]? = some (.cells #[u0, u1, u2, u3, u4, u5, u6, u7, u8, u9, v10] t (0, 0)) := hset z8 u9
  have z10 : (((((((((((w.setCell ⟨g, 0, none⟩ u0).setCell ⟨g, 1, none⟩ u1).setCell ⟨g, 2, none⟩ u2).setCell ⟨g, 3, none⟩ u3).setCell ⟨g, 4, none⟩ u4).setCell ⟨g, 5, none⟩ u5).setCell ⟨g, 6, none⟩ u6).setCell ⟨g, 7, none⟩ u7).setCell ⟨g, 8, none⟩ u8).setCell ⟨g, 9, none⟩ u9).setCell ⟨g, 10, none⟩ u10).heap[g]? = some (.cells #[u0, u1, u2, u3, u4, u5, u6, u7, u8, u9, u10] t (0, 0)) := hset z9 u10
  exact z10
theorem chg11 (w : World) (g : Nat) (u0 u1 u2 u3 u4 u5 u6 u7 u8 u9 u10 : Value) : Chg (fun x => x = g) w (((((((((((w.setCell ⟨g, 0, none⟩ u0).setCell ⟨g, 1, none⟩ u1).setCell ⟨g, 2, none⟩ u2).setCell ⟨g, 3, none⟩ u3).setCell ⟨g, 4, none⟩ u4).setCell ⟨g, 5, none⟩ u5).setCell ⟨g, 6, none⟩ u6).setCell ⟨g, 7, none⟩ u7).setCell ⟨g, 8, none⟩ u8).setCell ⟨g, 9, none⟩ u9).setCell ⟨g, 10, none⟩ u10) :=
  chg_one (chg_one (chg_one (chg_one (chg_one (chg_one (chg_one (chg_one (chg_one (chg_one (chg_one (Chg.refl _ _) _) _) _) _) _) _) _) _) _) _) _
theorem Chg.or {p : Nat} {D : Nat → Prop} {w w' : World} (h : Chg (fun x => x = p) w w') (hp : D p) : Chg D w w' := h.more (fun x e => .inl (by rw [e]; exact hp))
set_option maxHeartbeats 2000000 in
set_option maxRecDepth 100000 in
theorem catch_fault (p q s : Nat) (ln er : Int) (v0 v1 v2 v3 v4 v5 v6 v7 v8 v9 v10 l0 e0 : Value) (w : World) (hp : w.heap[p]? = some (scO v0 v1 v2 v3 v4 v5 v6 v7 v8 v9 v10)) (hq : w.heap[q]? = some (.cells #[l0] 3 (0, 0))) (hs : w.heap[s]? = some (.cells #[e0] 30 (0, 0))) (hpq : p ≠ q) (hps : p ≠ s) (hqs : q ≠ s) :
    CallsD Tryz.prog 38 #[.pointer (some ⟨p, 0, none⟩), .pointer (some ⟨q, 0, none⟩), .pointer (some ⟨s, 0, none⟩)] (.panicking [FP ln er]) w fun e u' w' => e = .returned (.tuple #[]) ∧ u' = .panicking [{ v := (FP ln er).v, recovered := true }] ∧ w'.heap[p]? = some (scO (.int .i64 0) (.int .i64 0) (.int .i64 0) (.int .i64 0) (.int .i64 0) (.int .i64 0) (.int .i64 0) (.int .i64 0) (.int .i64 0) (.slice none 0 0) (.slice none 0 0)) ∧ w'.heap[q]? = some (.cells #[.int .i64 ln] 3 (0, 0)) ∧ w'.heap[s]? = some (.cells #[.int .i64 er] 30 (0, 0)) ∧ Chg (fun x => x = p ∨ x = q ∨ x = s) w w' := by
  have hpl := heap_lt hp
  have hql := heap_lt hq
  have hsl := heap_lt hs
  have HN := Lib.hid (show ¬ w.heap.size = p ∧ ¬ w.heap.size = q ∧ ¬ w.heap.size = s ∧ p ≠ q ∧ p ≠ s ∧ q ≠ s from ⟨by omega, by omega, by omega, hpq, hps, hqs⟩)
  obtain ⟨W0, hW0⟩ : ∃ W0, W0 = w.alloc (.cells #[.int .i64 ln, .int .i64 er] 76) := ⟨_, rfl⟩
  have HB0 := Lib.hid (show Below w.heap.size w W0 by rw [hW0]; exact alb w _)
  have ZF := Lib.hid (show W0.heap[w.heap.size]? = some (.cells #[.int .i64 ln, .int .i64 er] 76) by rw [hW0]; exact heap_alloc_new w _)
  have ZP := Lib.hid (keep_bel HB0.out hp)
  have ZQ := Lib.hid (keep_bel HB0.out hq)
  have ZS := Lib.hid (keep_bel HB0.out hs)
  clear hp hq hs hpl hql hsl hpq hps hqs
  refine callsD_of_wpS Tryz.func38 rfl fun c₀ cs hu => ?_
  apply wpS_seq
  apply wpS_region
  simp [wpOpsS, go_sem, recoverD, hu, Tryz.ntmps38, Exit.thenS, FP]
  have hta : ∀ W, (Instr.typeAssert (.iface 76 (.agg #[.int .i64 ln, .int .i64 er])) 20 76 true).run Tryz.prog W = .ok (.tuple #[.agg #[.int .i64 ln, .int .i64 er], .bool true]) W := fun _ => by kernel_rfl
  refine wpS_of_wp ?_
  change Code.wp Tryz.prog _ _ { tmps := #[.pointer (some ⟨p, 0, none⟩), .pointer (some ⟨q, 0, none⟩), .pointer (some ⟨s, 0, none⟩), undef, undef, undef, .iface 76 (.agg #[.int .i64 ln, .int .i64 er]), undef, undef, undef, undef, undef, undef, undef, undef, undef, undef], defers := [] } _
  go_upto_region 7 with fail
  rw [← hW0]
  clear hW0 hta
  refine wp_region_held_drew (S := (fun V : World => V.heap[w.heap.size]? = some (.cells #[.int .i64 ln, .int .i64 er] 76))) (by kernel_rfl) ?_ (fun hHeld => ?_)
  · exact ZF.out
  have HHeld := Lib.hid hHeld; clear hHeld
  refine wT (i := 0) (oi := { dst := some 12, op := Op.build 27 #[], type := 27, pos := "parse.go:31", after := #[], guard := none }) (v := ?_) rfl (Or.inl ⟨by rfl, ?_⟩) HHeld.out ?_
  rotate_left
  · intro w hSw; clear hSw; go_simp; try with_reducible rfl
  try simp only [pu, pn, s1, s2, s3]
  refine wT (i := 1) (oi := { dst := some 13, op := Op.fieldAddr 76 (Operand.tmp 4) 0, type := 0, pos := "parse.go:31", after := #[{ on := 5, ground := Ground.gcOnly Departure.lateStores }], guard := none }) (v := ?_) rfl (Or.inl ⟨by rfl, ?_⟩) HHeld.out ?_
  rotate_left
  · intro w hSw; clear hSw; go_simp; try with_reducible rfl
  try simp only [pu, pn, s1, s2, s3]
  refine wT (i := 2) (oi := { dst := some 14, op := Op.load 3 (Operand.tmp 13), type := 3, pos := "parse.go:31", after := #[{ on := 1, ground := Ground.data }, { on := 5, ground := Ground.gcOnly Departure.lateStores }], guard := none }) (v := (.int .i64 ln : Value)) rfl (Or.inl ⟨by rfl, ?_⟩) HHeld.out ?_
  · intro V hV; have hc0 := cellh hV (i := 0) (v := .int .i64 ln) rfl; clear hV; go_simp
  try simp only [pu, pn, s1, s2, s3]
  refine wT (i := 3) (oi := { dst := some 15, op := Op.fieldAddr 76 (Operand.tmp 4) 1, type := 0, pos := "parse.go:31", after := #[{ on := 6, ground := Ground.gcOnly Departure.lateStores }], guard := none }) (v := ?_) rfl (Or.inl ⟨by rfl, ?_⟩) HHeld.out ?_
  rotate_left
  · intro w hSw; clear hSw; go_simp; try with_reducible rfl
  try simp only [pu, pn, s1, s2, s3]
  refine wT (i := 4) (oi := { dst := some 16, op := Op.load 30 (Operand.tmp 15), type := 30, pos := "parse.go:31", after := #[{ on := 3, ground := Ground.data }, { on := 6, ground := Ground.gcOnly Departure.lateStores }], guard := none }) (v := (.int .i64 er : Value)) rfl (Or.inl ⟨by rfl, ?_⟩) HHeld.out ?_
  · intro V hV; have hc0 := cellh hV (i := 1) (v := .int .i64 er) rfl; clear hV; go_simp
  try simp only [pu, pn, s1, s2, s3]
  refine wpAnyH_ready (rs := [5]) (by kernel_rfl) (by simp) ?_
  refine AllReadyH.cons (o := { dst := none, op := Op.store 27 (Operand.tmp 0) (Operand.tmp 12), type := 0, pos := "parse.go:31", after := #[{ on := 0, ground := Ground.data }, { on := 0, ground := Ground.phase }, { on := 1, ground := Ground.textOnly Departure.lateStores }, { on := 2, ground := Ground.textOnly Departure.lateStores }, { on := 3, ground := Ground.textOnly Departure.lateStores }, { on := 4, ground := Ground.textOnly Departure.lateStores }], guard := none }) rfl (fun K hK => ?_) AllReadyH.nil
  have k0 := cellh ZP.out (i := 0) (v := v0) rfl
  have k1 := cellh ZP.out (i := 1) (v := v1) rfl
  have k2 := cellh ZP.out (i := 2) (v := v2) rfl
  have k3 := cellh ZP.out (i := 3) (v := v3) rfl
  have k4 := cellh ZP.out (i := 4) (v := v4) rfl
  have k5 := cellh ZP.out (i := 5) (v := v5) rfl
  have k6 := cellh ZP.out (i := 6) (v := v6) rfl
  have k7 := cellh ZP.out (i := 7) (v := v7) rfl
  have k8 := cellh ZP.out (i := 8) (v := v8) rfl
  have k9 := cellh ZP.out (i := 9) (v := v9) rfl
  have k10 := cellh ZP.out (i := 10) (v := v10) rfl
  have f0 : W0.frozen? ⟨p, 0, none⟩ = false := froh ZP.out
  have f1 : W0.frozen? ⟨p, 1, none⟩ = false := froh ZP.out
  have f2 : W0.frozen? ⟨p, 2, none⟩ = false := froh ZP.out
  have f3 : W0.frozen? ⟨p, 3, none⟩ = false := froh ZP.out
  have f4 : W0.frozen? ⟨p, 4, none⟩ = false := froh ZP.out
  have f5 : W0.frozen? ⟨p, 5, none⟩ = false := froh ZP.out
  have f6 : W0.frozen? ⟨p, 6, none⟩ = false := froh ZP.out
  have f7 : W0.frozen? ⟨p, 7, none⟩ = false := froh ZP.out
  have f8 : W0.frozen? ⟨p, 8, none⟩ = false := froh ZP.out
  have f9 : W0.frozen? ⟨p, 9, none⟩ = false := froh ZP.out
  have f10 : W0.frozen? ⟨p, 10, none⟩ = false := froh ZP.out
  go_simp
  clear k0 f0 k1 f1 k2 f2 k3 f3 k4 f4 k5 f5 k6 f6 k7 f7 k8 f8 k9 f9 k10 f10
  have X1 := Lib.hid (set11w ZP.out (.int .i64 0) (.int .i64 0) (.int .i64 0) (.int .i64 0) (.int .i64 0) (.int .i64 0) (.int .i64 0) (.int .i64 0) (.int .i64 0) (.slice none 0 0) (.slice none 0 0))
  have C1 := Lib.hid (chg11 W0 p (.int .i64 0) (.int .i64 0) (.int .i64 0) (.int .i64 0) (.int .i64 0) (.int .i64 0) (.int .i64 0) (.int .i64 0) (.int .i64 0) (.slice none 0 0) (.slice none 0 0))
  obtain ⟨W1, hW1⟩ : ∃ W1, W1 = (((((((((((W0.setCell ⟨p, 0, none⟩ (.int .i64 0)).setCell ⟨p, 1, none⟩ (.int .i64 0)).setCell ⟨p, 2, none⟩ (.int .i64 0)).setCell ⟨p, 3, none⟩ (.int .i64 0)).setCell ⟨p, 4, none⟩ (.int .i64 0)).setCell ⟨p, 5, none⟩ (.int .i64 0)).setCell ⟨p, 6, none⟩ (.int .i64 0)).setCell ⟨p, 7, none⟩ (.int .i64 0)).setCell ⟨p, 8, none⟩ (.int .i64 0)).setCell ⟨p, 9, none⟩ (.slice none 0 0)).setCell ⟨p, 10, none⟩ (.slice none 0 0)) := ⟨_, rfl⟩
  rw [← hW1] at X1 C1 ⊢
  clear hW1
  have F1 := Lib.hid (C1.out.keep ZF.out HN.out.1)
  have Q1 := Lib.hid (C1.out.keep ZQ.out (fun e => HN.out.2.2.2.1 e.symm))
  have S1 := Lib.hid (C1.out.keep ZS.out (fun e => HN.out.2.2.2.2.1 e.symm))
  refine hK.out _ _ ?_ (fun hHeld => ?_)
  · exact F1.out
  clear HHeld; have HHeld := Lib.hid hHeld; clear hHeld
  clear hK K
  try simp only [pu, pn, s1, s2, s3]
  refine wpAnyH_ready (rs := [6]) (by kernel_rfl) (by simp) ?_
  refine AllReadyH.cons (o := { dst := none, op := Op.store 3 (Operand.tmp 1) (Operand.tmp 14), type := 0, pos := "parse.go:31", after := #[{ on := 2, ground := Ground.data }, { on := 5, ground := Ground.chain }, { on := 0, ground := Ground.phase }, { on := 1, ground := Ground.phase }, { on := 2, ground := Ground.phase }, { on := 3, ground := Ground.textOnly Departure.lateStores }, { on := 4, ground := Ground.textOnly Departure.lateStores }, { on := 5, ground := Ground.phase }], guard := none }) rfl (fun K hK => ?_) AllReadyH.nil
  have k0 := cellh Q1.out (i := 0) (v := l0) rfl
  have f0 : W1.frozen? ⟨q, 0, none⟩ = false := froh Q1.out
  go_simp
  clear k0 f0
  have Q2 := Lib.hid (hset (i := 0) Q1.out (.int .i64 ln))
  have C2 := Lib.hid (Chg.set (D := fun x => x = q) W1 (l := q) (o := 0) (.int .i64 ln) rfl)
  obtain ⟨W2, hW2⟩ : ∃ W2, W2 = W1.setCell ⟨q, 0, none⟩ (.int .i64 ln) := ⟨_, rfl⟩
  rw [← hW2] at Q2 C2 ⊢
  clear hW2
  have F2 := Lib.hid (C2.out.keep F1.out HN.out.2.1)
  have X2 := Lib.hid (C2.out.keep X1.out HN.out.2.2.2.1)
  have S2 := Lib.hid (C2.out.keep S1.out (fun e => HN.out.2.2.2.2.2 e.symm))
  refine hK.out _ _ ?_ (fun hHeld => ?_)
  · exact F2.out
  clear HHeld; have HHeld := Lib.hid hHeld; clear hHeld
  clear hK K
  try simp only [pu, pn, s1, s2, s3]
  refine wpAnyH_ready (rs := [7]) (by kernel_rfl) (by simp) ?_
  refine AllReadyH.cons (o := { dst := none, op := Op.store 30 (Operand.tmp 2) (Operand.tmp 16), type := 0, pos := "parse.go:31", after := #[{ on := 4, ground := Ground.data }, { on := 6, ground := Ground.chain }, { on := 0, ground := Ground.phase }, { on := 1, ground := Ground.phase }, { on := 2, ground := Ground.phase }, { on := 3, ground := Ground.phase }, { on := 4, ground := Ground.phase }, { on := 5, ground := Ground.phase }, { on := 6, ground := Ground.phase }], guard := none }) rfl (fun K hK => ?_) AllReadyH.nil
  have k0 := cellh S2.out (i := 0) (v := e0) rfl
  have f0 : W2.frozen? ⟨s, 0, none⟩ = false := froh S2.out
  go_simp
  clear k0 f0
  have S3 := Lib.hid (hset (i := 0) S2.out (.int .i64 er))
  have C3 := Lib.hid (Chg.set (D := fun x => x = s) W2 (l := s) (o := 0) (.int .i64 er) rfl)
  obtain ⟨W3, hW3⟩ : ∃ W3, W3 = W2.setCell ⟨s, 0, none⟩ (.int .i64 er) := ⟨_, rfl⟩
  rw [← hW3] at S3 C3 ⊢
  clear hW3
  have F3 := Lib.hid (C3.out.keep F2.out HN.out.2.2.1)
  have X3 := Lib.hid (C3.out.keep X2.out HN.out.2.2.2.2.1)
  have Q3 := Lib.hid (C3.out.keep Q2.out HN.out.2.2.2.2.2)
  refine hK.out _ _ ?_ (fun hHeld => ?_)
  · exact F3.out
  clear HHeld; have HHeld := Lib.hid hHeld; clear hHeld
  clear hK K
  try simp only [pu, pn, s1, s2, s3]
  refine wpAnyH_done (by kernel_rfl) ?_ _
  clear HHeld
  go_wp2
  cases c₀
  refine ⟨rfl, _, rfl, _, ?_, rfl, ?_, X3.out, Q3.out, S3.out, ?_⟩
  · simp [results, Tryz.results38, go_sem]
  · simp_all
  · exact ((Chg.of_below (D := fun x => x = p ∨ x = q ∨ x = s) HB0.out).then (Chg.or (D := fun x => x = p ∨ x = q ∨ x = s) C1.out (.inl rfl))).then ((Chg.or (D := fun x => x = p ∨ x = q ∨ x = s) C2.out (.inr (.inl rfl))).then (Chg.or (D := fun x => x = p ∨ x = q ∨ x = s) C3.out.drew (.inr (.inr rfl))))
end Go.Proofs.YtelpkajlejbbgaaGreatDoor
