/- A deed on both; do both tell the same? -/
import Derived.Test.YtlffigkjhhcohaaS1
import Derived.Test.YtlffigkjhhcohaaS2
import Derived.Test.YtlffigkjhhcohaaS3
import Derived.Test.YtlffigkjhhcohaaS4
import Derived.Test.YtlffigkjhhcohaaS5
namespace Go.Proofs.Ytlffigkjhhcohaa
set_option linter.unusedSimpArgs false
open Go.RowKit Go.Maps
set_option linter.unusedVariables false

/-- What a deed makes of a book. -/
def stepR (b : RB) (d who n : Int) : RB := if d = 0 then enterR b who else if d = 1 then leaveR b who else if d = 2 then retireR b n else if d = 3 then readyR b (nR b) else b
theorem step_any {c lo N : Nat} {K : Nat → Prop} {b : RB} {w : World} {cs : Array Value} (h : ST c lo N K b b w cs) (hc : c ≤ 900) (hlo : lo ≤ w.heap.size) {d who n : Int} (hw : (Lit.int .i64 who).wf = true) (hn : (Lit.int .i64 n).wf = true) :
    Calls Try.prog 9 #[.pointer (some ⟨N, 0, none⟩), .agg cs, .agg #[.int .i64 d, .int .i64 who, .int .i64 n]] w (SPost (c + 1) lo N K (stepR b d who n) w) := by
  unfold stepR
  by_cases e0 : d = 0
  · subst e0; rw [if_pos rfl]; exact step_0 h hc hlo hw
  · rw [if_neg e0]
    by_cases e1 : d = 1
    · subst e1; rw [if_pos rfl]; exact step_1 h hc hlo hw
    · rw [if_neg e1]
      by_cases e2 : d = 2
      · subst e2; rw [if_pos rfl]; exact step_2 h hc hlo hn
      · rw [if_neg e2]
        by_cases e3 : d = 3
        · subst e3; rw [if_pos rfl]; exact step_3 h hc hlo
        · rw [if_neg e3]; exact step_4 h hc hlo e0 e1 e2 e3 hw
theorem ST.cells {c lo N : Nat} {K : Nat → Prop} {b b' : RB} {w : World} {cs : Array Value} (h : ST c lo N K b b' w cs) : cs[1]? = some (.int .i64 b'.now) ∧ ∃ A k, cs[132]? = some (.slice A b'.wl.length k) ∧ RdI w A b'.wl := by
  obtain ⟨M, A1, A2, k1, k2, m, S, h1, h2, h3, h4, hK⟩ := h
  obtain ⟨A, k, h5, h6⟩ := h2.cw
  exact ⟨h2.c1, A, k, h5, h6.1⟩
theorem ST.wlen {c lo N : Nat} {K : Nat → Prop} {b b' : RB} {w : World} {cs : Array Value} (h : ST c lo N K b b' w cs) : b.wl.length ≤ c := by
  obtain ⟨M, A1, A2, k1, k2, m, S, h1, h2, h3, h4, hK⟩ := h
  exact h3.wl
set_option maxRecDepth 4000 in
set_option maxHeartbeats 1000000 in
theorem alike_any {c lo N : Nat} {K : Nat → Prop} {b : RB} {w : World} {cs : Array Value} (h : ST c lo N K b b w cs) (hc : c ≤ 900) :
    Calls Try.prog 10 #[.pointer (some ⟨N, 0, none⟩), .agg cs] w fun e w' => e = .returned (.bool true) ∧ Below w.heap.size w w' := by
  have H := Lib.hid h
  obtain ⟨k1, A, q, kw, hr⟩ := h.cells
  have HR := Lib.hid hr
  have HX : Hid ((w.alloc (.cells cs 32)).heap[w.heap.size]? = some (.cells cs 32 (0, 0))) := Lib.hid (heap_alloc_new w _)
  have e1 : (w.alloc (.cells cs 32)).cell? ⟨w.heap.size, 1, none⟩ = some (.int .i64 b.now) := (box_cell w cs 32 1).trans k1
  have HB : Hid (Below w.heap.size w (w.alloc (.cells cs 32))) := Lib.hid (al_below w _)
  clear h hr
  go_enter Try.func10, Try.ntmps10
  go_wp2_with fail
  have B0 : Hid (Below w.heap.size w (w.alloc (.cells cs 32)).drew) := Lib.hid (bel_dw HB.out)
  have H0 := Lib.hid (H.out.later B0.out)
  have X0 : Hid ((w.alloc (.cells cs 32)).drew.heap[w.heap.size]? = some (.cells cs 32 (0, 0))) := Lib.hid HX.out
  have WL := Lib.hid H.out.wlen
  have ZS := Lib.hid H.out.size
  obtain ⟨g, hg⟩ : ∃ g, g = leastR b 64 := ⟨_, rfl⟩
  have CL : Hid (∀ V, ST c lo N K b b V cs → Calls Try.prog 23 #[.pointer (some ⟨N, 0, none⟩)] V fun e w' => e = .returned (.int .i64 g) ∧ Below V.heap.size V w') := Lib.hid (fun V h => by rw [hg]; exact q_least h)
  have DL : Hid (∀ V, ST c lo N K b b V cs → Calls Try.prog 28 #[.agg cs] V fun e w' => e = .returned (.int .i64 g) ∧ Below V.heap.size V w') := Lib.hid (fun V h => by rw [hg]; exact d_least h)
  clear hg e1
  refine wp_region_held_drew (S := (fun V => V.heap[w.heap.size]? = some (.cells cs 32 (0, 0)))) (by kernel_rfl) ?_ (fun hHeld => ?_)
  · exact X0.out
  refine wpAnyH_take (i := 0) (oi := { dst := some 5, op := Op.move (Operand.tmp 0), type := 23, pos := "law.go:45", after := #[], guard := none }) (v := ?_) rfl (by kernel_rfl) (by kernel_rfl) (by kernel_rfl) (fun _ _ _ h => h) (Or.inl ⟨by rfl, ?_⟩) hHeld ?_
  rotate_left
  · intro w hSw; clear hSw; go_simp; try with_reducible rfl
  try simp only [Act.put, List.setIfInBounds_toArray, List.set_cons_zero, List.set_cons_succ]
  refine wpAnyH_take (i := 2) (oi := { dst := some 7, op := Op.fieldAddr 32 (Operand.tmp 3) 1, type := 0, pos := "law.go:45", after := #[], guard := none }) (v := ?_) rfl (by kernel_rfl) (by kernel_rfl) (by kernel_rfl) (fun _ _ _ h => h) (Or.inl ⟨by rfl, ?_⟩) hHeld ?_
  rotate_left
  · intro w hSw; clear hSw; go_simp; try with_reducible rfl
  try simp only [Act.put, List.setIfInBounds_toArray, List.set_cons_zero, List.set_cons_succ]
  refine wpAnyH_take (i := 3) (oi := { dst := some 8, op := Op.load 3 (Operand.tmp 7), type := 3, pos := "law.go:45", after := #[{ on := 2, ground := Ground.data }], guard := none }) (v := Value.int .i64 b.now) rfl (by kernel_rfl) (by kernel_rfl) (by kernel_rfl) (fun _ _ _ h => h) (Or.inl ⟨by rfl, ?_⟩) hHeld ?_
  · intro V hV; have hc := (cell_of_row _ _ 1 _ _ _ hV).trans k1; clear hV; go_simp
  try simp only [Act.put, List.setIfInBounds_toArray, List.set_cons_zero, List.set_cons_succ]
  refine wpAnyH_ready (rs := [1]) (by kernel_rfl) (by simp) ?_
  refine AllReadyH.cons (o := { dst := some 6, op := Op.call { callee := Callee.value (Operand.func 24), args := #[Operand.tmp 5], argTypes := #[23] }, type := 3, pos := "law.go:45", after := #[{ on := 0, ground := Ground.data }], guard := none }) rfl (fun K hK => ?_) AllReadyH.nil
  go_simp
  go_at_call 24; ((with_reducible refine (q_now H0.out).mono ?_); rintro e w1 ⟨rfl, b1⟩; have H1 := Lib.hid (H0.out.later b1); have X1 := Lib.hid (blk_bel b1 X0.out); have B1 : Hid (Below w.heap.size w w1) := Lib.hid (B0.out.trans (b1.mono B0.out.size)); clear b1)
  try go_wp2_with fail
  refine hK.out _ _ ?_ (fun hHeld => ?_)
  · exact X1.out
  clear hK K
  try simp only [Act.put, List.setIfInBounds_toArray, List.set_cons_zero, List.set_cons_succ]
  refine wpAnyH_take (i := 4) (oi := { dst := some 9, op := Op.binOp BinOp.eql 3 (Operand.tmp 6) (Operand.tmp 8) 3, type := 4, pos := "law.go:45", after := #[{ on := 1, ground := Ground.data }, { on := 3, ground := Ground.data }], guard := none }) (v := ?_) rfl (by kernel_rfl) (by kernel_rfl) (by kernel_rfl) (fun _ _ _ h => h) (Or.inl ⟨by rfl, ?_⟩) hHeld ?_
  rotate_left
  · intro w hSw; clear hSw; go_simp; try with_reducible rfl
  try simp only [Act.put, List.setIfInBounds_toArray, List.set_cons_zero, List.set_cons_succ]
  refine wpAnyH_take (i := 5) (oi := { dst := some 10, op := Op.move (Operand.tmp 9), type := 4, pos := "law.go:45", after := #[{ on := 4, ground := Ground.data }, { on := 1, ground := Ground.chain }], guard := none }) (v := ?_) rfl (by kernel_rfl) (by kernel_rfl) (by kernel_rfl) (fun _ _ _ h => h) (Or.inl ⟨by rfl, ?_⟩) hHeld ?_
  rotate_left
  · intro w hSw; clear hSw; go_simp; try with_reducible rfl
  try simp only [Act.put, List.setIfInBounds_toArray, List.set_cons_zero, List.set_cons_succ]
  refine wpAnyH_take (i := 6) (oi := { dst := some 11, op := Op.move (Operand.tmp 0), type := 23, pos := "law.go:45", after := #[{ on := 5, ground := Ground.guard }], guard := some (5, true) }) (v := ?_) rfl (by kernel_rfl) (by kernel_rfl) (by kernel_rfl) (fun _ _ _ h => h) (Or.inl ⟨by rfl, ?_⟩) hHeld ?_
  rotate_left
  · intro w hSw; clear hSw; go_simp; try with_reducible rfl
  try simp only [Act.put, List.setIfInBounds_toArray, List.set_cons_zero, List.set_cons_succ]
  refine wpAnyH_take (i := 8) (oi := { dst := some 13, op := Op.load 32 (Operand.tmp 3), type := 32, pos := "law.go:45", after := #[{ on := 5, ground := Ground.guard }], guard := some (5, true) }) (v := Value.agg cs) rfl (by kernel_rfl) (by kernel_rfl) (by kernel_rfl) (fun _ _ _ h => h) (Or.inl ⟨by rfl, fun V hV => ex_load_row (.tmp 3) rfl w.heap.size rfl cs hV ZS.out⟩) hHeld ?_
  try simp only [Act.put, List.setIfInBounds_toArray, List.set_cons_zero, List.set_cons_succ]
  refine wpAnyH_ready (rs := [7]) (by kernel_rfl) (by simp) ?_
  refine AllReadyH.cons (o := { dst := some 12, op := Op.call { callee := Callee.value (Operand.func 23), args := #[Operand.tmp 11], argTypes := #[23] }, type := 3, pos := "law.go:45", after := #[{ on := 6, ground := Ground.data }, { on := 5, ground := Ground.chain }, { on := 5, ground := Ground.guard }], guard := some (5, true) }) rfl (fun K hK => ?_) AllReadyH.nil
  go_simp
  go_at_call 23; ((with_reducible refine (CL.out _ H1.out).mono ?_); rintro e w2 ⟨rfl, b2⟩; have H2 := Lib.hid (H1.out.later b2); have X2 := Lib.hid (blk_bel b2 X1.out); have B2 : Hid (Below w.heap.size w w2) := Lib.hid (B1.out.trans (b2.mono B1.out.size)); clear b2)
  try go_wp2_with fail
  refine hK.out _ _ ?_ (fun hHeld => ?_)
  · exact X2.out
  clear hK K
  try simp only [Act.put, List.setIfInBounds_toArray, List.set_cons_zero, List.set_cons_succ]
  refine wpAnyH_ready (rs := [9]) (by kernel_rfl) (by simp) ?_
  refine AllReadyH.cons (o := { dst := some 14, op := Op.call { callee := Callee.value (Operand.func 28), args := #[Operand.tmp 13], argTypes := #[32] }, type := 3, pos := "law.go:45", after := #[{ on := 8, ground := Ground.data }, { on := 7, ground := Ground.chain }, { on := 5, ground := Ground.guard }], guard := some (5, true) }) rfl (fun K hK => ?_) AllReadyH.nil
  go_simp
  go_at_call 28; ((with_reducible refine (DL.out _ H2.out).mono ?_); rintro e w3 ⟨rfl, b3⟩; have H3 := Lib.hid (H2.out.later b3); have X3 := Lib.hid (blk_bel b3 X2.out); have B3 : Hid (Below w.heap.size w w3) := Lib.hid (B2.out.trans (b3.mono B2.out.size)); clear b3)
  try go_wp2_with fail
  refine hK.out _ _ ?_ (fun hHeld => ?_)
  · exact X3.out
  clear hK K
  try simp only [Act.put, List.setIfInBounds_toArray, List.set_cons_zero, List.set_cons_succ]
  refine wpAnyH_take (i := 10) (oi := { dst := some 15, op := Op.binOp BinOp.eql 3 (Operand.tmp 12) (Operand.tmp 14) 3, type := 4, pos := "law.go:45", after := #[{ on := 7, ground := Ground.data }, { on := 9, ground := Ground.data }, { on := 5, ground := Ground.guard }], guard := some (5, true) }) (v := ?_) rfl (by kernel_rfl) (by kernel_rfl) (by kernel_rfl) (fun _ _ _ h => h) (Or.inl ⟨by rfl, ?_⟩) hHeld ?_
  rotate_left
  · intro w hSw; clear hSw; go_simp; try with_reducible rfl
  try simp only [Act.put, List.setIfInBounds_toArray, List.set_cons_zero, List.set_cons_succ]
  refine wpAnyH_take (i := 11) (oi := { dst := some 16, op := Op.pick (Operand.tmp 10) (Operand.tmp 15) (Operand.const (Value.bool false)), type := 4, pos := "law.go:45", after := #[{ on := 5, ground := Ground.data }, { on := 10, ground := Ground.data }], guard := none }) (v := ?_) rfl (by kernel_rfl) (by kernel_rfl) (by kernel_rfl) (fun _ _ _ h => h) (Or.inl ⟨by rfl, ?_⟩) hHeld ?_
  rotate_left
  · intro w hSw; clear hSw; go_simp; try with_reducible rfl
  try simp only [Act.put, List.setIfInBounds_toArray, List.set_cons_zero, List.set_cons_succ]
  refine wpAnyH_take (i := 12) (oi := { dst := some 17, op := Op.move (Operand.tmp 16), type := 4, pos := "law.go:45", after := #[{ on := 11, ground := Ground.data }, { on := 9, ground := Ground.chain }], guard := none }) (v := ?_) rfl (by kernel_rfl) (by kernel_rfl) (by kernel_rfl) (fun _ _ _ h => h) (Or.inl ⟨by rfl, ?_⟩) hHeld ?_
  rotate_left
  · intro w hSw; clear hSw; go_simp; try with_reducible rfl
  try simp only [Act.put, List.setIfInBounds_toArray, List.set_cons_zero, List.set_cons_succ]
  refine wpAnyH_take (i := 13) (oi := { dst := some 18, op := Op.move (Operand.tmp 0), type := 23, pos := "law.go:45", after := #[{ on := 12, ground := Ground.guard }], guard := some (12, true) }) (v := ?_) rfl (by kernel_rfl) (by kernel_rfl) (by kernel_rfl) (fun _ _ _ h => h) (Or.inl ⟨by rfl, ?_⟩) hHeld ?_
  rotate_left
  · intro w hSw; clear hSw; go_simp; try with_reducible rfl
  try simp only [Act.put, List.setIfInBounds_toArray, List.set_cons_zero, List.set_cons_succ]
  refine wpAnyH_take (i := 15) (oi := { dst := some 20, op := Op.fieldAddr 32 (Operand.tmp 3) 4, type := 0, pos := "law.go:45", after := #[{ on := 12, ground := Ground.guard }], guard := some (12, true) }) (v := ?_) rfl (by kernel_rfl) (by kernel_rfl) (by kernel_rfl) (fun _ _ _ h => h) (Or.inl ⟨by rfl, ?_⟩) hHeld ?_
  rotate_left
  · intro w hSw; clear hSw; go_simp; try with_reducible rfl
  try simp only [Act.put, List.setIfInBounds_toArray, List.set_cons_zero, List.set_cons_succ]
  refine wpAnyH_take (i := 16) (oi := { dst := some 21, op := Op.load 30 (Operand.tmp 20), type := 30, pos := "law.go:45", after := #[{ on := 15, ground := Ground.data }, { on := 12, ground := Ground.guard }], guard := some (12, true) }) (v := Value.slice A b.wl.length q) rfl (by kernel_rfl) (by kernel_rfl) (by kernel_rfl) (fun _ _ _ h => h) (Or.inl ⟨by rfl, ?_⟩) hHeld ?_
  · intro V hV; have hc := (cell_of_row _ _ 132 _ _ _ hV).trans kw; clear hV; go_simp
  try simp only [Act.put, List.setIfInBounds_toArray, List.set_cons_zero, List.set_cons_succ]
  refine wpAnyH_ready (rs := [14]) (by kernel_rfl) (by simp) ?_
  refine AllReadyH.cons (o := { dst := some 19, op := Op.call { callee := Callee.value (Operand.func 21), args := #[Operand.tmp 18], argTypes := #[23] }, type := 30, pos := "law.go:45", after := #[{ on := 13, ground := Ground.data }, { on := 12, ground := Ground.chain }, { on := 12, ground := Ground.guard }], guard := some (12, true) }) rfl (fun K hK => ?_) AllReadyH.nil
  go_simp
  go_at_call 21; ((with_reducible refine (q_waits H3.out hc).mono ?_); rintro e w4 ⟨Aw, qw, rfl, rw4, b4⟩; have R4 := Lib.hid rw4; have H4 := Lib.hid (H3.out.later b4); have X4 := Lib.hid (blk_bel b4 X3.out); have B4 : Hid (Below w.heap.size w w4) := Lib.hid (B3.out.trans (b4.mono B3.out.size)); clear b4 rw4)
  try go_wp2_with fail
  refine hK.out _ _ ?_ (fun hHeld => ?_)
  · exact X4.out
  clear hK K
  try simp only [Act.put, List.setIfInBounds_toArray, List.set_cons_zero, List.set_cons_succ]
  refine wpAnyH_ready (rs := [17]) (by kernel_rfl) (by simp) ?_
  refine AllReadyH.cons (o := { dst := some 22, op := Op.call { callee := Callee.value (Operand.func 22), args := #[Operand.tmp 19, Operand.tmp 21], argTypes := #[30, 30] }, type := 4, pos := "law.go:45", after := #[{ on := 14, ground := Ground.data }, { on := 16, ground := Ground.data }, { on := 14, ground := Ground.chain }, { on := 12, ground := Ground.guard }], guard := some (12, true) }) rfl (fun K hK => ?_) AllReadyH.nil
  go_simp
  go_at_call 22; ((with_reducible refine (same_yes Aw A b.wl.length qw b.wl.length q b.wl w4 rfl rfl (by have := WL.out; omega) R4.out.rd (HR.out.later B4.out)).mono ?_); rintro e w5 ⟨rfl, b5⟩; have H5 := Lib.hid (H4.out.later b5); have X5 := Lib.hid (blk_bel b5 X4.out); have B5 : Hid (Below w.heap.size w w5) := Lib.hid (B4.out.trans (b5.mono B4.out.size)); clear b5)
  try go_wp2_with fail
  refine hK.out _ _ ?_ (fun hHeld => ?_)
  · exact X5.out
  clear hK K
  try simp only [Act.put, List.setIfInBounds_toArray, List.set_cons_zero, List.set_cons_succ]
  refine wpAnyH_take (i := 18) (oi := { dst := some 23, op := Op.pick (Operand.tmp 17) (Operand.tmp 22) (Operand.const (Value.bool false)), type := 4, pos := "law.go:45", after := #[{ on := 12, ground := Ground.data }, { on := 17, ground := Ground.data }], guard := none }) (v := ?_) rfl (by kernel_rfl) (by kernel_rfl) (by kernel_rfl) (fun _ _ _ h => h) (Or.inl ⟨by rfl, ?_⟩) hHeld ?_
  rotate_left
  · intro w hSw; clear hSw; go_simp; try with_reducible rfl
  try simp only [Act.put, List.setIfInBounds_toArray, List.set_cons_zero, List.set_cons_succ]
  refine wpAnyH_take (i := 19) (oi := { dst := some 4, op := Op.assign (Operand.tmp 23), type := 4, pos := "law.go:45", after := #[{ on := 18, ground := Ground.data }, { on := 17, ground := Ground.chain }, { on := 0, ground := Ground.phase }, { on := 1, ground := Ground.phase }, { on := 2, ground := Ground.phase }, { on := 3, ground := Ground.phase }, { on := 4, ground := Ground.phase }, { on := 5, ground := Ground.phase }, { on := 6, ground := Ground.phase }, { on := 7, ground := Ground.phase }, { on := 8, ground := Ground.phase }, { on := 9, ground := Ground.phase }, { on := 10, ground := Ground.phase }, { on := 11, ground := Ground.phase }, { on := 12, ground := Ground.phase }, { on := 13, ground := Ground.phase }, { on := 14, ground := Ground.phase }, { on := 15, ground := Ground.phase }, { on := 16, ground := Ground.phase }, { on := 17, ground := Ground.phase }, { on := 18, ground := Ground.phase }], guard := none }) (v := ?_) rfl (by kernel_rfl) (by kernel_rfl) (by kernel_rfl) (fun _ _ _ h => h) (Or.inl ⟨by rfl, ?_⟩) hHeld ?_
  rotate_left
  · intro w hSw; clear hSw; go_simp; try with_reducible rfl
  try simp only [Act.put, List.setIfInBounds_toArray, List.set_cons_zero, List.set_cons_succ]
  refine wpAnyH_done (by kernel_rfl) ?_ _
  go_wp2_with fail
  go_ret
  exact ⟨rfl, B5.out⟩
end Go.Proofs.Ytlffigkjhhcohaa
