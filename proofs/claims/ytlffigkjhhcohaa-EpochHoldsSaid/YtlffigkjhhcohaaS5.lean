/- A deed on both: who is in. -/
import Derived.Test.YtlffigkjhhcohaaS0
namespace Go.Proofs.Ytlffigkjhhcohaa
set_option linter.unusedSimpArgs false
open Go.RowKit Go.Maps
set_option linter.unusedVariables false

set_option maxRecDepth 4000 in
set_option maxHeartbeats 1000000 in
theorem step_4 {c lo N : Nat} {K : Nat → Prop} {b : RB} {w : World} {cs : Array Value} (h : ST c lo N K b b w cs) (hc : c ≤ 900) (hlo : lo ≤ w.heap.size) {who n do_ : Int} (e0 : ¬ do_ = 0) (e1 : ¬ do_ = 1) (e2 : ¬ do_ = 2) (e3 : ¬ do_ = 3) (hw : (Lit.int .i64 who).wf = true) : Calls Try.prog 9 #[.pointer (some ⟨N, 0, none⟩), .agg cs, .agg #[.int .i64 do_, .int .i64 who, .int .i64 n]] w (SPost (c + 1) lo N K (b) w) := by
  have hal := run_zb
  have H0 := Lib.hid (h.wide (W3.bel w cs do_ who n) (K1 w K) (K1.to (W3.size w cs do_ who n)))
  have B0 := Lib.hid (W3.bel w cs do_ who n)
  have X0 := Lib.hid (W3.x0 w cs do_ who n)
  have X1 := Lib.hid (W3.x1 w cs do_ who n)
  have X2 := Lib.hid (W3.x2 w cs do_ who n)
  have Z3 := Lib.hid (W3.size w cs do_ who n)
  have HLO := Lib.hid hlo
  have HS0 := Lib.hid h.size
  have HO0 := Lib.hid h.one
  have HK0 := Lib.hid h.kept
  have NL := Lib.hid h.nlen
  clear h
  go_enter Try.func9, Try.ntmps9
  go_wp2_with fail
  change Code.wp _ _ _ _ (W3 w cs do_ who n)
  generalize W3 w cs do_ who n = W at *
  have HD := Lib.hid (H0.out.later (drew_bel W))
  have ZS := HS0
  have ZO := HO0
  refine wp_region_held_drew (S := (fun V => V.heap[w.heap.size]? = some (.cells cs 32 (0, 0)) ∧ V.cell? ⟨w.heap.size + 1, 1, none⟩ = some (.int .i64 who))) (by kernel_rfl) ?_ (fun hHeld => ?_)
  · exact ⟨X0.out, cell_of_row _ _ 1 _ _ _ X1.out⟩
  refine wpAnyH_take (i := 0) (oi := { dst := some 71, op := Op.load 32 (Operand.tmp 4), type := 32, pos := "law.go:40", after := #[], guard := none }) (v := Value.agg cs) rfl (by kernel_rfl) (by kernel_rfl) (by kernel_rfl) (fun _ _ _ h => h) (Or.inl ⟨by rfl, fun V hV => ex_load_row (.tmp 4) rfl w.heap.size rfl cs hV.1 HS0.out⟩) hHeld ?_
  try simp only [Act.put, List.setIfInBounds_toArray, List.set_cons_zero, List.set_cons_succ]
  refine wpAnyH_take (i := 1) (oi := { dst := some 72, op := Op.move (Operand.tmp 0), type := 23, pos := "law.go:40", after := #[], guard := none }) (v := ?_) rfl (by kernel_rfl) (by kernel_rfl) (by kernel_rfl) (fun _ _ _ h => h) (Or.inl ⟨by rfl, ?_⟩) hHeld ?_
  rotate_left
  · intro w hSw; clear hSw; go_simp; try with_reducible rfl
  try simp only [Act.put, List.setIfInBounds_toArray, List.set_cons_zero, List.set_cons_succ]
  refine wpAnyH_take (i := 2) (oi := { dst := some 73, op := Op.fieldAddr 36 (Operand.tmp 5) 1, type := 0, pos := "law.go:40", after := #[], guard := none }) (v := ?_) rfl (by kernel_rfl) (by kernel_rfl) (by kernel_rfl) (fun _ _ _ h => h) (Or.inl ⟨by rfl, ?_⟩) hHeld ?_
  rotate_left
  · intro w hSw; clear hSw; go_simp; try with_reducible rfl
  try simp only [Act.put, List.setIfInBounds_toArray, List.set_cons_zero, List.set_cons_succ]
  refine wpAnyH_take (i := 3) (oi := { dst := some 74, op := Op.load 3 (Operand.tmp 73), type := 3, pos := "law.go:40", after := #[{ on := 2, ground := Ground.data }], guard := none }) (v := Value.int .i64 who) rfl (by kernel_rfl) (by kernel_rfl) (by kernel_rfl) (fun _ _ _ h => h) (Or.inl ⟨by rfl, ?_⟩) hHeld ?_
  · intro V hV; have hc := hV.2; clear hV; go_simp
  try simp only [Act.put, List.setIfInBounds_toArray, List.set_cons_zero, List.set_cons_succ]
  refine wpAnyH_take (i := 5) (oi := { dst := some 76, op := Op.load 32 (Operand.tmp 4), type := 32, pos := "law.go:40", after := #[], guard := none }) (v := Value.agg cs) rfl (by kernel_rfl) (by kernel_rfl) (by kernel_rfl) (fun _ _ _ h => h) (Or.inl ⟨by rfl, fun V hV => ex_load_row (.tmp 4) rfl w.heap.size rfl cs hV.1 HS0.out⟩) hHeld ?_
  try simp only [Act.put, List.setIfInBounds_toArray, List.set_cons_zero, List.set_cons_succ]
  refine wpAnyH_take (i := 6) (oi := { dst := some 77, op := Op.fieldAddr 36 (Operand.tmp 5) 1, type := 0, pos := "law.go:40", after := #[], guard := none }) (v := ?_) rfl (by kernel_rfl) (by kernel_rfl) (by kernel_rfl) (fun _ _ _ h => h) (Or.inl ⟨by rfl, ?_⟩) hHeld ?_
  rotate_left
  · intro w hSw; clear hSw; go_simp; try with_reducible rfl
  try simp only [Act.put, List.setIfInBounds_toArray, List.set_cons_zero, List.set_cons_succ]
  refine wpAnyH_take (i := 7) (oi := { dst := some 78, op := Op.load 3 (Operand.tmp 77), type := 3, pos := "law.go:40", after := #[{ on := 6, ground := Ground.data }], guard := none }) (v := Value.int .i64 who) rfl (by kernel_rfl) (by kernel_rfl) (by kernel_rfl) (fun _ _ _ h => h) (Or.inl ⟨by rfl, ?_⟩) hHeld ?_
  · intro V hV; have hc := hV.2; clear hV; go_simp
  try simp only [Act.put, List.setIfInBounds_toArray, List.set_cons_zero, List.set_cons_succ]
  refine wpAnyH_ready (rs := [4]) (by kernel_rfl) (by simp) ?_
  refine AllReadyH.cons (o := { dst := some 75, op := Op.call { callee := Callee.value (Operand.func 19), args := #[Operand.tmp 72, Operand.tmp 74], argTypes := #[23, 3] }, type := 4, pos := "law.go:40", after := #[{ on := 1, ground := Ground.data }, { on := 3, ground := Ground.data }], guard := none }) rfl (fun K hK => ?_) AllReadyH.nil
  go_simp
  go_at_call 19; ((with_reducible refine (q_in HD.out hw).mono ?_); rintro e w1 ⟨rfl, b1⟩; have H1 := Lib.hid (HD.out.later b1); have B1 := Lib.hid b1; have XA := Lib.hid (blk_bel b1 X0.out); have DA := Lib.hid (blk_bel b1 X1.out); have RA := Lib.hid (blk_bel b1 X2.out); clear b1)
  try go_wp2_with fail
  refine hK.out _ _ ?_ (fun hHeld => ?_)
  · exact ⟨XA.out, cell_of_row _ _ 1 _ _ _ DA.out⟩
  clear hK K
  try simp only [Act.put, List.setIfInBounds_toArray, List.set_cons_zero, List.set_cons_succ]
  refine wpAnyH_ready (rs := [8]) (by kernel_rfl) (by simp) ?_
  refine AllReadyH.cons (o := { dst := some 79, op := Op.call { callee := Callee.value (Operand.func 27), args := #[Operand.tmp 76, Operand.tmp 78], argTypes := #[32, 3] }, type := 4, pos := "law.go:40", after := #[{ on := 5, ground := Ground.data }, { on := 7, ground := Ground.data }, { on := 4, ground := Ground.chain }], guard := none }) rfl (fun K hK => ?_) AllReadyH.nil
  go_simp
  go_at_call 27; ((with_reducible refine (d_in H1.out who).mono ?_); rintro e w2 ⟨rfl, b3⟩; have H3 := Lib.hid (H1.out.later b3); have B3 := Lib.hid b3; have YK := Lib.hid (blk_bel b3 XA.out); have DK := Lib.hid (blk_bel b3 DA.out); have RK := Lib.hid (blk_bel b3 RA.out); clear b3)
  try go_wp2_with fail
  refine hK.out _ _ ?_ (fun hHeld => ?_)
  · exact ⟨YK.out, cell_of_row _ _ 1 _ _ _ DK.out⟩
  clear hK K
  try simp only [Act.put, List.setIfInBounds_toArray, List.set_cons_zero, List.set_cons_succ]
  refine wpAnyH_take (i := 9) (oi := { dst := some 80, op := Op.binOp BinOp.eql 4 (Operand.tmp 75) (Operand.tmp 79) 4, type := 4, pos := "law.go:40", after := #[{ on := 4, ground := Ground.data }, { on := 8, ground := Ground.data }, { on := 10, ground := Ground.gcOnly Departure.lateStores }], guard := none }) (v := ?_) rfl (by kernel_rfl) (by kernel_rfl) (by kernel_rfl) (fun _ _ _ h => h) (Or.inl ⟨by rfl, ?_⟩) hHeld ?_
  rotate_left
  · intro w hSw; clear hSw; go_simp; try with_reducible rfl
  try simp only [Act.put, List.setIfInBounds_toArray, List.set_cons_zero, List.set_cons_succ]
  refine wpAnyH_ready (rs := [10]) (by kernel_rfl) (by simp) ?_
  refine AllReadyH.cons (o := { dst := none, op := Op.store 32 (Operand.tmp 6) (Operand.tmp 71), type := 0, pos := "law.go:40", after := #[{ on := 0, ground := Ground.data }, { on := 8, ground := Ground.chain }, { on := 0, ground := Ground.phase }, { on := 1, ground := Ground.textOnly Departure.lateStores }, { on := 2, ground := Ground.textOnly Departure.lateStores }, { on := 3, ground := Ground.textOnly Departure.lateStores }, { on := 4, ground := Ground.textOnly Departure.lateStoresUnsure }, { on := 5, ground := Ground.textOnly Departure.lateStores }, { on := 6, ground := Ground.textOnly Departure.lateStores }, { on := 7, ground := Ground.textOnly Departure.lateStores }, { on := 8, ground := Ground.textOnly Departure.lateStoresUnsure }, { on := 9, ground := Ground.textOnly Departure.lateStores }], guard := none }) rfl (fun K hK => ?_) AllReadyH.nil
  rw [if_pos (by rfl)]
  refine wp_store_row 32 (.tmp 6) (.tmp 71) rfl (w.heap.size + 1 + 1) cs rfl rfl 32 zb RK.out (by rw [ZS.out]; exact info32) (by rw [ZS.out]; exact zb_size) ZO.out ?_
  refine hK.out _ _ ?_ (fun hHeld => ?_)
  · exact ⟨(setRow_other _ _ _ _ (by omega)).trans YK.out, cell_of_row _ _ 1 _ _ _ ((setRow_other _ _ _ _ (by simp)).trans DK.out)⟩
  clear hK K
  try simp only [Act.put, List.setIfInBounds_toArray, List.set_cons_zero, List.set_cons_succ]
  refine wpAnyH_take (i := 11) (oi := { dst := some 7, op := Op.assign (Operand.tmp 80), type := 4, pos := "law.go:40", after := #[{ on := 9, ground := Ground.data }, { on := 10, ground := Ground.chain }, { on := 0, ground := Ground.phase }, { on := 1, ground := Ground.phase }, { on := 2, ground := Ground.phase }, { on := 3, ground := Ground.phase }, { on := 4, ground := Ground.phase }, { on := 5, ground := Ground.phase }, { on := 6, ground := Ground.phase }, { on := 7, ground := Ground.phase }, { on := 8, ground := Ground.phase }, { on := 9, ground := Ground.phase }, { on := 10, ground := Ground.phase }], guard := none }) (v := ?_) rfl (by kernel_rfl) (by kernel_rfl) (by kernel_rfl) (fun _ _ _ h => h) (Or.inl ⟨by rfl, ?_⟩) hHeld ?_
  rotate_left
  · intro w hSw; clear hSw; go_simp; try with_reducible rfl
  try simp only [Act.put, List.setIfInBounds_toArray, List.set_cons_zero, List.set_cons_succ]
  refine wpAnyH_done (by kernel_rfl) ?_ _
  go_wp2_with fail
  have HG := Lib.hid (grown_row (w := w2) (N := w.heap.size + 1 + 1) (cs := cs))
  have HF := Lib.hid ((H3.out.more (Nat.le_add_right c 1)).apart HG.out (.inr ⟨by omega, by omega⟩))
  have HB : Hid (Below lo w (w2.setRow (w.heap.size + 1 + 1) cs)) := Lib.hid (below_setRow (((B0.out.trans ((drew_bel _).mono B0.out.size)).trans ((B1.out.trans (B3.out.mono B1.out.size)).mono B0.out.size)).mono HLO.out) (by have := HLO.out; omega) _)
  refine bodyPost_ret (v := .tuple #[.agg cs, .bool true]) ?_ rfl ⟨cs, rfl, HF.out.less (fun g hg => .inl hg), HB.out, fun g hg => ?_⟩
  · exact res9 _ _ (w.heap.size + 1 + 1) cs _ rfl rfl (setRow_heap _ _ _ _ _ _ RK.out) (by rw [ZS.out]; exact info32)
  · have hlt := HK0.out g hg
    exact (setRow_other _ _ _ _ (by omega)).trans ((B3.out.block g (Nat.lt_of_lt_of_le (Nat.lt_of_lt_of_le hlt B0.out.size) B1.out.size)).trans ((B1.out.block g (Nat.lt_of_lt_of_le hlt B0.out.size)).trans (B0.out.block g hlt)))
end Go.Proofs.Ytlffigkjhhcohaa
