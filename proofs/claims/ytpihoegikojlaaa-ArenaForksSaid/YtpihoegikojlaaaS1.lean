/- A deed on both: a place is given back. -/
import Derived.Test.YtpihoegikojlaaaS0
namespace Go.Proofs.Ytpihoegikojlaaa
set_option linter.unusedSimpArgs false
open Go.RowKit Go.Maps
set_option linter.unusedVariables false
variable {F : Nat → Prop}

set_option maxRecDepth 4000 in
set_option maxHeartbeats 2000000 in
theorem step_2 {lo N : Nat} {K : Nat → Prop} {b : AB} {w : World} {cs : Array Value} (h : ST lo N K b b w cs) (hlo : lo ≤ w.heap.size) {i n : Int} : Calls Try.prog 10 #[.pointer (some ⟨N, 0, none⟩), .agg cs, .agg #[.int .i64 2, .int .i64 i, .int .i64 n]] w (SPost lo N K (giveA b i) w) := by
  have hal := run_zb
  have H0 := Lib.hid (h.wide (V3.bel w cs 2 i n) (K1 w K) (K1.to (V3.size w cs 2 i n)))
  have B0 := Lib.hid (V3.bel w cs 2 i n)
  have X0 := Lib.hid (V3.x0 w cs 2 i n)
  have X1 := Lib.hid (V3.x1 w cs 2 i n)
  have X2 := Lib.hid (V3.x2 w cs 2 i n)
  have Z3 := Lib.hid (V3.size w cs 2 i n)
  have HLO := Lib.hid hlo
  have HS0 := Lib.hid h.size
  have HO0 := Lib.hid h.one
  have HK0 := Lib.hid h.kept
  have HIV := Lib.hid h.iv.1
  have HC0 := Lib.hid h.cells
  clear h
  go_enter Try.func10, Try.ntmps10
  go_wp2_with (first
    | (refine wpList_load_row rfl 33 (.tmp 4) rfl w.heap.size rfl 33 cs (0, 0) _ X0.out Try.underlying33 rfl (by rw [HS0.out]; exact info33) ?_)
    | (go_at_call 27; ((with_reducible refine (d_give H0.out i).mono ?_); rintro e w1 ⟨cs1, rfl, h1, b1⟩; have H1 := Lib.hid h1; have B1 := Lib.hid b1; have z1 := (heap_alloc_new w1 (.cells zb 33)); have Z1 := Lib.hid z1; clear h1 b1 z1))
    | (refine wpList_store_row rfl 33 _ _ rfl w1.heap.size cs1 rfl rfl 33 zb Z1.out (by rw [H1.out.size]; exact info33) (by rw [H1.out.size]; exact zb_size) H1.out.one ?_)
    | fail)
  change Code.wp _ _ _ _ (W2 w1 cs1)
  have H2 := Lib.hid (H1.out.wide ((W2.bel w1 cs1).trans ((drew_bel _).mono (W2.bel w1 cs1).size)) (K2 w K w1.heap.size) (K2.to (by show _ < (W2 w1 cs1).heap.size; rw [W2.size]; omega)))
  have BW : Hid (Below w.heap.size w (W2 w1 cs1)) := Lib.hid ((B0.out.trans (B1.out.mono B0.out.size)).trans ((W2.bel w1 cs1).mono (Nat.le_trans B0.out.size B1.out.size)))
  have D2 : Hid ((W2 w1 cs1).heap[w.heap.size + 1]? = some (.cells #[.int .i64 2, .int .i64 i, .int .i64 n] 37 (0, 0))) := Lib.hid (blk_bel (W2.bel w1 cs1) (blk_bel B1.out X1.out))
  have R2 : Hid ((W2 w1 cs1).heap[w.heap.size + 1 + 1]? = some (.cells zb 33 (0, 0))) := Lib.hid (blk_bel (W2.bel w1 cs1) (blk_bel B1.out X2.out))
  have Y2 := Lib.hid (W2.x w1 cs1)
  have ZS := Lib.hid H1.out.size
  have ZO := Lib.hid H1.out.one
  have N1 : Hid (w.heap.size + 3 ≤ w1.heap.size) := Lib.hid (by have h1 := B1.out.size; simpa using h1)
  have HL2 : Hid (lo ≤ (W2 w1 cs1).drew.heap.size) := Lib.hid (Nat.le_trans HLO.out BW.out.size)
  clear X0 X1 X2 Z1
  generalize W2 w1 cs1 = W at *
  refine wp_region_held_drew (S := (fun V => V.heap[w1.heap.size]? = some (.cells cs1 33 (0, 0)) ∧ V.cell? ⟨w.heap.size + 1, 1, none⟩ = some (.int .i64 i))) (by kernel_rfl) ?_ (fun hHeld => ?_)
  · exact ⟨Y2.out, cell_of_row _ _ 1 _ _ _ D2.out⟩
  refine wpAnyH_take (i := 0) (oi := { dst := some 91, op := Op.load 33 (Operand.tmp 18), type := 33, pos := "law.go:51", after := #[], guard := none }) (v := Value.agg cs1) rfl (by kernel_rfl) (by kernel_rfl) (by kernel_rfl) (fun _ _ _ h => h) (Or.inl ⟨by rfl, fun V hV => ex_load_row (.tmp 18) rfl w1.heap.size rfl cs1 hV.1 ZS.out⟩) hHeld ?_
  try simp only [Act.put, List.setIfInBounds_toArray, List.set_cons_zero, List.set_cons_succ]
  refine wpAnyH_take (i := 1) (oi := { dst := some 92, op := Op.move (Operand.tmp 0), type := 23, pos := "law.go:51", after := #[], guard := none }) (v := ?_) rfl (by kernel_rfl) (by kernel_rfl) (by kernel_rfl) (fun _ _ _ h => h) (Or.inl ⟨by rfl, ?_⟩) hHeld ?_
  rotate_left
  · intro w hSw; clear hSw; go_simp; try with_reducible rfl
  try simp only [Act.put, List.setIfInBounds_toArray, List.set_cons_zero, List.set_cons_succ]
  refine wpAnyH_take (i := 2) (oi := { dst := some 93, op := Op.fieldAddr 37 (Operand.tmp 5) 1, type := 0, pos := "law.go:51", after := #[], guard := none }) (v := ?_) rfl (by kernel_rfl) (by kernel_rfl) (by kernel_rfl) (fun _ _ _ h => h) (Or.inl ⟨by rfl, ?_⟩) hHeld ?_
  rotate_left
  · intro w hSw; clear hSw; go_simp; try with_reducible rfl
  try simp only [Act.put, List.setIfInBounds_toArray, List.set_cons_zero, List.set_cons_succ]
  refine wpAnyH_take (i := 3) (oi := { dst := some 94, op := Op.load 3 (Operand.tmp 93), type := 3, pos := "law.go:51", after := #[{ on := 2, ground := Ground.data }], guard := none }) (v := Value.int .i64 i) rfl (by kernel_rfl) (by kernel_rfl) (by kernel_rfl) (fun _ _ _ h => h) (Or.inl ⟨by rfl, ?_⟩) hHeld ?_
  · intro V hV; have hc0 := hV.2; clear hV; go_simp
  try simp only [Act.put, List.setIfInBounds_toArray, List.set_cons_zero, List.set_cons_succ]
  refine wpAnyH_take (i := 5) (oi := { dst := some 96, op := Op.move (Operand.tmp 19), type := 24, pos := "law.go:51", after := #[{ on := 7, ground := Ground.gcOnly Departure.lateStores }], guard := none }) (v := ?_) rfl (by kernel_rfl) (by kernel_rfl) (by kernel_rfl) (fun _ _ _ h => h) (Or.inl ⟨by rfl, ?_⟩) hHeld ?_
  rotate_left
  · intro w hSw; clear hSw; go_simp; try with_reducible rfl
  try simp only [Act.put, List.setIfInBounds_toArray, List.set_cons_zero, List.set_cons_succ]
  refine wpAnyH_ready (rs := [4]) (by kernel_rfl) (by simp) ?_
  refine AllReadyH.cons (o := { dst := some 95, op := Op.call { callee := Callee.value (Operand.func 21), args := #[Operand.tmp 92, Operand.tmp 94], argTypes := #[23, 3] }, type := 24, pos := "law.go:51", after := #[{ on := 1, ground := Ground.data }, { on := 3, ground := Ground.data }], guard := none }) rfl (fun K hK => ?_) AllReadyH.nil
  go_simp
  go_at_call 21; ((with_reducible refine (q_give H2.out HL2.out i).mono ?_); rintro e w2 ⟨rfl, h3, b3, k3⟩; have H3 := Lib.hid h3; have B3 := Lib.hid b3; have K3 := Lib.hid k3; have YK := Lib.hid ((k3 w1.heap.size (.inr rfl)).trans Y2.out); have DK := Lib.hid ((k3 (w.heap.size + 1) (.inl (.inr ⟨by omega, by omega⟩))).trans D2.out); have RK := Lib.hid ((k3 (w.heap.size + 1 + 1) (.inl (.inr ⟨by omega, by omega⟩))).trans R2.out); have NE : Hid (¬ w.heap.size + 1 + 1 = w1.heap.size) := Lib.hid (by have := N1.out; omega); clear h3 b3 k3)
  try go_wp2_with fail
  refine hK.out _ _ ?_ (fun hHeld => ?_)
  · exact ⟨YK.out, cell_of_row _ _ 1 _ _ _ DK.out⟩
  clear hK K
  try simp only [Act.put, List.setIfInBounds_toArray, List.set_cons_zero, List.set_cons_succ]
  refine wpAnyH_take (i := 6) (oi := { dst := some 97, op := Op.binOp BinOp.eql 24 (Operand.tmp 95) (Operand.tmp 96) 24, type := 4, pos := "law.go:51", after := #[{ on := 4, ground := Ground.data }, { on := 5, ground := Ground.data }, { on := 7, ground := Ground.gcOnly Departure.lateStores }], guard := none }) (v := ?_) rfl (by kernel_rfl) (by kernel_rfl) (by kernel_rfl) (fun _ _ _ h => h) (Or.inl ⟨by rfl, ?_⟩) hHeld ?_
  rotate_left
  · intro w hSw; clear hSw; go_simp; try with_reducible rfl
  try simp only [Act.put, List.setIfInBounds_toArray, List.set_cons_zero, List.set_cons_succ]
  refine wpAnyH_ready (rs := [7]) (by kernel_rfl) (by simp) ?_
  refine AllReadyH.cons (o := { dst := none, op := Op.store 33 (Operand.tmp 6) (Operand.tmp 91), type := 0, pos := "law.go:51", after := #[{ on := 0, ground := Ground.data }, { on := 4, ground := Ground.chain }, { on := 0, ground := Ground.phase }, { on := 1, ground := Ground.textOnly Departure.lateStores }, { on := 2, ground := Ground.textOnly Departure.lateStores }, { on := 3, ground := Ground.textOnly Departure.lateStores }, { on := 4, ground := Ground.textOnly Departure.lateStoresUnsure }, { on := 5, ground := Ground.textOnly Departure.lateStores }, { on := 6, ground := Ground.textOnly Departure.lateStores }], guard := none }) rfl (fun K hK => ?_) AllReadyH.nil
  rw [if_pos (by rfl)]
  refine wp_store_row 33 (.tmp 6) (.tmp 91) rfl (w.heap.size + 1 + 1) cs1 rfl rfl 33 zb RK.out (by rw [ZS.out]; exact info33) (by rw [ZS.out]; exact zb_size) ZO.out ?_
  refine hK.out _ _ ?_ (fun hHeld => ?_)
  · exact ⟨(setRow_other _ _ _ _ (fun e => NE.out e.symm)).trans YK.out, cell_of_row _ _ 1 _ _ _ ((setRow_other _ _ _ _ (by simp)).trans DK.out)⟩
  clear hK K
  try simp only [Act.put, List.setIfInBounds_toArray, List.set_cons_zero, List.set_cons_succ]
  refine wpAnyH_take (i := 8) (oi := { dst := some 7, op := Op.assign (Operand.tmp 97), type := 4, pos := "law.go:51", after := #[{ on := 6, ground := Ground.data }, { on := 7, ground := Ground.chain }, { on := 0, ground := Ground.phase }, { on := 1, ground := Ground.phase }, { on := 2, ground := Ground.phase }, { on := 3, ground := Ground.phase }, { on := 4, ground := Ground.phase }, { on := 5, ground := Ground.phase }, { on := 6, ground := Ground.phase }, { on := 7, ground := Ground.phase }], guard := none }) (v := ?_) rfl (by kernel_rfl) (by kernel_rfl) (by kernel_rfl) (fun _ _ _ h => h) (Or.inl ⟨by rfl, ?_⟩) hHeld ?_
  rotate_left
  · intro w hSw; clear hSw; go_simp; try with_reducible rfl
  try simp only [Act.put, List.setIfInBounds_toArray, List.set_cons_zero, List.set_cons_succ]
  refine wpAnyH_done (by kernel_rfl) ?_ _
  go_wp2_with fail
  have HG := Lib.hid (grown_row (w := w2) (N := w.heap.size + 1 + 1) (cs := cs1))
  have HF := Lib.hid (H3.out.apart HG.out (.inl (.inr ⟨by omega, by omega⟩)))
  have HB : Hid (Below lo w (w2.setRow (w.heap.size + 1 + 1) cs1)) := Lib.hid (below_setRow ((BW.out.mono HLO.out).trans (drew_bel _ |>.mono (Nat.le_trans HLO.out BW.out.size) |>.trans B3.out)) (by have := HLO.out; omega) _)
  refine bodyPost_ret (v := .tuple #[.agg cs1, .bool true]) ?_ rfl ⟨cs1, rfl, HF.out.less (fun g hg => .inl (.inl hg)), HB.out, fun g hg => ?_⟩
  · exact res10 _ _ (w.heap.size + 1 + 1) cs1 _ rfl rfl (setRow_heap _ _ _ _ _ _ RK.out) (by rw [ZS.out]; exact info33)
  · have hlt := HK0.out g hg
    exact (setRow_other _ _ _ _ (by omega)).trans ((K3.out g (.inl (.inl hg))).trans (BW.out.block g hlt))
end Go.Proofs.Ytpihoegikojlaaa
