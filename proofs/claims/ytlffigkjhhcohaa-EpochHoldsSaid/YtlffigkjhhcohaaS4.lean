/- A deed on both: what is ready. -/
import Derived.Test.YtlffigkjhhcohaaS0
namespace Go.Proofs.Ytlffigkjhhcohaa
set_option linter.unusedSimpArgs false
open Go.RowKit Go.Maps
set_option linter.unusedVariables false

set_option maxRecDepth 4000 in
set_option maxHeartbeats 1000000 in
theorem step_3 {c lo N : Nat} {K : Nat → Prop} {b : RB} {w : World} {cs : Array Value} (h : ST c lo N K b b w cs) (hc : c ≤ 900) (hlo : lo ≤ w.heap.size) {who n : Int} : Calls Try.prog 9 #[.pointer (some ⟨N, 0, none⟩), .agg cs, .agg #[.int .i64 3, .int .i64 who, .int .i64 n]] w (SPost (c + 1) lo N K (readyR b (nR b)) w) := by
  have hal := run_zb
  have H0 := Lib.hid (h.wide (W3.bel w cs 3 who n) (K1 w K) (K1.to (W3.size w cs 3 who n)))
  have B0 := Lib.hid (W3.bel w cs 3 who n)
  have X0 := Lib.hid (W3.x0 w cs 3 who n)
  have X1 := Lib.hid (W3.x1 w cs 3 who n)
  have X2 := Lib.hid (W3.x2 w cs 3 who n)
  have Z3 := Lib.hid (W3.size w cs 3 who n)
  have HLO := Lib.hid hlo
  have HS0 := Lib.hid h.size
  have HO0 := Lib.hid h.one
  have HK0 := Lib.hid h.kept
  have NL := Lib.hid h.nlen
  clear h
  go_enter Try.func9, Try.ntmps9
  go_wp2_with (first
    | (refine wpList_load_row rfl 32 (.tmp 4) rfl w.heap.size rfl 32 cs (0, 0) _ X0.out Try.underlying32 rfl (by rw [HS0.out]; exact info32) ?_)
    | (go_at_call 18; ((with_reducible refine (d_ready H0.out hc).mono ?_); rintro e w1 ⟨cs1, Ar, kr, rfl, h1, b1⟩; have H1 := Lib.hid h1; have B1 := Lib.hid b1; have z1 := (heap_alloc_new w1 (.cells zb 32)); have Z1 := Lib.hid z1; clear h1 b1 z1))
    | (refine wpList_store_row rfl 32 _ _ rfl w1.heap.size cs1 rfl rfl 32 zb Z1.out (by rw [H1.out.off.size]; exact info32) (by rw [H1.out.off.size]; exact zb_size) H1.out.off.one ?_)
    | fail)
  change Code.wp _ _ _ _ (W2 w1 cs1)
  have H2 := Lib.hid (H1.out.wide ((W2.bel w1 cs1).trans ((drew_bel _).mono (W2.bel w1 cs1).size)) (K2 w K w1.heap.size) (K2.to (by show _ < (W2 w1 cs1).heap.size; rw [W2.size]; omega)))
  have BW : Hid (Below w.heap.size w (W2 w1 cs1)) := Lib.hid ((B0.out.trans (B1.out.mono B0.out.size)).trans ((W2.bel w1 cs1).mono (Nat.le_trans B0.out.size B1.out.size)))
  have D2 : Hid ((W2 w1 cs1).heap[w.heap.size + 1]? = some (.cells #[.int .i64 3, .int .i64 who, .int .i64 n] 36 (0, 0))) := Lib.hid (blk_bel (W2.bel w1 cs1) (blk_bel B1.out X1.out))
  have R2 : Hid ((W2 w1 cs1).heap[w.heap.size + 1 + 1]? = some (.cells zb 32 (0, 0))) := Lib.hid (blk_bel (W2.bel w1 cs1) (blk_bel B1.out X2.out))
  have Y2 := Lib.hid (W2.x w1 cs1)
  have ZS := Lib.hid H1.out.off.size
  have ZO := Lib.hid H1.out.off.one
  have N1 : Hid (w.heap.size + 3 ≤ w1.heap.size) := Lib.hid (by have h1 := B1.out.size; simpa using h1)
  have HL2 : Hid (lo ≤ (W2 w1 cs1).drew.heap.size) := Lib.hid (Nat.le_trans HLO.out BW.out.size)
  clear X0 X1 X2 Z1
  generalize W2 w1 cs1 = W at *
  refine wp_region_held_drew (S := (fun V => V.heap[w1.heap.size]? = some (.cells cs1 32 (0, 0)))) (by kernel_rfl) ?_ (fun hHeld => ?_)
  · exact Y2.out
  refine wpAnyH_take (i := 0) (oi := { dst := some 66, op := Op.load 32 (Operand.tmp 12), type := 32, pos := "law.go:38", after := #[], guard := none }) (v := Value.agg cs1) rfl (by kernel_rfl) (by kernel_rfl) (by kernel_rfl) (fun _ _ _ h => h) (Or.inl ⟨by rfl, fun V hV => ex_load_row (.tmp 12) rfl w1.heap.size rfl cs1 hV ZS.out⟩) hHeld ?_
  try simp only [Act.put, List.setIfInBounds_toArray, List.set_cons_zero, List.set_cons_succ]
  refine wpAnyH_take (i := 1) (oi := { dst := some 67, op := Op.move (Operand.tmp 0), type := 23, pos := "law.go:38", after := #[], guard := none }) (v := ?_) rfl (by kernel_rfl) (by kernel_rfl) (by kernel_rfl) (fun _ _ _ h => h) (Or.inl ⟨by rfl, ?_⟩) hHeld ?_
  rotate_left
  · intro w hSw; clear hSw; go_simp; try with_reducible rfl
  try simp only [Act.put, List.setIfInBounds_toArray, List.set_cons_zero, List.set_cons_succ]
  refine wpAnyH_take (i := 3) (oi := { dst := some 69, op := Op.move (Operand.tmp 13), type := 30, pos := "law.go:38", after := #[], guard := none }) (v := ?_) rfl (by kernel_rfl) (by kernel_rfl) (by kernel_rfl) (fun _ _ _ h => h) (Or.inl ⟨by rfl, ?_⟩) hHeld ?_
  rotate_left
  · intro w hSw; clear hSw; go_simp; try with_reducible rfl
  try simp only [Act.put, List.setIfInBounds_toArray, List.set_cons_zero, List.set_cons_succ]
  refine wpAnyH_ready (rs := [2]) (by kernel_rfl) (by simp) ?_
  refine AllReadyH.cons (o := { dst := some 68, op := Op.call { callee := Callee.value (Operand.func 16), args := #[Operand.tmp 67], argTypes := #[23] }, type := 30, pos := "law.go:38", after := #[{ on := 1, ground := Ground.data }], guard := none }) rfl (fun K hK => ?_) AllReadyH.nil
  go_simp
  go_at_call 16; ((with_reducible refine (q_ready H2.out hc HL2.out).mono ?_); rintro e w2 ⟨A2, k2, rfl, r3, h3, b3, k3⟩; have R3 := Lib.hid r3; have H3 := Lib.hid h3; have B3 := Lib.hid b3; have K3 := Lib.hid k3; have YK := Lib.hid ((k3 w1.heap.size (.inr rfl)).trans Y2.out); have RJ := Lib.hid ((k3 (w.heap.size + 1 + 1) (.inl (.inr ⟨by omega, by omega⟩))).trans R2.out); have NE : Hid (¬ w.heap.size + 1 + 1 = w1.heap.size) := Lib.hid (by have := N1.out; omega); clear r3 h3 b3 k3)
  try go_wp2_with fail
  refine hK.out _ _ ?_ (fun hHeld => ?_)
  · exact YK.out
  clear hK K
  try simp only [Act.put, List.setIfInBounds_toArray, List.set_cons_zero, List.set_cons_succ]
  refine wpAnyH_ready (rs := [4]) (by kernel_rfl) (by simp) ?_
  refine AllReadyH.cons (o := { dst := some 70, op := Op.call { callee := Callee.value (Operand.func 22), args := #[Operand.tmp 68, Operand.tmp 69], argTypes := #[30, 30] }, type := 4, pos := "law.go:38", after := #[{ on := 2, ground := Ground.data }, { on := 3, ground := Ground.data }, { on := 2, ground := Ground.chain }], guard := none }) rfl (fun K hK => ?_) AllReadyH.nil
  go_simp
  go_at_call 22; ((with_reducible refine (same_yes A2 Ar (nR b) k2 (nR b) kr (b.wl.take (nR b)) w2 NL.out.1 NL.out.1 (by have := NL.out.2; omega) R3.out.rd H3.out.rd).mono ?_); rintro e w3 ⟨rfl, b4⟩; have H4 := Lib.hid (H3.out.off.later b4); have B4 := Lib.hid b4; have YL := Lib.hid (blk_bel b4 YK.out); have RK := Lib.hid (blk_bel b4 RJ.out); clear b4)
  try go_wp2_with fail
  refine hK.out _ _ ?_ (fun hHeld => ?_)
  · exact YL.out
  clear hK K
  try simp only [Act.put, List.setIfInBounds_toArray, List.set_cons_zero, List.set_cons_succ]
  refine wpAnyH_ready (rs := [5]) (by kernel_rfl) (by simp) ?_
  refine AllReadyH.cons (o := { dst := none, op := Op.store 32 (Operand.tmp 6) (Operand.tmp 66), type := 0, pos := "law.go:38", after := #[{ on := 0, ground := Ground.data }, { on := 4, ground := Ground.chain }, { on := 0, ground := Ground.phase }, { on := 1, ground := Ground.textOnly Departure.lateStores }, { on := 2, ground := Ground.textOnly Departure.lateStoresUnsure }, { on := 3, ground := Ground.textOnly Departure.lateStores }, { on := 4, ground := Ground.textOnly Departure.lateStoresUnsure }], guard := none }) rfl (fun K hK => ?_) AllReadyH.nil
  rw [if_pos (by rfl)]
  refine wp_store_row 32 (.tmp 6) (.tmp 66) rfl (w.heap.size + 1 + 1) cs1 rfl rfl 32 zb RK.out (by rw [ZS.out]; exact info32) (by rw [ZS.out]; exact zb_size) ZO.out ?_
  refine hK.out _ _ ?_ (fun hHeld => ?_)
  · exact (setRow_other _ _ _ _ (fun e => NE.out e.symm)).trans YL.out
  clear hK K
  try simp only [Act.put, List.setIfInBounds_toArray, List.set_cons_zero, List.set_cons_succ]
  refine wpAnyH_take (i := 6) (oi := { dst := some 7, op := Op.assign (Operand.tmp 70), type := 4, pos := "law.go:38", after := #[{ on := 4, ground := Ground.data }, { on := 5, ground := Ground.chain }, { on := 0, ground := Ground.phase }, { on := 1, ground := Ground.phase }, { on := 2, ground := Ground.phase }, { on := 3, ground := Ground.phase }, { on := 4, ground := Ground.phase }, { on := 5, ground := Ground.phase }], guard := none }) (v := ?_) rfl (by kernel_rfl) (by kernel_rfl) (by kernel_rfl) (fun _ _ _ h => h) (Or.inl ⟨by rfl, ?_⟩) hHeld ?_
  rotate_left
  · intro w hSw; clear hSw; go_simp; try with_reducible rfl
  try simp only [Act.put, List.setIfInBounds_toArray, List.set_cons_zero, List.set_cons_succ]
  refine wpAnyH_done (by kernel_rfl) ?_ _
  go_wp2_with fail
  have HG := Lib.hid (grown_row (w := w3) (N := w.heap.size + 1 + 1) (cs := cs1))
  have HF := Lib.hid (H4.out.apart HG.out (.inl (.inr ⟨by omega, by omega⟩)))
  have HB : Hid (Below lo w (w3.setRow (w.heap.size + 1 + 1) cs1)) := Lib.hid (below_setRow (((BW.out.mono HLO.out).trans (drew_bel _ |>.mono (Nat.le_trans HLO.out BW.out.size) |>.trans B3.out)).trans (B4.out.mono (Nat.le_trans HL2.out B3.out.size))) (by have := HLO.out; omega) _)
  refine bodyPost_ret (v := .tuple #[.agg cs1, .bool true]) ?_ rfl ⟨cs1, rfl, HF.out.less (fun g hg => .inl (.inl hg)), HB.out, fun g hg => ?_⟩
  · exact res9 _ _ (w.heap.size + 1 + 1) cs1 _ rfl rfl (setRow_heap _ _ _ _ _ _ RK.out) (by rw [ZS.out]; exact info32)
  · have hlt := HK0.out g hg
    exact (setRow_other _ _ _ _ (by omega)).trans ((B4.out.block g (H3.out.off.kept g (.inl (.inl hg)))).trans ((K3.out g (.inl (.inl hg))).trans (BW.out.block g hlt)))
end Go.Proofs.Ytlffigkjhhcohaa
