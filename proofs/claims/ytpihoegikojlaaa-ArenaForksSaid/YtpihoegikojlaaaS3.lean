/- A deed on both: many are taken. -/
import Derived.Test.YtpihoegikojlaaaS0
namespace Go.Proofs.Ytpihoegikojlaaa
set_option linter.unusedSimpArgs false
open Go.RowKit Go.Maps
set_option linter.unusedVariables false
variable {F : Nat → Prop}

theorem m60 (b : AB) (iv : IV b) (n v : Int) : (manyR b n v).length ≤ 60 := by
  unfold manyR
  split
  · simp
  · split
    · simp
    · rw [manyL_len]
      have := iv.m1
      omega

set_option maxRecDepth 4000 in
set_option maxHeartbeats 2000000 in
theorem step_1 {lo N : Nat} {K : Nat → Prop} {b : AB} {w : World} {cs : Array Value} (h : ST lo N K b b w cs) (hlo : lo ≤ w.heap.size) {i n : Int} : Calls Try.prog 10 #[.pointer (some ⟨N, 0, none⟩), .agg cs, .agg #[.int .i64 1, .int .i64 i, .int .i64 n]] w (SPost lo N K (manyB b n i) w) := by
  have hal := run_zb
  have H0 := Lib.hid (h.wide (V3.bel w cs 1 i n) (K1 w K) (K1.to (V3.size w cs 1 i n)))
  have B0 := Lib.hid (V3.bel w cs 1 i n)
  have X0 := Lib.hid (V3.x0 w cs 1 i n)
  have X1 := Lib.hid (V3.x1 w cs 1 i n)
  have X2 := Lib.hid (V3.x2 w cs 1 i n)
  have Z3 := Lib.hid (V3.size w cs 1 i n)
  have HLO := Lib.hid hlo
  have HS0 := Lib.hid h.size
  have HO0 := Lib.hid h.one
  have HK0 := Lib.hid h.kept
  have HIV := Lib.hid h.iv.1
  have HC0 := Lib.hid h.cells
  clear h
  go_enter Try.func10, Try.ntmps10
  go_wp2_with (first
    | (go_at_call 24; ((with_reducible refine (q_many H0.out (Nat.le_trans HLO.out B0.out.size) n i).mono ?_); rintro e w1 ⟨L, m, k, rfl, hl, hr, h1, b1, k1⟩; have H1 := Lib.hid h1; have B1 := Lib.hid b1; have K1H := Lib.hid k1; have HL := Lib.hid hl; have HR := Lib.hid hr; have XA := Lib.hid ((k1 w.heap.size (.inr ⟨by omega, by omega⟩)).trans X0.out); have DA := Lib.hid ((k1 (w.heap.size + 1) (.inr ⟨by omega, by omega⟩)).trans X1.out); have RA := Lib.hid ((k1 (w.heap.size + 1 + 1) (.inr ⟨by omega, by omega⟩)).trans X2.out); have xd2 : w1.cell? ⟨w.heap.size + 1, 2, none⟩ = some (.int .i64 n) := cell_of_row _ _ 2 _ _ _ DA.out; have xd1 : w1.cell? ⟨w.heap.size + 1, 1, none⟩ = some (.int .i64 i) := cell_of_row _ _ 1 _ _ _ DA.out; clear h1 b1 k1 hl hr))
    | (refine wpList_load_row rfl 33 (.tmp 4) rfl w.heap.size rfl 33 cs (0, 0) _ XA.out Try.underlying33 rfl (by rw [HS0.out]; exact info33) ?_)
    | (go_at_call 25; ((with_reducible refine (d_many H1.out n i).mono ?_); rintro e w2 ⟨cs1, L2, m2, k2, rfl, hl2, hr2, h2, b2⟩; have H2 := Lib.hid h2; have B2 := Lib.hid b2; have HL2 := Lib.hid hl2; have HR2 := Lib.hid hr2; have z1 := (heap_alloc_new w2 (.cells zb 33)); have Z1 := Lib.hid z1; clear h2 b2 z1 hl2 hr2))
    | (refine wpList_store_row rfl 33 _ _ rfl w2.heap.size cs1 rfl rfl 33 zb Z1.out (by rw [H2.out.size]; exact info33) (by rw [H2.out.size]; exact zb_size) H2.out.one ?_)
    | fail)
  change Code.wp _ _ _ _ (W2 w2 cs1)
  have H3 := Lib.hid (H2.out.wide ((W2.bel w2 cs1).trans ((drew_bel _).mono (W2.bel w2 cs1).size)) (K2 w K w2.heap.size) (by rintro g (e | e); exact .inl e; exact .inr ⟨by omega, by have := W2.size w2 cs1; show g < (W2 w2 cs1).heap.size; omega⟩))
  have N0 : Hid (w.heap.size + 3 ≤ w1.heap.size) := Lib.hid (by have h1 := (Array.getElem?_eq_some_iff.1 RA.out).1; omega)
  have N1 : Hid (w.heap.size + 3 ≤ w2.heap.size) := Lib.hid (by have h1 := B2.out.size; have := N0.out; omega)
  have BB := Lib.hid (B2.out.trans ((W2.bel w2 cs1).mono B2.out.size))
  have D2 : Hid ((W2 w2 cs1).heap[w.heap.size + 1]? = some (.cells #[.int .i64 1, .int .i64 i, .int .i64 n] 37 (0, 0))) := Lib.hid (blk_bel BB.out DA.out)
  have R2 : Hid ((W2 w2 cs1).heap[w.heap.size + 1 + 1]? = some (.cells zb 33 (0, 0))) := Lib.hid (blk_bel BB.out RA.out)
  have Y2 := Lib.hid (W2.x w2 cs1)
  have ZS := Lib.hid H2.out.size
  have ZO := Lib.hid H2.out.one
  have CS := Lib.hid (fun V (hV : Below w2.heap.size w2 V) => same_yes L L2 m k m2 k2 (manyR b n i) V HL.out HL2.out (by have := m60 b HIV.out n i; rw [HL.out] at this; omega) (Rd.later HR.out (B2.out.trans (hV.mono B2.out.size))) (Rd.later HR2.out hV))
  have BQ := Lib.hid ((W2.bel w2 cs1).trans ((drew_bel _).mono (W2.bel w2 cs1).size))
  clear X0 X1 X2 Z1 xd1 xd2
  have BD : Hid (Below w2.heap.size w2 (W2 w2 cs1)) := Lib.hid (W2.bel w2 cs1)
  have HH2 := Lib.hid (W2.size w2 cs1)
  generalize W2 w2 cs1 = W at *
  refine wp_region_held_drew (S := (fun V => V.heap[w2.heap.size]? = some (.cells cs1 33 (0, 0)))) (by kernel_rfl) ?_ (fun hHeld => ?_)
  · exact Y2.out
  refine wpAnyH_take (i := 0) (oi := { dst := some 73, op := Op.load 33 (Operand.tmp 15), type := 33, pos := "law.go:48", after := #[], guard := none }) (v := Value.agg cs1) rfl (by kernel_rfl) (by kernel_rfl) (by kernel_rfl) (fun _ _ _ h => h) (Or.inl ⟨by rfl, fun V hV => ex_load_row (.tmp 15) rfl w2.heap.size rfl cs1 hV ZS.out⟩) hHeld ?_
  try simp only [Act.put, List.setIfInBounds_toArray, List.set_cons_zero, List.set_cons_succ]
  refine wpAnyH_take (i := 1) (oi := { dst := some 74, op := Op.move (Operand.tmp 13), type := 31, pos := "law.go:48", after := #[], guard := none }) (v := ?_) rfl (by kernel_rfl) (by kernel_rfl) (by kernel_rfl) (fun _ _ _ h => h) (Or.inl ⟨by rfl, ?_⟩) hHeld ?_
  rotate_left
  · intro w hSw; clear hSw; go_simp; try with_reducible rfl
  try simp only [Act.put, List.setIfInBounds_toArray, List.set_cons_zero, List.set_cons_succ]
  refine wpAnyH_take (i := 2) (oi := { dst := some 75, op := Op.move (Operand.tmp 16), type := 31, pos := "law.go:48", after := #[], guard := none }) (v := ?_) rfl (by kernel_rfl) (by kernel_rfl) (by kernel_rfl) (fun _ _ _ h => h) (Or.inl ⟨by rfl, ?_⟩) hHeld ?_
  rotate_left
  · intro w hSw; clear hSw; go_simp; try with_reducible rfl
  try simp only [Act.put, List.setIfInBounds_toArray, List.set_cons_zero, List.set_cons_succ]
  refine wpAnyH_ready (rs := [3]) (by kernel_rfl) (by simp) ?_
  refine AllReadyH.cons (o := { dst := some 76, op := Op.call { callee := Callee.value (Operand.func 26), args := #[Operand.tmp 74, Operand.tmp 75], argTypes := #[31, 31] }, type := 4, pos := "law.go:48", after := #[{ on := 1, ground := Ground.data }, { on := 2, ground := Ground.data }], guard := none }) rfl (fun K hK => ?_) AllReadyH.nil
  go_simp
  go_at_call 26; ((with_reducible refine (CS.out _ BQ.out).mono ?_); rintro e w3 ⟨rfl, b3⟩; have B3 := Lib.hid b3; have H4 := Lib.hid (H3.out.later b3); have YK := Lib.hid (blk_bel ((drew_bel W).trans (b3.mono (Nat.le_refl _))) Y2.out); have RK := Lib.hid (blk_bel ((drew_bel W).trans (b3.mono (Nat.le_refl _))) R2.out); have NE : Hid (¬ w.heap.size + 1 + 1 = w2.heap.size) := Lib.hid (by have := N1.out; omega); clear b3)
  try go_wp2_with fail
  refine hK.out _ _ ?_ (fun hHeld => ?_)
  · exact YK.out
  clear hK K
  try simp only [Act.put, List.setIfInBounds_toArray, List.set_cons_zero, List.set_cons_succ]
  refine wpAnyH_take (i := 4) (oi := { dst := some 77, op := Op.move (Operand.tmp 76), type := 4, pos := "law.go:48", after := #[{ on := 3, ground := Ground.data }, { on := 3, ground := Ground.chain }], guard := none }) (v := ?_) rfl (by kernel_rfl) (by kernel_rfl) (by kernel_rfl) (fun _ _ _ h => h) (Or.inl ⟨by rfl, ?_⟩) hHeld ?_
  rotate_left
  · intro w hSw; clear hSw; go_simp; try with_reducible rfl
  try simp only [Act.put, List.setIfInBounds_toArray, List.set_cons_zero, List.set_cons_succ]
  refine wpAnyH_take (i := 5) (oi := { dst := some 78, op := Op.move (Operand.tmp 14), type := 24, pos := "law.go:48", after := #[{ on := 4, ground := Ground.guard }, { on := 9, ground := Ground.gcOnly Departure.lateStores }], guard := some (4, true) }) (v := ?_) rfl (by kernel_rfl) (by kernel_rfl) (by kernel_rfl) (fun _ _ _ h => h) (Or.inl ⟨by rfl, ?_⟩) hHeld ?_
  rotate_left
  · intro w hSw; clear hSw; go_simp; try with_reducible rfl
  try simp only [Act.put, List.setIfInBounds_toArray, List.set_cons_zero, List.set_cons_succ]
  refine wpAnyH_take (i := 6) (oi := { dst := some 79, op := Op.move (Operand.tmp 17), type := 24, pos := "law.go:48", after := #[{ on := 4, ground := Ground.guard }, { on := 9, ground := Ground.gcOnly Departure.lateStores }], guard := some (4, true) }) (v := ?_) rfl (by kernel_rfl) (by kernel_rfl) (by kernel_rfl) (fun _ _ _ h => h) (Or.inl ⟨by rfl, ?_⟩) hHeld ?_
  rotate_left
  · intro w hSw; clear hSw; go_simp; try with_reducible rfl
  try simp only [Act.put, List.setIfInBounds_toArray, List.set_cons_zero, List.set_cons_succ]
  refine wpAnyH_take (i := 7) (oi := { dst := some 80, op := Op.binOp BinOp.eql 24 (Operand.tmp 78) (Operand.tmp 79) 24, type := 4, pos := "law.go:48", after := #[{ on := 5, ground := Ground.data }, { on := 6, ground := Ground.data }, { on := 4, ground := Ground.guard }, { on := 9, ground := Ground.gcOnly Departure.lateStores }], guard := some (4, true) }) (v := ?_) rfl (by kernel_rfl) (by kernel_rfl) (by kernel_rfl) (fun _ _ _ h => h) (Or.inl ⟨by rfl, ?_⟩) hHeld ?_
  rotate_left
  · intro w hSw; clear hSw; go_simp; try with_reducible rfl
  try simp only [Act.put, List.setIfInBounds_toArray, List.set_cons_zero, List.set_cons_succ]
  refine wpAnyH_take (i := 8) (oi := { dst := some 81, op := Op.pick (Operand.tmp 77) (Operand.tmp 80) (Operand.const (Value.bool false)), type := 4, pos := "law.go:48", after := #[{ on := 4, ground := Ground.data }, { on := 7, ground := Ground.data }, { on := 9, ground := Ground.gcOnly Departure.lateStores }], guard := none }) (v := ?_) rfl (by kernel_rfl) (by kernel_rfl) (by kernel_rfl) (fun _ _ _ h => h) (Or.inl ⟨by rfl, ?_⟩) hHeld ?_
  rotate_left
  · intro w hSw; clear hSw; go_simp; try with_reducible rfl
  try simp only [Act.put, List.setIfInBounds_toArray, List.set_cons_zero, List.set_cons_succ]
  refine wpAnyH_ready (rs := [9]) (by kernel_rfl) (by simp) ?_
  refine AllReadyH.cons (o := { dst := none, op := Op.store 33 (Operand.tmp 6) (Operand.tmp 73), type := 0, pos := "law.go:48", after := #[{ on := 0, ground := Ground.data }, { on := 4, ground := Ground.chain }, { on := 0, ground := Ground.phase }, { on := 1, ground := Ground.textOnly Departure.lateStores }, { on := 2, ground := Ground.textOnly Departure.lateStores }, { on := 3, ground := Ground.textOnly Departure.lateStoresUnsure }, { on := 4, ground := Ground.textOnly Departure.lateStores }, { on := 5, ground := Ground.textOnly Departure.lateStores }, { on := 6, ground := Ground.textOnly Departure.lateStores }, { on := 7, ground := Ground.textOnly Departure.lateStores }, { on := 8, ground := Ground.textOnly Departure.lateStores }], guard := none }) rfl (fun K hK => ?_) AllReadyH.nil
  rw [if_pos (by rfl)]
  refine wp_store_row 33 (.tmp 6) (.tmp 73) rfl (w.heap.size + 1 + 1) cs1 rfl rfl 33 zb RK.out (by rw [ZS.out]; exact info33) (by rw [ZS.out]; exact zb_size) ZO.out ?_
  refine hK.out _ _ ?_ (fun hHeld => ?_)
  · exact (setRow_other _ _ _ _ (fun e => NE.out e.symm)).trans YK.out
  clear hK K
  try simp only [Act.put, List.setIfInBounds_toArray, List.set_cons_zero, List.set_cons_succ]
  refine wpAnyH_take (i := 10) (oi := { dst := some 7, op := Op.assign (Operand.tmp 81), type := 4, pos := "law.go:48", after := #[{ on := 8, ground := Ground.data }, { on := 9, ground := Ground.chain }, { on := 0, ground := Ground.phase }, { on := 1, ground := Ground.phase }, { on := 2, ground := Ground.phase }, { on := 3, ground := Ground.phase }, { on := 4, ground := Ground.phase }, { on := 5, ground := Ground.phase }, { on := 6, ground := Ground.phase }, { on := 7, ground := Ground.phase }, { on := 8, ground := Ground.phase }, { on := 9, ground := Ground.phase }], guard := none }) (v := ?_) rfl (by kernel_rfl) (by kernel_rfl) (by kernel_rfl) (fun _ _ _ h => h) (Or.inl ⟨by rfl, ?_⟩) hHeld ?_
  rotate_left
  · intro w hSw; clear hSw; go_simp; try with_reducible rfl
  try simp only [Act.put, List.setIfInBounds_toArray, List.set_cons_zero, List.set_cons_succ]
  refine wpAnyH_done (by kernel_rfl) ?_ _
  go_wp2_with fail
  have HG := Lib.hid (grown_row (w := w3) (N := w.heap.size + 1 + 1) (cs := cs1))
  have HF := Lib.hid (H4.out.apart HG.out (.inl (.inr ⟨by omega, by omega⟩)))
  have BW1 : Below lo w w1 := (B0.out.mono HLO.out).trans B1.out
  have BW2 : Below lo w w3 := (BW1.trans ((B2.out.trans (BD.out.mono B2.out.size)).mono (by have := N0.out; have := HLO.out; omega))).trans (((drew_bel W).trans (B3.out.mono (Nat.le_refl _))).mono (by have := N1.out; have := HLO.out; have := HH2.out; omega))
  have HB : Hid (Below lo w (w3.setRow (w.heap.size + 1 + 1) cs1)) := Lib.hid (below_setRow BW2 (by have := HLO.out; omega) _)
  refine bodyPost_ret (v := .tuple #[.agg cs1, .bool true]) ?_ rfl ⟨cs1, rfl, HF.out.less (fun g hg => .inl (.inl hg)), HB.out, fun g hg => ?_⟩
  · exact res10 _ _ (w.heap.size + 1 + 1) cs1 _ rfl rfl (setRow_heap _ _ _ _ _ _ RK.out) (by rw [ZS.out]; exact info33)
  · have hlt := HK0.out g hg
    have n0 := N0.out
    have n1 := N1.out
    have n2 := HH2.out
    exact (setRow_other _ _ _ _ (by omega)).trans ((B3.out.block g (by show g < W.heap.size; omega)).trans ((BD.out.block g (by omega)).trans ((B2.out.block g (by omega)).trans ((K1H.out g (.inl hg)).trans (B0.out.block g hlt)))))
end Go.Proofs.Ytpihoegikojlaaa
