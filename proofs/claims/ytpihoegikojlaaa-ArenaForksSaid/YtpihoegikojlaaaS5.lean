/- A deed on both: a look. -/
import Derived.Test.YtpihoegikojlaaaS0
namespace Go.Proofs.Ytpihoegikojlaaa
set_option linter.unusedSimpArgs false
open Go.RowKit Go.Maps
set_option linter.unusedVariables false
variable {F : Nat → Prop}

set_option maxRecDepth 4000 in
set_option maxHeartbeats 2000000 in
theorem step_5 {lo N : Nat} {K : Nat → Prop} {b : AB} {w : World} {cs : Array Value} (h : ST lo N K b b w cs) (hlo : lo ≤ w.heap.size) {i n x : Int} (h0 : (x == 0) = false) (h1 : (x == 1) = false) (h2 : (x == 2) = false) (h3 : (x == 3) = false) : Calls Try.prog 10 #[.pointer (some ⟨N, 0, none⟩), .agg cs, .agg #[.int .i64 x, .int .i64 i, .int .i64 n]] w (SPost lo N K (b) w) := by
  have hal := run_zb
  have H0 := Lib.hid (h.wide (V3.bel w cs x i n) (K1 w K) (K1.to (V3.size w cs x i n)))
  have B0 := Lib.hid (V3.bel w cs x i n)
  have X0 := Lib.hid (V3.x0 w cs x i n)
  have X1 := Lib.hid (V3.x1 w cs x i n)
  have X2 := Lib.hid (V3.x2 w cs x i n)
  have Z3 := Lib.hid (V3.size w cs x i n)
  have HLO := Lib.hid hlo
  have HS0 := Lib.hid h.size
  have HO0 := Lib.hid h.one
  have HK0 := Lib.hid h.kept
  have HIV := Lib.hid h.iv.1
  have HC0 := Lib.hid h.cells
  have HM0 := Lib.hid h.iv.1.top60
  clear h
  go_enter Try.func10, Try.ntmps10
  have C := Lib.hid (q_get H0.out i)
  obtain ⟨tt, htt⟩ : ∃ t, t = thereD b i := ⟨_, rfl⟩
  rw [← htt] at C
  have HTT := Lib.hid htt
  clear htt
  cases tt
  · rw [if_neg (by simp)] at C
    go_wp2_with (first
      | (go_at_call 22; ((with_reducible refine C.out.mono ?_); rintro e w1 ⟨rfl, rfl⟩))
      | (refine wpList_load_row rfl 33 (.tmp 4) rfl w.heap.size rfl 33 cs (0, 0) _ X0.out Try.underlying33 rfl (by rw [HS0.out]; exact info33) ?_)
      | (go_at_call 30; ((with_reducible refine (d_there H0.out i).mono ?_); rw [← HTT.out]; rintro e w1 ⟨rfl, b1⟩; have B1 := Lib.hid b1; have XA := Lib.hid (blk_bel b1 X0.out); have RA := Lib.hid (blk_bel b1 X2.out); clear b1))
      | (refine wpList_load_row rfl 33 (.tmp 4) rfl w.heap.size rfl 33 cs (0, 0) _ XA.out Try.underlying33 rfl (by rw [HS0.out]; exact info33) ?_)
      | (refine wpList_store_row rfl 33 (.tmp 6) (.tmp 130) rfl (w.heap.size + 1 + 1) cs rfl rfl 33 zb RA.out (by rw [HS0.out]; exact info33) (by rw [HS0.out]; exact zb_size) HO0.out ?_; obtain ⟨V, hV⟩ : ∃ V, V = w1.setRow (w.heap.size + 1 + 1) cs := ⟨_, rfl⟩; rw [← hV]; have HV := Lib.hid hV; clear hV)
      | fail)
    have B1d := B1.out
    have HG := grown_row (w := w1) (N := w.heap.size + 1 + 1) (cs := cs)
    have HF := (H0.out.later B1.out).apart HG (.inr ⟨by omega, by omega⟩)
    have BW2 : Below lo w w1 := (B0.out.mono HLO.out).trans (B1.out.mono (Nat.le_trans HLO.out B0.out.size))
    have HB : Below lo w (w1.setRow (w.heap.size + 1 + 1) cs) := below_setRow BW2 (by have := HLO.out; omega) _
    have HX := setRow_heap _ _ _ cs _ _ RA.out
    have HKG : ∀ g, K g → (w1.setRow (w.heap.size + 1 + 1) cs).heap[g]? = w.heap[g]? := fun g hg => by
      have hlt := HK0.out g hg
      have hz := Z3.out
      exact (setRow_other _ _ _ _ (by omega)).trans ((B1.out.block g (by omega)).trans (B0.out.block g hlt))
    rw [← HV.out] at HF HB HX HKG
    refine bodyPost_ret (v := .tuple #[.agg cs, .bool true]) ?_ rfl ⟨cs, rfl, HF.less (fun g hg => .inl hg), HB, HKG⟩
    exact res10 _ _ (w.heap.size + 1 + 1) cs _ rfl rfl HX (by rw [HS0.out]; exact info33)
  · rw [if_pos rfl] at C
    obtain ⟨t1, t2, t3⟩ := there_in HTT.out.symm
    obtain ⟨k, rfl⟩ : ∃ k : Nat, i = k := ⟨i.toNat, by omega⟩
    have hk64 : k < 64 := by omega
    have hk65 : (k : Int) < 64 := by omega
    have hk0 : (0 : Int) ≤ (k : Int) := by omega
    rw [Int.toNat_natCast] at C
    clear t1 t2 t3
    go_wp2_with (first
      | (go_at_call 22; ((with_reducible refine C.out.mono ?_); rintro e w1 ⟨rfl, rfl⟩))
      | (refine wpList_load_row rfl 33 (.tmp 4) rfl w.heap.size rfl 33 cs (0, 0) _ X0.out Try.underlying33 rfl (by rw [HS0.out]; exact info33) ?_)
      | (go_at_call 30; ((with_reducible refine (d_there H0.out (k : Int)).mono ?_); rw [← HTT.out]; rintro e w1 ⟨rfl, b1⟩; have B1 := Lib.hid b1; have XA := Lib.hid (blk_bel b1 X0.out); have DA := Lib.hid (blk_bel b1 X1.out); have RA := Lib.hid (blk_bel b1 X2.out); clear b1))
      | fail)
    have XB : Hid (w1.drew.heap[w.heap.size]? = some (.cells cs 33 (0, 0))) := XA
    have DB : Hid (w1.drew.heap[w.heap.size + 1]? = some (.cells #[.int .i64 x, .int .i64 (k : Int), .int .i64 n] 37 (0, 0))) := DA
    have RB : Hid (w1.drew.heap[w.heap.size + 1 + 1]? = some (.cells zb 33 (0, 0))) := RA
    refine wp_region_held_drew (S := (fun V => V.heap[w.heap.size]? = some (.cells cs 33 (0, 0)) ∧ V.cell? ⟨w.heap.size + 1, 1, none⟩ = some (.int .i64 k))) (by kernel_rfl) ?_ (fun hHeld => ?_)
    · exact ⟨XA.out, cell_of_row _ _ 1 _ _ _ DA.out⟩
    refine wpAnyH_take (i := 0) (oi := { dst := some 137, op := Op.load 33 (Operand.tmp 4), type := 33, pos := "law.go:60", after := #[], guard := none }) (v := Value.agg cs) rfl (by kernel_rfl) (by kernel_rfl) (by kernel_rfl) (fun _ _ _ h => h) (Or.inl ⟨by rfl, fun V hV => ex_load_row (.tmp 4) rfl w.heap.size rfl cs hV.1 HS0.out⟩) hHeld ?_
    try simp only [Act.put, List.setIfInBounds_toArray, List.set_cons_zero, List.set_cons_succ]
    refine wpAnyH_take (i := 1) (oi := { dst := some 138, op := Op.move (Operand.tmp 23), type := 4, pos := "law.go:60", after := #[], guard := none }) (v := ?_) rfl (by kernel_rfl) (by kernel_rfl) (by kernel_rfl) (fun _ _ _ h => h) (Or.inl ⟨by rfl, ?_⟩) hHeld ?_
    rotate_left
    · intro w hSw; clear hSw; go_simp; try with_reducible rfl
    try simp only [Act.put, List.setIfInBounds_toArray, List.set_cons_zero, List.set_cons_succ]
    refine wpAnyH_take (i := 2) (oi := { dst := some 139, op := Op.move (Operand.tmp 138), type := 4, pos := "law.go:60", after := #[{ on := 1, ground := Ground.data }], guard := none }) (v := ?_) rfl (by kernel_rfl) (by kernel_rfl) (by kernel_rfl) (fun _ _ _ h => h) (Or.inl ⟨by rfl, ?_⟩) hHeld ?_
    rotate_left
    · intro w hSw; clear hSw; go_simp; try with_reducible rfl
    try simp only [Act.put, List.setIfInBounds_toArray, List.set_cons_zero, List.set_cons_succ]
    refine wpAnyH_take (i := 3) (oi := { dst := some 140, op := Op.move (Operand.tmp 22), type := 3, pos := "law.go:60", after := #[{ on := 2, ground := Ground.guard }, { on := 11, ground := Ground.gcOnly Departure.lateStores }], guard := some (2, true) }) (v := ?_) rfl (by kernel_rfl) (by kernel_rfl) (by kernel_rfl) (fun _ _ _ h => h) (Or.inl ⟨by rfl, ?_⟩) hHeld ?_
    rotate_left
    · intro w hSw; clear hSw; go_simp; try with_reducible rfl
    try simp only [Act.put, List.setIfInBounds_toArray, List.set_cons_zero, List.set_cons_succ]
    refine wpAnyH_take (i := 4) (oi := { dst := some 141, op := Op.fieldAddr 37 (Operand.tmp 5) 1, type := 0, pos := "law.go:60", after := #[{ on := 2, ground := Ground.guard }, { on := 11, ground := Ground.gcOnly Departure.lateStores }], guard := some (2, true) }) (v := ?_) rfl (by kernel_rfl) (by kernel_rfl) (by kernel_rfl) (fun _ _ _ h => h) (Or.inl ⟨by rfl, ?_⟩) hHeld ?_
    rotate_left
    · intro w hSw; clear hSw; go_simp; try with_reducible rfl
    try simp only [Act.put, List.setIfInBounds_toArray, List.set_cons_zero, List.set_cons_succ]
    refine wpAnyH_take (i := 5) (oi := { dst := some 142, op := Op.load 3 (Operand.tmp 141), type := 3, pos := "law.go:60", after := #[{ on := 4, ground := Ground.data }, { on := 2, ground := Ground.guard }, { on := 11, ground := Ground.gcOnly Departure.lateStores }], guard := some (2, true) }) (v := Value.int .i64 k) rfl (by kernel_rfl) (by kernel_rfl) (by kernel_rfl) (fun _ _ _ h => h) (Or.inl ⟨by rfl, ?_⟩) hHeld ?_
    · intro V hV; have hc0 := hV.2; clear hV; go_simp
    try simp only [Act.put, List.setIfInBounds_toArray, List.set_cons_zero, List.set_cons_succ]
    refine wpAnyH_take (i := 6) (oi := { dst := some 143, op := Op.fieldAddr 33 (Operand.tmp 4) 3, type := 0, pos := "law.go:60", after := #[{ on := 2, ground := Ground.guard }, { on := 11, ground := Ground.gcOnly Departure.lateStores }], guard := some (2, true) }) (v := ?_) rfl (by kernel_rfl) (by kernel_rfl) (by kernel_rfl) (fun _ _ _ h => h) (Or.inl ⟨by rfl, ?_⟩) hHeld ?_
    rotate_left
    · intro w hSw; clear hSw; go_simp; try with_reducible rfl
    try simp only [Act.put, List.setIfInBounds_toArray, List.set_cons_zero, List.set_cons_succ]
    refine wpAnyH_take (i := 7) (oi := { dst := some 144, op := Op.indexAddr 30 (Operand.tmp 143) (Operand.tmp 142), type := 0, pos := "law.go:60", after := #[{ on := 6, ground := Ground.data }, { on := 5, ground := Ground.data }, { on := 2, ground := Ground.guard }, { on := 11, ground := Ground.gcOnly Departure.lateStores }], guard := some (2, true) }) (v := ?_) rfl (by kernel_rfl) (by kernel_rfl) (by kernel_rfl) (fun _ _ _ h => h) (Or.inl ⟨by rfl, ?_⟩) hHeld ?_
    rotate_left
    · intro w hSw; clear hSw; go_simp; try with_reducible rfl
    try simp only [Act.put, List.setIfInBounds_toArray, List.set_cons_zero, List.set_cons_succ]
    refine wpAnyH_take (i := 8) (oi := { dst := some 145, op := Op.load 3 (Operand.tmp 144), type := 3, pos := "law.go:60", after := #[{ on := 7, ground := Ground.data }, { on := 2, ground := Ground.guard }, { on := 11, ground := Ground.gcOnly Departure.lateStores }], guard := some (2, true) }) (v := Value.int .i64 (b.vl k)) rfl (by kernel_rfl) (by kernel_rfl) (by kernel_rfl) (fun _ _ _ h => h) (Or.inl ⟨by rfl, ?_⟩) hHeld ?_
    · intro V hV; have hc0 := (cell_of_row _ _ (66 + k) _ _ _ hV.1).trans (HC0.out.2.2.2 k hk64); clear hV; go_simp
    try simp only [Act.put, List.setIfInBounds_toArray, List.set_cons_zero, List.set_cons_succ]
    refine wpAnyH_take (i := 9) (oi := { dst := some 146, op := Op.binOp BinOp.eql 3 (Operand.tmp 140) (Operand.tmp 145) 3, type := 4, pos := "law.go:60", after := #[{ on := 3, ground := Ground.data }, { on := 8, ground := Ground.data }, { on := 2, ground := Ground.guard }, { on := 11, ground := Ground.gcOnly Departure.lateStores }], guard := some (2, true) }) (v := ?_) rfl (by kernel_rfl) (by kernel_rfl) (by kernel_rfl) (fun _ _ _ h => h) (Or.inl ⟨by rfl, ?_⟩) hHeld ?_
    rotate_left
    · intro w hSw; clear hSw; go_simp; try with_reducible rfl
    try simp only [Act.put, List.setIfInBounds_toArray, List.set_cons_zero, List.set_cons_succ]
    refine wpAnyH_take (i := 10) (oi := { dst := some 147, op := Op.pick (Operand.tmp 139) (Operand.tmp 146) (Operand.const (Value.bool false)), type := 4, pos := "law.go:60", after := #[{ on := 2, ground := Ground.data }, { on := 9, ground := Ground.data }, { on := 11, ground := Ground.gcOnly Departure.lateStores }], guard := none }) (v := ?_) rfl (by kernel_rfl) (by kernel_rfl) (by kernel_rfl) (fun _ _ _ h => h) (Or.inl ⟨by rfl, ?_⟩) hHeld ?_
    rotate_left
    · intro w hSw; clear hSw; go_simp; try with_reducible rfl
    try simp only [Act.put, List.setIfInBounds_toArray, List.set_cons_zero, List.set_cons_succ]
    refine wpAnyH_ready (rs := [11]) (by kernel_rfl) (by simp) ?_
    refine AllReadyH.cons (o := { dst := none, op := Op.store 33 (Operand.tmp 6) (Operand.tmp 137), type := 0, pos := "law.go:60", after := #[{ on := 0, ground := Ground.data }, { on := 2, ground := Ground.chain }, { on := 0, ground := Ground.phase }, { on := 1, ground := Ground.textOnly Departure.lateStores }, { on := 2, ground := Ground.textOnly Departure.lateStores }, { on := 3, ground := Ground.textOnly Departure.lateStores }, { on := 4, ground := Ground.textOnly Departure.lateStores }, { on := 5, ground := Ground.textOnly Departure.lateStores }, { on := 6, ground := Ground.textOnly Departure.lateStores }, { on := 7, ground := Ground.textOnly Departure.lateStores }, { on := 8, ground := Ground.textOnly Departure.lateStores }, { on := 9, ground := Ground.textOnly Departure.lateStores }, { on := 10, ground := Ground.textOnly Departure.lateStores }], guard := none }) rfl (fun K hK => ?_) AllReadyH.nil
    rw [if_pos (by rfl)]
    refine wp_store_row 33 (.tmp 6) (.tmp 137) rfl (w.heap.size + 1 + 1) cs rfl rfl 33 zb RB.out (by rw [HS0.out]; exact info33) (by rw [HS0.out]; exact zb_size) HO0.out ?_
    refine hK.out _ _ ?_ (fun hHeld => ?_)
    · exact ⟨(setRow_other _ _ _ _ (by omega)).trans XB.out, cell_of_row _ _ 1 _ _ _ ((setRow_other _ _ _ _ (by simp)).trans DB.out)⟩
    clear hK K
    try simp only [Act.put, List.setIfInBounds_toArray, List.set_cons_zero, List.set_cons_succ]
    refine wpAnyH_take (i := 12) (oi := { dst := some 7, op := Op.assign (Operand.tmp 147), type := 4, pos := "law.go:60", after := #[{ on := 10, ground := Ground.data }, { on := 11, ground := Ground.chain }, { on := 0, ground := Ground.phase }, { on := 1, ground := Ground.phase }, { on := 2, ground := Ground.phase }, { on := 3, ground := Ground.phase }, { on := 4, ground := Ground.phase }, { on := 5, ground := Ground.phase }, { on := 6, ground := Ground.phase }, { on := 7, ground := Ground.phase }, { on := 8, ground := Ground.phase }, { on := 9, ground := Ground.phase }, { on := 10, ground := Ground.phase }, { on := 11, ground := Ground.phase }], guard := none }) (v := ?_) rfl (by kernel_rfl) (by kernel_rfl) (by kernel_rfl) (fun _ _ _ h => h) (Or.inl ⟨by rfl, ?_⟩) hHeld ?_
    rotate_left
    · intro w hSw; clear hSw; go_simp; try with_reducible rfl
    try simp only [Act.put, List.setIfInBounds_toArray, List.set_cons_zero, List.set_cons_succ]
    refine wpAnyH_done (by kernel_rfl) ?_ _
    go_wp2_with fail
    have BD := Lib.hid (B1.out.trans ((drew_bel w1).mono B1.out.size))
    have HG := grown_row (w := w1.drew) (N := w.heap.size + 1 + 1) (cs := cs)
    have HF := (H0.out.later BD.out).apart HG (.inr ⟨by omega, by omega⟩)
    have BW2 : Below lo w w1.drew := (B0.out.mono HLO.out).trans (BD.out.mono (Nat.le_trans HLO.out B0.out.size))
    have HB : Below lo w (w1.drew.setRow (w.heap.size + 1 + 1) cs) := below_setRow BW2 (by have := HLO.out; omega) _
    have HX := setRow_heap _ _ _ cs _ _ RB.out
    have HKG : ∀ g, K g → (w1.drew.setRow (w.heap.size + 1 + 1) cs).heap[g]? = w.heap[g]? := fun g hg => by
      have hlt := HK0.out g hg
      have hz := Z3.out
      exact (setRow_other _ _ _ _ (by omega)).trans ((BD.out.block g (by omega)).trans (B0.out.block g hlt))
    refine bodyPost_ret (v := .tuple #[.agg cs, .bool true]) ?_ rfl ⟨cs, rfl, HF.less (fun g hg => .inl hg), HB, HKG⟩
    exact res10 _ _ (w.heap.size + 1 + 1) cs _ rfl rfl HX (by rw [HS0.out]; exact info33)
end Go.Proofs.Ytpihoegikojlaaa
