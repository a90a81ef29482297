/- The document's arena: Take where none is left, and of a new place. -/
import Derived.Test.YtpihoegikojlaaaB4
namespace Go.Proofs.Ytpihoegikojlaaa
set_option linter.unusedSimpArgs false
open Go.RowKit Go.Maps
set_option linter.unusedVariables false
variable {F : Nat → Prop}

/-- What a call hands back that hands back an arena and two numbers. -/
def TPost (F : Nat → Prop) (w : World) (b' : AB) (i v : Int) (e : Ending) (w' : World) : Prop := ∃ cs', e = .returned (.tuple #[.agg cs', .int .i64 i, .int .i64 v]) ∧ RBk F w' cs' b' ∧ Below w.heap.size w w'
theorem ex_load_row {o : Oper} {a : Act} {w : World} (x : Operand) (ho : o.op = .load 33 x) (g : Nat) (hx : a.eval x = .pointer (some ⟨g, 0, none⟩)) (cs : Array Value) (hg : w.heap[g]? = some (.cells cs 33 (0, 0))) (hs : cs.size = 131) :
    (execOp a.eval o).run Try.prog w = .ok (.value (.agg cs)) w := by
  unfold execOp
  simp only [ho, hx, Instr.loadAt, Instr.sureAddr, Sem.run_bind, Sem.run_pure, Result.andThen_ok, run_loadVar_row w g 33 33 cs (0, 0) _ hg Try.underlying33 rfl (by rw [hs]; exact info33)]
/-- An arena and two numbers are handed back. -/
theorem book_back3 {fn : Func} {p q r : Tmp} {R : Ending → World → Prop} {a : Act} {W : World} {g : Nat} {cs : Array Value} {v u : Value} (hr : fn.results = #[.cell p 33, .tmp q, .tmp r]) (hp : a.tmps.getD p undef = .pointer (some ⟨g, 0, none⟩)) (hq : a.tmps.getD q undef = v) (hu : a.tmps.getD r undef = u)
    (hg : W.heap[g]? = some (.cells cs 33 (0, 0))) (hs : cs.size = 131) (h : R (.returned (.tuple #[.agg cs, v, u])) W) (hd : a.defers = []) : bodyPost Try.prog fn R Exit.ret a W := by
  refine bodyPost_ret (v := .tuple #[.agg cs, v, u]) ?_ hd h
  have hp' : a.tmps[p]?.getD undef = .pointer (some ⟨g, 0, none⟩) := by simpa using hp
  have hq' : a.tmps[q]?.getD undef = v := by simpa using hq
  have hu' : a.tmps[r]?.getD undef = u := by simpa using hu
  have hl := run_loadVar_row (P := Try.prog) W g 33 33 cs (0, 0) _ hg Try.underlying33 rfl (by rw [hs]; exact info33)
  simp [results, hr, hp', hq', hu', asAddr, hl]
theorem drew_bel (w : World) : Below w.heap.size w w.drew := (Below.refl _ _).drew

set_option maxRecDepth 4000 in
set_option maxHeartbeats 2000000 in
theorem dtake_full (cs : Array Value) (b : AB) (v : Int) (w : World) (hk : RBk F w cs b) (hfull : b.most ≤ (cnt b.tk 64 : Int)) :
    Calls Try.prog 23 #[.agg cs, .int .i64 v] w (TPost F w b 0 9) := by
  have hal := run_zb
  have CL := Lib.hid (fun V (hV : RBk F V cs b) => dlen_any cs b V hV)
  have HK := Lib.hid hk
  clear hk
  obtain ⟨q, hq⟩ : ∃ q : Int, q = (cnt b.tk 64 : Int) := ⟨_, rfl⟩
  rw [← hq] at hfull CL
  clear hq
  have HH : Hid (((w.alloc (.cells cs 33)).alloc (.cells zb 33)).heap[w.heap.size]? = some (.cells cs 33 (0, 0))) := Lib.hid (by have := heap_alloc2_old w (.cells cs 33) (.cells zb 33); exact this)
  have HZ : Hid (((w.alloc (.cells cs 33)).alloc (.cells zb 33)).heap[w.heap.size + 1]? = some (.cells zb 33 (0, 0))) := Lib.hid (by have := heap_alloc2_new w (.cells cs 33) (.cells zb 33); exact this)
  have HW : Hid (Below w.heap.size w ((w.alloc (.cells cs 33)).alloc (.cells zb 33))) := Lib.hid (by go_grown)
  have HWS : Hid (w.heap.size + 2 ≤ ((w.alloc (.cells cs 33)).alloc (.cells zb 33)).heap.size) := Lib.hid (by simp)
  go_enter Try.func23, Try.ntmps23
  go_wp2_with fail
  generalize ((w.alloc (.cells cs 33)).alloc (.cells zb 33)) = W0 at *
  have HKW := Lib.hid (HK.out.later (HW.out.trans ((drew_bel W0).mono HW.out.size)))
  refine wp_region_held_drew (S := (fun V => V.heap[w.heap.size]? = some (.cells cs 33 (0, 0)))) (by kernel_rfl) ?_ (fun hHeld => ?_)
  · exact HH.out
  refine wpAnyH_take (i := 0) (oi := { dst := some 9, op := Op.load 33 (Operand.tmp 2), type := 33, pos := "ref.go:28", after := #[], guard := none }) (v := Value.agg cs) rfl (by kernel_rfl) (by kernel_rfl) (by kernel_rfl) (fun _ _ _ h => h) (Or.inl ⟨by rfl, fun V hV => ex_load_row (.tmp 2) rfl w.heap.size rfl cs hV HK.out.size⟩) hHeld ?_
  try simp only [Act.put, List.setIfInBounds_toArray, List.set_cons_zero, List.set_cons_succ]
  refine wpAnyH_take (i := 2) (oi := { dst := some 11, op := Op.fieldAddr 33 (Operand.tmp 2) 0, type := 0, pos := "ref.go:28", after := #[], guard := none }) (v := ?_) rfl (by kernel_rfl) (by kernel_rfl) (by kernel_rfl) (fun _ _ _ h => h) (Or.inl ⟨by rfl, ?_⟩) hHeld ?_
  rotate_left
  · intro w hSw; clear hSw; go_simp; try with_reducible rfl
  try simp only [Act.put, List.setIfInBounds_toArray, List.set_cons_zero, List.set_cons_succ]
  refine wpAnyH_take (i := 3) (oi := { dst := some 12, op := Op.load 3 (Operand.tmp 11), type := 3, pos := "ref.go:28", after := #[{ on := 2, ground := Ground.data }], guard := none }) (v := Value.int .i64 b.most) rfl (by kernel_rfl) (by kernel_rfl) (by kernel_rfl) (fun _ _ _ h => h) (Or.inl ⟨by rfl, ?_⟩) hHeld ?_
  · intro V hV; have hc0 := (cell_of_row _ _ 0 _ _ _ hV).trans HK.out.c0; clear hV; go_simp
  try simp only [Act.put, List.setIfInBounds_toArray, List.set_cons_zero, List.set_cons_succ]
  refine wpAnyH_ready (rs := [1]) (by kernel_rfl) (by simp) ?_
  refine AllReadyH.cons (o := { dst := some 10, op := Op.call { callee := Callee.value (Operand.func 31), args := #[Operand.tmp 9], argTypes := #[33] }, type := 3, pos := "ref.go:28", after := #[{ on := 0, ground := Ground.data }], guard := none }) rfl (fun K hK => ?_) AllReadyH.nil
  go_simp
  go_at_call 31; ((with_reducible refine (CL.out _ HKW.out).mono ?_); rintro e w1 ⟨rfl, hb0⟩; have hb := (drew_bel W0).trans (hb0.mono (Nat.le_refl _)); have HB := Lib.hid hb; have HN := Lib.hid (blk_bel hb HH.out); have hM := Lib.hid (blk_bel hb HZ.out); have HBE : Hid (Below w.heap.size w w1) := Lib.hid (HW.out.trans (hb.mono HW.out.size)); have HS1 : Hid (w.heap.size + 2 ≤ w1.heap.size) := Lib.hid (Nat.le_trans HWS.out hb.size); clear hb hb0)
  try go_wp2_with fail
  refine hK.out _ _ ?_ (fun hHeld => ?_)
  · exact HN.out
  clear hK K
  try simp only [Act.put, List.setIfInBounds_toArray, List.set_cons_zero, List.set_cons_succ]
  refine wpAnyH_take (i := 4) (oi := { dst := some 13, op := Op.binOp BinOp.geq 3 (Operand.tmp 10) (Operand.tmp 12) 3, type := 4, pos := "ref.go:28", after := #[{ on := 1, ground := Ground.data }, { on := 3, ground := Ground.data }], guard := none }) (v := ?_) rfl (by kernel_rfl) (by kernel_rfl) (by kernel_rfl) (fun _ _ _ h => h) (Or.inl ⟨by rfl, ?_⟩) hHeld ?_
  rotate_left
  · intro w hSw; clear hSw; go_simp; try with_reducible rfl
  try simp only [Act.put, List.setIfInBounds_toArray, List.set_cons_zero, List.set_cons_succ]
  refine wpAnyH_done (by kernel_rfl) ?_ _
  have HX := HN
  have HY := hM
  have HRB := Lib.hid (HK.out.later HBE.out)
  have HK2 := Lib.hid (fun V hV => HK.out.later (w' := V) hV)
  obtain ⟨cs2, rfl⟩ : ∃ c, c = cs := ⟨_, rfl⟩
  go_wp2_with (first
    | (refine wpList_load_row rfl 33 (.tmp 2) rfl w.heap.size rfl 33 cs2 (0, 0) _ HX.out Try.underlying33 rfl (by rw [HRB.out.size]; exact info33) ?_)
    | (refine wpList_store_row rfl 33 (.tmp 4) (.tmp 14) rfl (w.heap.size + 1) cs2 rfl rfl 33 zb HY.out (by rw [HRB.out.size]; exact info33) (by rw [HRB.out.size]; exact zb_size) HRB.out.one ?_; obtain ⟨WF, hWF⟩ : ∃ WF, WF = (w1).setRow (w.heap.size + 1) cs2 := ⟨_, rfl⟩; rw [← hWF]; have HWF := Lib.hid hWF; clear hWF)
    | fail)
  have hbF : Below w.heap.size w WF := by rw [HWF.out]; exact below_setRow HBE.out (by omega) _
  exact book_back3 rfl rfl rfl rfl (by rw [HWF.out]; exact setRow_heap _ _ _ _ _ _ HY.out) HRB.out.size ⟨cs2, rfl, HK2.out WF hbF, hbF⟩ rfl

set_option maxRecDepth 4000 in
set_option maxHeartbeats 2000000 in
theorem dtake_fresh (cs : Array Value) (b : AB) (v : Int) (w : World) (hk : RBk F w cs b) (hfull : ¬ b.most ≤ (cnt b.tk 64 : Int)) (hbk : b.bk = []) (htop : b.top < 63) :
    Calls Try.prog 23 #[.agg cs, .int .i64 v] w (TPost F w (vlS (tkS (topS b (b.top + 1)) (b.top + 1) true) (b.top + 1) v) ((b.top + 1 : Nat) : Int) 0) := by
  have hal := run_zb
  obtain ⟨k, hkd⟩ : ∃ k : Nat, k = b.top + 1 := ⟨_, rfl⟩
  have hk64 : k < 64 := by omega
  have hk65 : (k : Int) < 64 := by omega
  have hk0 : (0 : Int) ≤ (k : Int) := by omega
  have q1 : (b.top : Int) + 1 = (k : Int) := by omega
  rw [← hkd]
  clear hkd
  have CL := Lib.hid (fun V (hV : RBk F V cs b) => dlen_any cs b V hV)
  have HK := Lib.hid hk
  clear hk
  obtain ⟨q, hq⟩ : ∃ q : Int, q = (cnt b.tk 64 : Int) := ⟨_, rfl⟩
  rw [← hq] at hfull CL
  clear hq
  have HH : Hid (((w.alloc (.cells cs 33)).alloc (.cells zb 33)).heap[w.heap.size]? = some (.cells cs 33 (0, 0))) := Lib.hid (by have := heap_alloc2_old w (.cells cs 33) (.cells zb 33); exact this)
  have HZ : Hid (((w.alloc (.cells cs 33)).alloc (.cells zb 33)).heap[w.heap.size + 1]? = some (.cells zb 33 (0, 0))) := Lib.hid (by have := heap_alloc2_new w (.cells cs 33) (.cells zb 33); exact this)
  have HW : Hid (Below w.heap.size w ((w.alloc (.cells cs 33)).alloc (.cells zb 33))) := Lib.hid (by go_grown)
  have HWS : Hid (w.heap.size + 2 ≤ ((w.alloc (.cells cs 33)).alloc (.cells zb 33)).heap.size) := Lib.hid (by simp)
  go_enter Try.func23, Try.ntmps23
  go_wp2_with fail
  generalize ((w.alloc (.cells cs 33)).alloc (.cells zb 33)) = W0 at *
  have HKW := Lib.hid (HK.out.later (HW.out.trans ((drew_bel W0).mono HW.out.size)))
  refine wp_region_held_drew (S := (fun V => V.heap[w.heap.size]? = some (.cells cs 33 (0, 0)))) (by kernel_rfl) ?_ (fun hHeld => ?_)
  · exact HH.out
  refine wpAnyH_take (i := 0) (oi := { dst := some 9, op := Op.load 33 (Operand.tmp 2), type := 33, pos := "ref.go:28", after := #[], guard := none }) (v := Value.agg cs) rfl (by kernel_rfl) (by kernel_rfl) (by kernel_rfl) (fun _ _ _ h => h) (Or.inl ⟨by rfl, fun V hV => ex_load_row (.tmp 2) rfl w.heap.size rfl cs hV HK.out.size⟩) hHeld ?_
  try simp only [Act.put, List.setIfInBounds_toArray, List.set_cons_zero, List.set_cons_succ]
  refine wpAnyH_take (i := 2) (oi := { dst := some 11, op := Op.fieldAddr 33 (Operand.tmp 2) 0, type := 0, pos := "ref.go:28", after := #[], guard := none }) (v := ?_) rfl (by kernel_rfl) (by kernel_rfl) (by kernel_rfl) (fun _ _ _ h => h) (Or.inl ⟨by rfl, ?_⟩) hHeld ?_
  rotate_left
  · intro w hSw; clear hSw; go_simp; try with_reducible rfl
  try simp only [Act.put, List.setIfInBounds_toArray, List.set_cons_zero, List.set_cons_succ]
  refine wpAnyH_take (i := 3) (oi := { dst := some 12, op := Op.load 3 (Operand.tmp 11), type := 3, pos := "ref.go:28", after := #[{ on := 2, ground := Ground.data }], guard := none }) (v := Value.int .i64 b.most) rfl (by kernel_rfl) (by kernel_rfl) (by kernel_rfl) (fun _ _ _ h => h) (Or.inl ⟨by rfl, ?_⟩) hHeld ?_
  · intro V hV; have hc0 := (cell_of_row _ _ 0 _ _ _ hV).trans HK.out.c0; clear hV; go_simp
  try simp only [Act.put, List.setIfInBounds_toArray, List.set_cons_zero, List.set_cons_succ]
  refine wpAnyH_ready (rs := [1]) (by kernel_rfl) (by simp) ?_
  refine AllReadyH.cons (o := { dst := some 10, op := Op.call { callee := Callee.value (Operand.func 31), args := #[Operand.tmp 9], argTypes := #[33] }, type := 3, pos := "ref.go:28", after := #[{ on := 0, ground := Ground.data }], guard := none }) rfl (fun K hK => ?_) AllReadyH.nil
  go_simp
  go_at_call 31; ((with_reducible refine (CL.out _ HKW.out).mono ?_); rintro e w1 ⟨rfl, hb0⟩; have hb := (drew_bel W0).trans (hb0.mono (Nat.le_refl _)); have HB := Lib.hid hb; have HN := Lib.hid (blk_bel hb HH.out); have hM := Lib.hid (blk_bel hb HZ.out); have HBE : Hid (Below w.heap.size w w1) := Lib.hid (HW.out.trans (hb.mono HW.out.size)); have HS1 : Hid (w.heap.size + 2 ≤ w1.heap.size) := Lib.hid (Nat.le_trans HWS.out hb.size); clear hb hb0)
  try go_wp2_with fail
  refine hK.out _ _ ?_ (fun hHeld => ?_)
  · exact HN.out
  clear hK K
  try simp only [Act.put, List.setIfInBounds_toArray, List.set_cons_zero, List.set_cons_succ]
  refine wpAnyH_take (i := 4) (oi := { dst := some 13, op := Op.binOp BinOp.geq 3 (Operand.tmp 10) (Operand.tmp 12) 3, type := 4, pos := "ref.go:28", after := #[{ on := 1, ground := Ground.data }, { on := 3, ground := Ground.data }], guard := none }) (v := ?_) rfl (by kernel_rfl) (by kernel_rfl) (by kernel_rfl) (fun _ _ _ h => h) (Or.inl ⟨by rfl, ?_⟩) hHeld ?_
  rotate_left
  · intro w hSw; clear hSw; go_simp; try with_reducible rfl
  try simp only [Act.put, List.setIfInBounds_toArray, List.set_cons_zero, List.set_cons_succ]
  refine wpAnyH_done (by kernel_rfl) ?_ _
  have e1 : w1.cell? ⟨w.heap.size, 1, none⟩ = some (.int .i64 b.top) := (cell_of_row _ _ _ _ _ _ HN.out).trans HK.out.c1
  have e2 : w1.cell? ⟨w.heap.size, 2 + k, none⟩ = some (.bool (b.tk k)) := (cell_of_row _ _ _ _ _ _ HN.out).trans (HK.out.ct k hk64)
  have e3 : w1.cell? ⟨w.heap.size, 66 + k, none⟩ = some (.int .i64 (b.vl k)) := (cell_of_row _ _ _ _ _ _ HN.out).trans (HK.out.cv k hk64)
  have f1 : w1.frozen? ⟨w.heap.size, 1, none⟩ = false := frozen_of_row _ _ _ _ _ HN.out
  have f2 : w1.frozen? ⟨w.heap.size, 2 + k, none⟩ = false := frozen_of_row _ _ _ _ _ HN.out
  have f3 : w1.frozen? ⟨w.heap.size, 66 + k, none⟩ = false := frozen_of_row _ _ _ _ _ HN.out
  obtain ⟨Aw, cw, kw, hcw, rw_, _⟩ := HK.out.cb
  have HRW := Lib.hid rw_
  have e130 : w1.cell? ⟨w.heap.size, 130, none⟩ = some (.slice Aw 0 cw) := (cell_of_row _ _ _ _ _ _ HN.out).trans (by rw [kw, hbk]; rfl)
  clear rw_ kw hbk
  have HX : Hid ((((w1.setCell ⟨w.heap.size, 1, none⟩ (.int .i64 k)).setCell ⟨w.heap.size, 2 + k, none⟩ (.bool true)).setCell ⟨w.heap.size, 66 + k, none⟩ (.int .i64 v)).heap[w.heap.size]? = some (.cells (((cs.setIfInBounds 1 (.int .i64 k)).setIfInBounds (2 + k) (.bool true)).setIfInBounds (66 + k) (.int .i64 v)) 33 (0, 0))) :=
    Lib.hid (heap_setCell_same _ _ _ _ _ _ (heap_setCell_same _ _ _ _ _ _ (heap_setCell_same _ _ _ _ _ _ HN.out)))
  have HY : Hid ((((w1.setCell ⟨w.heap.size, 1, none⟩ (.int .i64 k)).setCell ⟨w.heap.size, 2 + k, none⟩ (.bool true)).setCell ⟨w.heap.size, 66 + k, none⟩ (.int .i64 v)).heap[w.heap.size + 1]? = some (.cells zb 33 (0, 0))) :=
    Lib.hid (by rw [heap_setCell_other _ _ _ _ (by simp), heap_setCell_other _ _ _ _ (by simp), heap_setCell_other _ _ _ _ (by simp)]; exact hM.out)
  have HBE : Hid (Below w.heap.size w (((w1.setCell ⟨w.heap.size, 1, none⟩ (.int .i64 k)).setCell ⟨w.heap.size, 2 + k, none⟩ (.bool true)).setCell ⟨w.heap.size, 66 + k, none⟩ (.int .i64 v))) := Lib.hid (((HBE.out.setCell (p := ⟨w.heap.size, 1, none⟩) (Nat.le_refl _) _).setCell (p := ⟨w.heap.size, 2 + k, none⟩) (Nat.le_refl _) _).setCell (p := ⟨w.heap.size, 66 + k, none⟩) (Nat.le_refl _) _)
  have HRB := Lib.hid ((((HK.out.later HBE.out).putN k).putT k hk64 true).putV k hk64 v)
  have HK2 := Lib.hid (fun V (hV : Below w.heap.size w V) => (((HK.out.later hV).putN k).putT k hk64 true).putV k hk64 v)
  obtain ⟨cs2, hcs2⟩ : ∃ c, c = (((cs.setIfInBounds 1 (.int .i64 k)).setIfInBounds (2 + k) (.bool true)).setIfInBounds (66 + k) (.int .i64 v)) := ⟨_, rfl⟩
  rw [← hcs2] at HX HRB HK2
  clear hcs2
  go_wp2_with (first
    | (refine wpList_load_row rfl 33 (.tmp 2) rfl w.heap.size rfl 33 cs2 (0, 0) _ HX.out Try.underlying33 rfl (by rw [HRB.out.size]; exact info33) ?_)
    | (refine wpList_store_row rfl 33 (.tmp 4) (.tmp 46) rfl (w.heap.size + 1) cs2 rfl rfl 33 zb HY.out (by rw [HRB.out.size]; exact info33) (by rw [HRB.out.size]; exact zb_size) HRB.out.one ?_; obtain ⟨WF, hWF⟩ : ∃ WF, WF = (((w1.setCell ⟨w.heap.size, 1, none⟩ (.int .i64 k)).setCell ⟨w.heap.size, 2 + k, none⟩ (.bool true)).setCell ⟨w.heap.size, 66 + k, none⟩ (.int .i64 v)).setRow (w.heap.size + 1) cs2 := ⟨_, rfl⟩; rw [← hWF]; have HWF := Lib.hid hWF; clear hWF)
    | fail)
  have hbF : Below w.heap.size w WF := by rw [HWF.out]; exact below_setRow HBE.out (by omega) _
  exact book_back3 rfl rfl rfl rfl (by rw [HWF.out]; exact setRow_heap _ _ _ _ _ _ HY.out) HRB.out.size ⟨cs2, rfl, HK2.out WF hbF, hbF⟩ rfl
end Go.Proofs.Ytpihoegikojlaaa
