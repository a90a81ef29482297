/- The document's arena: Take of a place that was given back. -/
import Derived.Test.YtpihoegikojlaaaB5
namespace Go.Proofs.Ytpihoegikojlaaa
set_option linter.unusedSimpArgs false
open Go.RowKit Go.Maps
set_option linter.unusedVariables false
variable {F : Nat → Prop}

set_option maxRecDepth 4000 in
set_option maxHeartbeats 2000000 in
theorem dtake_back (cs : Array Value) (b : AB) (v : Int) (w : World) (hk : RBk F w cs b) (k m : Nat) (l : List Int) (hfull : ¬ b.most ≤ (cnt b.tk 64 : Int)) (hbk : b.bk = l ++ [(k : Int)]) (hm : l.length = m) (hm2 : m ≤ 1000) (hk64 : k < 64) (hF : Hid (∀ g, F g → g < w.heap.size)) :
    Calls Try.prog 23 #[.agg cs, .int .i64 v] w (TPost F w (vlS (tkS (bkS b l) k true) k v) k 0) := by
  have hal := run_zb
  have hk0 : (0 : Int) ≤ (k : Int) := by omega
  have hk65 : (k : Int) < 64 := by omega
  have CL := Lib.hid (fun V (hV : RBk F V cs b) => dlen_any cs b V hV)
  have HK := Lib.hid hk
  clear hk
  obtain ⟨q, hq⟩ : ∃ q : Int, q = (cnt b.tk 64 : Int) := ⟨_, rfl⟩
  rw [← hq] at hfull CL
  clear hq
  have HH : Hid (((w.alloc (.cells cs 33)).alloc (.cells zb 33)).heap[w.heap.size]? = some (.cells cs 33 (0, 0))) := Lib.hid (by have := heap_alloc2_old w (.cells cs 33) (.cells zb 33); exact this)
  have HZ : Hid (((w.alloc (.cells cs 33)).alloc (.cells zb 33)).heap[w.heap.size + 1]? = some (.cells zb 33 (0, 0))) := Lib.hid (by have := heap_alloc2_new w (.cells cs 33) (.cells zb 33); exact this)
  have HW : Hid (Below w.heap.size w ((w.alloc (.cells cs 33)).alloc (.cells zb 33))) := Lib.hid (by go_grown)
  have HWS : Hid (w.heap.size + 2 ≤ ((w.alloc (.cells cs 33)).alloc (.cells zb 33)).heap.size) := Lib.hid (by simp)
  go_enter Try.func23, Try.ntmps23
  go_wp2_with fail
  generalize ((w.alloc (.cells cs 33)).alloc (.cells zb 33)) = W0 at *
  have HKW := Lib.hid (HK.out.later (HW.out.trans ((drew_bel W0).mono HW.out.size)))
  refine wp_region_held_drew (S := (fun V => V.heap[w.heap.size]? = some (.cells cs 33 (0, 0)))) (by kernel_rfl) ?_ (fun hHeld => ?_)
  · exact HH.out
  refine wpAnyH_take (i := 0) (oi := { dst := some 9, op := Op.load 33 (Operand.tmp 2), type := 33, pos := "ref.go:28", after := #[], guard := none }) (v := Value.agg cs) rfl (by kernel_rfl) (by kernel_rfl) (by kernel_rfl) (fun _ _ _ h => h) (Or.inl ⟨by rfl, fun V hV => ex_load_row (.tmp 2) rfl w.heap.size rfl cs hV HK.out.size⟩) hHeld ?_
  try simp only [Act.put, List.setIfInBounds_toArray, List.set_cons_zero, List.set_cons_succ]
  refine wpAnyH_take (i := 2) (oi := { dst := some 11, op := Op.fieldAddr 33 (Operand.tmp 2) 0, type := 0, pos := "ref.go:28", after := #[], guard := none }) (v := ?_) rfl (by kernel_rfl) (by kernel_rfl) (by kernel_rfl) (fun _ _ _ h => h) (Or.inl ⟨by rfl, ?_⟩) hHeld ?_
  rotate_left
  · intro w hSw; clear hSw; go_simp; try with_reducible rfl
  try simp only [Act.put, List.setIfInBounds_toArray, List.set_cons_zero, List.set_cons_succ]
  refine wpAnyH_take (i := 3) (oi := { dst := some 12, op := Op.load 3 (Operand.tmp 11), type := 3, pos := "ref.go:28", after := #[{ on := 2, ground := Ground.data }], guard := none }) (v := Value.int .i64 b.most) rfl (by kernel_rfl) (by kernel_rfl) (by kernel_rfl) (fun _ _ _ h => h) (Or.inl ⟨by rfl, ?_⟩) hHeld ?_
  · intro V hV; have hc0 := (cell_of_row _ _ 0 _ _ _ hV).trans HK.out.c0; clear hV; go_simp
  try simp only [Act.put, List.setIfInBounds_toArray, List.set_cons_zero, List.set_cons_succ]
  refine wpAnyH_ready (rs := [1]) (by kernel_rfl) (by simp) ?_
  refine AllReadyH.cons (o := { dst := some 10, op := Op.call { callee := Callee.value (Operand.func 31), args := #[Operand.tmp 9], argTypes := #[33] }, type := 3, pos := "ref.go:28", after := #[{ on := 0, ground := Ground.data }], guard := none }) rfl (fun K hK => ?_) AllReadyH.nil
  go_simp
  go_at_call 31; ((with_reducible refine (CL.out _ HKW.out).mono ?_); rintro e w1 ⟨rfl, hb0⟩; have hb := (drew_bel W0).trans (hb0.mono (Nat.le_refl _)); have HB := Lib.hid hb; have HN := Lib.hid (blk_bel hb HH.out); have hM := Lib.hid (blk_bel hb HZ.out); have HBE : Hid (Below w.heap.size w w1) := Lib.hid (HW.out.trans (hb.mono HW.out.size)); have HS1 : Hid (w.heap.size + 2 ≤ w1.heap.size) := Lib.hid (Nat.le_trans HWS.out hb.size); clear hb hb0)
  try go_wp2_with fail
  refine hK.out _ _ ?_ (fun hHeld => ?_)
  · exact HN.out
  clear hK K
  try simp only [Act.put, List.setIfInBounds_toArray, List.set_cons_zero, List.set_cons_succ]
  refine wpAnyH_take (i := 4) (oi := { dst := some 13, op := Op.binOp BinOp.geq 3 (Operand.tmp 10) (Operand.tmp 12) 3, type := 4, pos := "ref.go:28", after := #[{ on := 1, ground := Ground.data }, { on := 3, ground := Ground.data }], guard := none }) (v := ?_) rfl (by kernel_rfl) (by kernel_rfl) (by kernel_rfl) (fun _ _ _ h => h) (Or.inl ⟨by rfl, ?_⟩) hHeld ?_
  rotate_left
  · intro w hSw; clear hSw; go_simp; try with_reducible rfl
  try simp only [Act.put, List.setIfInBounds_toArray, List.set_cons_zero, List.set_cons_succ]
  refine wpAnyH_done (by kernel_rfl) ?_ _
  have e1 : w1.cell? ⟨w.heap.size, 1, none⟩ = some (.int .i64 b.top) := (cell_of_row _ _ _ _ _ _ HN.out).trans HK.out.c1
  have e2 : w1.cell? ⟨w.heap.size, 2 + k, none⟩ = some (.bool (b.tk k)) := (cell_of_row _ _ _ _ _ _ HN.out).trans (HK.out.ct k hk64)
  have e3 : w1.cell? ⟨w.heap.size, 66 + k, none⟩ = some (.int .i64 (b.vl k)) := (cell_of_row _ _ _ _ _ _ HN.out).trans (HK.out.cv k hk64)
  have f1 : w1.frozen? ⟨w.heap.size, 1, none⟩ = false := frozen_of_row _ _ _ _ _ HN.out
  have f2 : w1.frozen? ⟨w.heap.size, 2 + k, none⟩ = false := frozen_of_row _ _ _ _ _ HN.out
  have f3 : w1.frozen? ⟨w.heap.size, 66 + k, none⟩ = false := frozen_of_row _ _ _ _ _ HN.out
  obtain ⟨Aw, cw, kw, hcw, rw_, _⟩ := HK.out.cb
  have HRW := Lib.hid rw_
  have e130 : w1.cell? ⟨w.heap.size, 130, none⟩ = some (.slice Aw (m + 1) cw) := (cell_of_row _ _ _ _ _ _ HN.out).trans (by rw [kw, hbk]; simp [hm])
  have HRL : Hid (RdI w Aw (l ++ [(k : Int)])) := Lib.hid (by have := HRW.out; rw [hbk] at this; exact this)
  have hget := rdi_get (HRL.out.later HBE.out) (k := m) (by simp [hm])
  obtain ⟨ab, aoff, rfl, hab, hcel⟩ := hget
  have e5 : w1.cell? ⟨ab, aoff + m, none⟩ = some (.int .i64 k) := by rw [hcel, ← hm]; simp [List.getD_eq_getElem?_getD]
  have HR0 : Hid (RdI w1 (some ⟨ab, aoff, none⟩) l) := Lib.hid (by have h := rdi_take (HRL.out.later HBE.out) m; rw [← hm, List.take_left] at h; exact h)
  rw [hbk] at hcw
  have hcw : m + 1 ≤ cw := by simpa [hm] using hcw
  clear rw_ kw hbk hcel
  have O1 : Hid ((w1.alloc (.cells #[] 3)).ownsRow w1.heap.size 3 1 (.slice (some ⟨w1.heap.size, 0, none⟩) 0 0) 0 []) := Lib.hid (World.ownsRow_made w1 #[] 0 (Nat.le_refl _) (Nat.zero_le _) (by simp))
  have HW1 : Hid (Below w1.heap.size w1 (w1.alloc (.cells #[] 3))) := Lib.hid (by go_grown)
  have g130 : (w1.alloc (.cells #[] 3)).cell? ⟨w.heap.size, 130, none⟩ = some (.slice (some ⟨ab, aoff, none⟩) (m + 1) cw) := bel_later HW1.out e130
  have q1 : ((m + 1 : Nat) : Int) - 1 = (m : Int) := by omega
  have q2 : (0 : Int) < ((m + 1 : Nat) : Int) := by omega
  have q3 : (0 : Int) ≤ (m : Int) := by omega
  have q4 : (m : Int) < ((m + 1 : Nat) : Int) := by omega
  have q5 : m ≤ cw := by omega
  have q6 : (m : Int) ≤ (cw : Int) := by omega
  go_wp2_with (first
    | (at_builtin; refine wpList_put_any (v := .slice (some ⟨w1.heap.size, 0, none⟩) 0 0) _ rfl (.tmp 29) (.tmp 34) rfl (some ⟨ab, aoff, none⟩) m cw l rfl rfl O1.out (by omega) (by simp) hm (by omega) (HR0.out.later HW1.out) ?_; intro v4 w4 r4 g4 o4; obtain ⟨A4, c4, rfl, _⟩ := own_form r4; simp only [Nat.zero_add, List.nil_append] at r4; have HR4 := Lib.hid r4; have HB4 := Lib.hid (HW1.out.grown g4 HW1.out.size (fun j hj => by simp [Value.ownBlock] at hj; omega)); have HN4 := Lib.hid (blk_bel HB4.out HN.out); have HM4 := Lib.hid (blk_bel HB4.out hM.out); have y1 : w4.cell? ⟨w.heap.size, 1, none⟩ = some (.int .i64 b.top) := bel_later HB4.out e1; have y2 : w4.cell? ⟨w.heap.size, 2 + k, none⟩ = some (.bool (b.tk k)) := bel_later HB4.out e2; have y3 : w4.cell? ⟨w.heap.size, 66 + k, none⟩ = some (.int .i64 (b.vl k)) := bel_later HB4.out e3; have y130 : w4.cell? ⟨w.heap.size, 130, none⟩ = some (.slice (some ⟨ab, aoff, none⟩) (m + 1) cw) := bel_later HB4.out e130; have z1 : w4.frozen? ⟨w.heap.size, 1, none⟩ = false := frozen_of_row _ _ _ _ _ HN4.out; have z2 : w4.frozen? ⟨w.heap.size, 2 + k, none⟩ = false := frozen_of_row _ _ _ _ _ HN4.out; have z3 : w4.frozen? ⟨w.heap.size, 66 + k, none⟩ = false := frozen_of_row _ _ _ _ _ HN4.out; have z130 : w4.frozen? ⟨w.heap.size, 130, none⟩ = false := frozen_of_row _ _ _ _ _ HN4.out; clear r4 g4 o4; have HX : Hid ((((w4.setCell ⟨w.heap.size, 130, none⟩ (.slice A4 m c4)).setCell ⟨w.heap.size, 2 + k, none⟩ (.bool true)).setCell ⟨w.heap.size, 66 + k, none⟩ (.int .i64 v)).heap[w.heap.size]? = some (.cells (((cs.setIfInBounds 130 (.slice A4 m c4)).setIfInBounds (2 + k) (.bool true)).setIfInBounds (66 + k) (.int .i64 v)) 33 (0, 0))) := Lib.hid (heap_setCell_same _ _ _ _ _ _ (heap_setCell_same _ _ _ _ _ _ (heap_setCell_same _ _ _ _ _ _ HN4.out))); have HY : Hid ((((w4.setCell ⟨w.heap.size, 130, none⟩ (.slice A4 m c4)).setCell ⟨w.heap.size, 2 + k, none⟩ (.bool true)).setCell ⟨w.heap.size, 66 + k, none⟩ (.int .i64 v)).heap[w.heap.size + 1]? = some (.cells zb 33 (0, 0))) := Lib.hid (by rw [heap_setCell_other _ _ _ _ (by simp), heap_setCell_other _ _ _ _ (by simp), heap_setCell_other _ _ _ _ (by simp)]; exact HM4.out); have HBZ : Hid (Below w.heap.size w (((w4.setCell ⟨w.heap.size, 130, none⟩ (.slice A4 m c4)).setCell ⟨w.heap.size, 2 + k, none⟩ (.bool true)).setCell ⟨w.heap.size, 66 + k, none⟩ (.int .i64 v))) := Lib.hid ((((HBE.out.trans (HB4.out.mono HBE.out.size)).setCell (p := ⟨w.heap.size, 130, none⟩) (Nat.le_refl _) _).setCell (p := ⟨w.heap.size, 2 + k, none⟩) (Nat.le_refl _) _).setCell (p := ⟨w.heap.size, 66 + k, none⟩) (Nat.le_refl _) _); have HRz := Lib.hid (((HR4.out.kept (grown_set (N := w.heap.size) (j := 130) (v := (.slice A4 m c4))) (row_far HR4.out (by have := HS1.out; omega))).kept (grown_set (N := w.heap.size) (j := 2 + k) (v := .bool true)) (row_far HR4.out (by have := HS1.out; omega))).kept (grown_set (N := w.heap.size) (j := 66 + k) (v := .int .i64 v)) (row_far HR4.out (by have := HS1.out; omega))); have hsz : (((cs.setIfInBounds 130 (.slice A4 m c4)).setIfInBounds (2 + k) (.bool true)).setIfInBounds (66 + k) (.int .i64 v)).size = 131 := (by rw [Array.size_setIfInBounds, Array.size_setIfInBounds, Array.size_setIfInBounds, HK.out.size]); have hone : (((cs.setIfInBounds 130 (.slice A4 m c4)).setIfInBounds (2 + k) (.bool true)).setIfInBounds (66 + k) (.int .i64 v)).all (·.oneCell') = true := one_set (one_set (one_set HK.out.one _ rfl) _ rfl) _ rfl; have HSZ := Lib.hid hsz; have HON := Lib.hid hone; obtain ⟨cs2, hcs2⟩ : ∃ c, c = (((cs.setIfInBounds 130 (.slice A4 m c4)).setIfInBounds (2 + k) (.bool true)).setIfInBounds (66 + k) (.int .i64 v)) := ⟨_, rfl⟩; rw [← hcs2] at HX HSZ HON; have HCS := Lib.hid hcs2; clear hcs2 hsz hone)
    | (refine wpList_load_row rfl 33 (.tmp 2) rfl w.heap.size rfl 33 cs2 (0, 0) _ HX.out Try.underlying33 rfl (by rw [HSZ.out]; exact info33) ?_)
    | (refine wpList_store_row rfl 33 (.tmp 4) (.tmp 46) rfl (w.heap.size + 1) cs2 rfl rfl 33 zb HY.out (by rw [HSZ.out]; exact info33) (by rw [HSZ.out]; exact zb_size) HON.out ?_; obtain ⟨WF, hWF⟩ : ∃ WF, WF = (((w4.setCell ⟨w.heap.size, 130, none⟩ (.slice A4 m c4)).setCell ⟨w.heap.size, 2 + k, none⟩ (.bool true)).setCell ⟨w.heap.size, 66 + k, none⟩ (.int .i64 v)).setRow (w.heap.size + 1) cs2 := ⟨_, rfl⟩; rw [← hWF]; have HWF := Lib.hid hWF; clear hWF)
    | fail)
  have hbF : Below w.heap.size w WF := by rw [HWF.out]; exact below_setRow HBZ.out (by omega) _
  have r2f := HRz.out.kept (grown_row (N := w.heap.size + 1) (cs := cs2)) (row_far HRz.out (by have := HS1.out; omega))
  rw [← HWF.out] at r2f
  obtain ⟨_, _, ee, d2⟩ := own_form r2f
  cases ee
  refine book_back3 rfl rfl rfl rfl (by rw [HWF.out]; exact setRow_heap _ _ _ _ _ _ HY.out) HSZ.out ⟨cs2, rfl, ?_, hbF⟩ rfl
  have hfin := (((HK.out.later hbF).putB (A := A4) (c := c4) (l := l) (by have := own_le r2f; omega) ⟨d2, .inr (own_far r2f (by have := HS1.out; omega) hF)⟩).putT k hk64 true).putV k hk64 v
  rw [HCS.out]
  rw [hm] at hfin
  exact hfin
end Go.Proofs.Ytpihoegikojlaaa
