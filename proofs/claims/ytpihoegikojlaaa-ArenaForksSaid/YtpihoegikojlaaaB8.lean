/- The document's Many. -/
import Derived.Test.YtpihoegikojlaaaP5
namespace Go.Proofs.Ytpihoegikojlaaa
set_option linter.unusedSimpArgs false
open Go.RowKit Go.Maps
set_option linter.unusedVariables false
variable {F : Nat → Prop}

theorem Rows_old (w : World) (o : Obj) (i : Nat) (h : i < w.heap.size) : (w.alloc o).heap[i]? = w.heap[i]? := by
  show (w.heap.push o)[i]? = _
  rw [Array.getElem?_push, if_neg (by omega)]
/-- A new box with an arena in it. -/
def W2 (w : World) (cs : Array Value) : World := (w.alloc (.cells zb 33)).setRow w.heap.size cs
theorem W2.bel (w : World) (cs : Array Value) : Below w.heap.size w (W2 w cs) := below_setRow (by go_grown) (Nat.le_refl _) _
theorem W2.x (w : World) (cs : Array Value) : (W2 w cs).heap[w.heap.size]? = some (.cells cs 33 (0, 0)) := setRow_heap _ _ _ _ _ _ (heap_alloc_new w _)
theorem W2.size (w : World) (cs : Array Value) : (W2 w cs).heap.size = w.heap.size + 1 := by simp [W2]
/-- What a call hands back that hands back an arena, a list and a number. -/
def LPost (F : Nat → Prop) (w : World) (b' : AB) (l : List Int) (v : Int) (e : Ending) (w' : World) : Prop := ∃ cs' L n k, e = .returned (.tuple #[.agg cs', .slice L n k, .int .i64 v]) ∧ l.length = n ∧ RBk F w' cs' b' ∧ RdI w' L l ∧ Below w.heap.size w w'
def FM (F : Nat → Prop) (s : Nat) (B : Option Addr) (cB : Nat) (g : Nat) : Prop := F g ∨ g = s ∨ g = s + 1 ∨ fpr B cB = some g
abbrev W3 (w : World) (cs : Array Value) : World := ((w.alloc (.cells cs 33)).alloc (.cells zb 33)).alloc (.cells #[] 3)
theorem W3.x0 (w : World) (cs : Array Value) : (W3 w cs).heap[w.heap.size]? = some (.cells cs 33 (0, 0)) := (Rows_old ((w.alloc (.cells cs 33)).alloc (.cells _ 33)) _ w.heap.size (by simp; omega)).trans (heap_alloc2_old w _ _)
theorem W3.x1 (w : World) (cs : Array Value) : (W3 w cs).heap[w.heap.size + 1]? = some (.cells zb 33 (0, 0)) := (Rows_old ((w.alloc (.cells cs 33)).alloc (.cells _ 33)) _ (w.heap.size + 1) (by simp)).trans (heap_alloc2_new w _ _)
theorem W3.bel (w : World) (cs : Array Value) : Below w.heap.size w (W3 w cs) := by unfold W3; go_grown
theorem W3.size (w : World) (cs : Array Value) : (W3 w cs).heap.size = w.heap.size + 3 := by simp [W3]

set_option maxRecDepth 4000 in
set_option maxHeartbeats 2000000 in
theorem dmany_neg (cs : Array Value) (b : AB) (n : Int) (v : Int) (w : World) (hk : RBk F w cs b) (iv : IV b) (hn : n < 0) :
    Calls Try.prog 25 #[.agg cs, .int .i64 n, .int .i64 v] w (LPost F w b [] 2) := by
  have hal := run_zb
  have CL := Lib.hid (fun V (hV : RBk F V cs b) => dlen_any cs b V hV)
  have HK := Lib.hid hk
  have IVH := Lib.hid iv
  have m0 := iv.m0
  have m1 := iv.m1
  have hcl := cnt_le b.tk 64
  clear hk iv
  have HH := Lib.hid (W3.x0 w cs)
  have HZ := Lib.hid (W3.x1 w cs)
  have HW := Lib.hid (W3.bel w cs)
  have HWS := Lib.hid (W3.size w cs)
  go_enter Try.func25, Try.ntmps25
  obtain ⟨W0, hW0⟩ : ∃ W, W = W3 w cs := ⟨_, rfl⟩
  have HW0 := Lib.hid hW0
  go_wp2_with (first
    | (refine wpList_load_row rfl 33 (.tmp 3) rfl w.heap.size rfl 33 cs (0, 0) _ HH.out Try.underlying33 rfl (by rw [HK.out.size]; exact info33) ?_)
    | (refine wpList_store_row rfl 33 (.tmp 6) (.tmp 17) rfl (w.heap.size + 1) cs rfl rfl 33 zb HZ.out (by rw [HK.out.size]; exact info33) (by rw [HK.out.size]; exact zb_size) HK.out.one ?_; obtain ⟨WF, hWF⟩ : ∃ WF, WF = (W3 w cs).setRow (w.heap.size + 1) cs := ⟨_, rfl⟩; rw [← hWF]; have HWF := Lib.hid hWF; clear hWF)
    | fail)
  have hbF : Below w.heap.size w WF := by rw [HWF.out]; exact below_setRow HW.out (by omega) _
  exact book_back3 rfl rfl rfl rfl (by rw [HWF.out]; exact setRow_heap _ _ _ _ _ _ HZ.out) HK.out.size ⟨cs, _, 0, 0, rfl, rfl, HK.out.later hbF, .inl rfl, hbF⟩ rfl

set_option maxRecDepth 4000 in
set_option maxHeartbeats 2000000 in
theorem dmany_full (cs : Array Value) (b : AB) (n : Int) (v : Int) (w : World) (hk : RBk F w cs b) (iv : IV b) (hn : ¬ n < 0) (hf : b.most - cnt b.tk 64 < n) :
    Calls Try.prog 25 #[.agg cs, .int .i64 n, .int .i64 v] w (LPost F w b [] 9) := by
  have hal := run_zb
  have CL := Lib.hid (fun V (hV : RBk F V cs b) => dlen_any cs b V hV)
  have HK := Lib.hid hk
  have IVH := Lib.hid iv
  have m0 := iv.m0
  have m1 := iv.m1
  have hcl := cnt_le b.tk 64
  clear hk iv
  have HH := Lib.hid (W3.x0 w cs)
  have HZ := Lib.hid (W3.x1 w cs)
  have HW := Lib.hid (W3.bel w cs)
  have HWS := Lib.hid (W3.size w cs)
  obtain ⟨q, hq⟩ : ∃ q : Int, q = (cnt b.tk 64 : Int) := ⟨_, rfl⟩
  rw [← hq] at hf CL
  have hq0 : 0 ≤ q := by omega
  have hq1 : q ≤ 64 := by omega
  have HQE := Lib.hid hq
  have hwr : IntKind.i64.wrap (b.most - q) = b.most - q := IntWalk.i64_in _ (by omega)
  clear hq hcl
  go_enter Try.func25, Try.ntmps25
  go_wp2_with fail
  change Code.wp _ _ _ _ (W3 w cs)
  generalize W3 w cs = W0 at *
  have HKW := Lib.hid (HK.out.later (HW.out.trans ((drew_bel W0).mono HW.out.size)))
  refine wp_region_held_drew (S := (fun V => V.heap[w.heap.size]? = some (.cells cs 33 (0, 0)))) (by kernel_rfl) ?_ (fun hHeld => ?_)
  · exact HH.out
  refine wpAnyH_take (i := 0) (oi := { dst := some 19, op := Op.move (Operand.tmp 1), type := 3, pos := "ref.go:49", after := #[], guard := none }) (v := ?_) rfl (by kernel_rfl) (by kernel_rfl) (by kernel_rfl) (fun _ _ _ h => h) (Or.inl ⟨by rfl, ?_⟩) hHeld ?_
  rotate_left
  · intro w hSw; clear hSw; go_simp; try with_reducible rfl
  try simp only [Act.put, List.setIfInBounds_toArray, List.set_cons_zero, List.set_cons_succ]
  refine wpAnyH_take (i := 1) (oi := { dst := some 20, op := Op.fieldAddr 33 (Operand.tmp 3) 0, type := 0, pos := "ref.go:49", after := #[], guard := none }) (v := ?_) rfl (by kernel_rfl) (by kernel_rfl) (by kernel_rfl) (fun _ _ _ h => h) (Or.inl ⟨by rfl, ?_⟩) hHeld ?_
  rotate_left
  · intro w hSw; clear hSw; go_simp; try with_reducible rfl
  try simp only [Act.put, List.setIfInBounds_toArray, List.set_cons_zero, List.set_cons_succ]
  refine wpAnyH_take (i := 2) (oi := { dst := some 21, op := Op.load 3 (Operand.tmp 20), type := 3, pos := "ref.go:49", after := #[{ on := 1, ground := Ground.data }], guard := none }) (v := Value.int .i64 b.most) rfl (by kernel_rfl) (by kernel_rfl) (by kernel_rfl) (fun _ _ _ h => h) (Or.inl ⟨by rfl, ?_⟩) hHeld ?_
  · intro V hV; have hc0 := (cell_of_row _ _ 0 _ _ _ hV).trans HK.out.c0; clear hV; go_simp
  try simp only [Act.put, List.setIfInBounds_toArray, List.set_cons_zero, List.set_cons_succ]
  refine wpAnyH_take (i := 3) (oi := { dst := some 22, op := Op.load 33 (Operand.tmp 3), type := 33, pos := "ref.go:49", after := #[], guard := none }) (v := Value.agg cs) rfl (by kernel_rfl) (by kernel_rfl) (by kernel_rfl) (fun _ _ _ h => h) (Or.inl ⟨by rfl, fun V hV => ex_load_row (.tmp 3) rfl w.heap.size rfl cs hV HK.out.size⟩) hHeld ?_
  try simp only [Act.put, List.setIfInBounds_toArray, List.set_cons_zero, List.set_cons_succ]
  refine wpAnyH_ready (rs := [4]) (by kernel_rfl) (by simp) ?_
  refine AllReadyH.cons (o := { dst := some 23, op := Op.call { callee := Callee.value (Operand.func 31), args := #[Operand.tmp 22], argTypes := #[33] }, type := 3, pos := "ref.go:49", after := #[{ on := 3, ground := Ground.data }], guard := none }) rfl (fun K hK => ?_) AllReadyH.nil
  go_simp
  go_at_call 31; ((with_reducible refine (CL.out _ HKW.out).mono ?_); rintro e w1 ⟨rfl, hb0⟩; have hb := (drew_bel W0).trans (hb0.mono (Nat.le_refl _)); have HB := Lib.hid hb; have HN := Lib.hid (blk_bel hb HH.out); have hM := Lib.hid (blk_bel hb HZ.out); have HBE : Hid (Below w.heap.size w w1) := Lib.hid (HW.out.trans (hb.mono HW.out.size)); have HS1 : Hid (w.heap.size + 3 ≤ w1.heap.size) := Lib.hid (by have := hb.size; have := HWS.out; omega); clear hb hb0)
  try go_wp2_with fail
  refine hK.out _ _ ?_ (fun hHeld => ?_)
  · exact HN.out
  clear hK K
  try simp only [Act.put, List.setIfInBounds_toArray, List.set_cons_zero, List.set_cons_succ]
  refine wpAnyH_take (i := 5) (oi := { dst := some 24, op := Op.binOp BinOp.sub 3 (Operand.tmp 21) (Operand.tmp 23) 3, type := 3, pos := "ref.go:49", after := #[{ on := 2, ground := Ground.data }, { on := 4, ground := Ground.data }], guard := none }) (v := ?_) rfl (by kernel_rfl) (by kernel_rfl) (by kernel_rfl) (fun _ _ _ h => h) (Or.inl ⟨by rfl, ?_⟩) hHeld ?_
  rotate_left
  · intro w hSw; clear hSw; go_simp; try with_reducible rfl
  try simp only [Act.put, List.setIfInBounds_toArray, List.set_cons_zero, List.set_cons_succ]
  refine wpAnyH_take (i := 6) (oi := { dst := some 25, op := Op.binOp BinOp.gtr 3 (Operand.tmp 19) (Operand.tmp 24) 3, type := 4, pos := "ref.go:49", after := #[{ on := 0, ground := Ground.data }, { on := 5, ground := Ground.data }], guard := none }) (v := ?_) rfl (by kernel_rfl) (by kernel_rfl) (by kernel_rfl) (fun _ _ _ h => h) (Or.inl ⟨by rfl, ?_⟩) hHeld ?_
  rotate_left
  · intro w hSw; clear hSw; go_simp; try with_reducible rfl
  try simp only [Act.put, List.setIfInBounds_toArray, List.set_cons_zero, List.set_cons_succ]
  refine wpAnyH_done (by kernel_rfl) ?_ _
  go_wp2_with (first
    | (refine wpList_load_row rfl 33 (.tmp 3) rfl w.heap.size rfl 33 cs (0, 0) _ HN.out Try.underlying33 rfl (by rw [HK.out.size]; exact info33) ?_)
    | (refine wpList_store_row rfl 33 (.tmp 6) (.tmp 26) rfl (w.heap.size + 1) cs rfl rfl 33 zb hM.out (by rw [HK.out.size]; exact info33) (by rw [HK.out.size]; exact zb_size) HK.out.one ?_; obtain ⟨WF, hWF⟩ : ∃ WF, WF = w1.setRow (w.heap.size + 1) cs := ⟨_, rfl⟩; rw [← hWF]; have HWF := Lib.hid hWF; clear hWF)
    | fail)
  have hbF : Below w.heap.size w WF := by rw [HWF.out]; exact below_setRow HBE.out (by omega) _
  exact book_back3 rfl rfl rfl rfl (by rw [HWF.out]; exact setRow_heap _ _ _ _ _ _ hM.out) HK.out.size ⟨cs, _, 0, 0, rfl, rfl, HK.out.later hbF, .inl rfl, hbF⟩ rfl
end Go.Proofs.Ytpihoegikojlaaa
