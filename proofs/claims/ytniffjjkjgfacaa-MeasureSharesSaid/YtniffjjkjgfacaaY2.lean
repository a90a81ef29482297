/- node: the node of a number. -/
import Derived.Test.YtniffjjkjgfacaaY1
namespace Go.Proofs.Ytniffjjkjgfacaa
set_option linter.unusedSimpArgs false
open Go.RowKit Go.Maps Go.Shelf
set_option linter.unusedVariables false
/-- The five cells of a node. -/
def NodeC (w : World) (b off : Nat) (k : Int) (pv kd ms bl : Value) : Prop :=
  w.cell? ⟨b, off, none⟩ = some (.int .u8 k) ∧ w.cell? ⟨b, off + 1, none⟩ = some pv ∧ w.cell? ⟨b, off + 2, none⟩ = some kd ∧ w.cell? ⟨b, off + 3, none⟩ = some ms ∧ w.cell? ⟨b, off + 4, none⟩ = some bl
theorem NodeC.later {w w' : World} {b off : Nat} {k : Int} {pv kd ms bl : Value} (h : NodeC w b off k pv kd ms bl) (hb : Below w.heap.size w w') (hl : b < w.heap.size) : NodeC w' b off k pv kd ms bl :=
  ⟨(hb.cell (p := ⟨b, off, none⟩) hl).trans h.1, (hb.cell (p := ⟨b, off + 1, none⟩) hl).trans h.2.1, (hb.cell (p := ⟨b, off + 2, none⟩) hl).trans h.2.2.1, (hb.cell (p := ⟨b, off + 3, none⟩) hl).trans h.2.2.2.1, (hb.cell (p := ⟨b, off + 4, none⟩) hl).trans h.2.2.2.2⟩
attribute [local go_sem] iss
set_option maxRecDepth 10000 in
set_option maxHeartbeats 4000000 in
theorem node_2 (b off n c i : Nat) (a1 a2 a3 a4 : Option Addr) (n1 n2 n3 n4 e1 e2 e3 e4 : Nat) (w : World) (hb : b < w.heap.size) (hi : 1 ≤ i) (hn : i < n) (hn2 : n ≤ 100000) (hT : NodeC w b (off + i * 5) 2 (.slice a1 n1 e1) (.slice a2 n2 e2) (.slice a3 n3 e3) (.slice a4 n4 e4)) : Calls Try.prog 57 #[.agg #[.slice (some ⟨b, off, none⟩) n c], .int .i64 i] w fun e w' => e = .returned (.tuple #[.agg #[.int .u8 2, .slice a1 n1 e1, .slice a2 n2 e2, .slice a3 n3 e3, .slice a4 n4 e4], .bool true]) ∧ Below w.heap.size w w' := by
  obtain ⟨c0, c1, c2, c3, c4⟩ := hT
  have g1 : decide ((i : Int) < 1) = false := by simp; omega
  have g2 : decide (n ≤ i) = false := by simp; omega
  have hB : Below w.heap.size w (((w.alloc (.cells #[.slice (some ⟨b, off, none⟩) n c] 46)).alloc (.cells #[.int .u8 0, S0, S0, S0, S0] 43)).alloc (.cells #[.int .u8 2, .slice a1 n1 e1, .slice a2 n2 e2, .slice a3 n3 e3, .slice a4 n4 e4] 43)) := by go_grown
  have z4 : (((w.alloc (.cells #[.slice (some ⟨b, off, none⟩) n c] 46)).alloc (.cells #[.int .u8 0, S0, S0, S0, S0] 43)).alloc (.cells #[.int .u8 2, .slice a1 n1 e1, .slice a2 n2 e2, .slice a3 n3 e3, .slice a4 n4 e4] 43)).heap[w.heap.size + 1]? = some (.cells #[.int .u8 0, S0, S0, S0, S0] 43 (0, 0)) := by
    have h := heap_alloc_new (w.alloc (.cells #[.slice (some ⟨b, off, none⟩) n c] 46)) (.cells #[.int .u8 0, S0, S0, S0, S0] 43 (0, 0))
    rw [show (w.alloc (.cells #[.slice (some ⟨b, off, none⟩) n c] 46)).heap.size = w.heap.size + 1 by simp] at h
    exact (RE.heap_old _ _ _ (by simp)).trans h
  have z6 : (((w.alloc (.cells #[.slice (some ⟨b, off, none⟩) n c] 46)).alloc (.cells #[.int .u8 0, S0, S0, S0, S0] 43)).alloc (.cells #[.int .u8 2, .slice a1 n1 e1, .slice a2 n2 e2, .slice a3 n3 e3, .slice a4 n4 e4] 43)).heap[w.heap.size + 1 + 1]? = some (.cells #[.int .u8 2, .slice a1 n1 e1, .slice a2 n2 e2, .slice a3 n3 e3, .slice a4 n4 e4] 43 (0, 0)) := by
    have h := heap_alloc_new ((w.alloc (.cells #[.slice (some ⟨b, off, none⟩) n c] 46)).alloc (.cells #[.int .u8 0, S0, S0, S0, S0] 43)) (.cells #[.int .u8 2, .slice a1 n1 e1, .slice a2 n2 e2, .slice a3 n3 e3, .slice a4 n4 e4] 43 (0, 0))
    rw [show ((w.alloc (.cells #[.slice (some ⟨b, off, none⟩) n c] 46)).alloc (.cells #[.int .u8 0, S0, S0, S0, S0] 43)).heap.size = w.heap.size + 1 + 1 by simp] at h
    exact h
  have HB := Lib.hid hB; have Z4 := Lib.hid z4; have Z6 := Lib.hid z6; clear hB z4 z6
  go_enter Try.func57, Try.ntmps57
  go_wp2
  have z4 := Z4.out; have z6 := Z6.out; have hB := HB.out
  clear Z4 Z6 HB
  obtain ⟨X, hX⟩ : ∃ X, X = (((w.alloc (.cells #[.slice (some ⟨b, off, none⟩) n c] 46)).alloc (.cells #[.int .u8 0, S0, S0, S0, S0] 43)).alloc (.cells #[.int .u8 2, .slice a1 n1 e1, .slice a2 n2 e2, .slice a3 n3 e3, .slice a4 n4 e4] 43)) := ⟨_, rfl⟩
  rw [← hX] at z4 z6 hB
  rw [← hX]
  clear hX c0 c1 c2 c3 c4 g1 g2
  have z4d : X.drew.heap[w.heap.size + 1]? = some (.cells #[.int .u8 0, S0, S0, S0, S0] 43 (0, 0)) := z4
  have z6d : X.drew.heap[w.heap.size + 1 + 1]? = some (.cells #[.int .u8 2, .slice a1 n1 e1, .slice a2 n2 e2, .slice a3 n3 e3, .slice a4 n4 e4] 43 (0, 0)) := z6
  have HS0 : Hid ((fun V : World => V.cell? ⟨w.heap.size + 1 + 1, 0, none⟩ = some (.int .u8 2) ∧ V.cell? ⟨w.heap.size + 1 + 1, 1, none⟩ = some (.slice a1 n1 e1) ∧ V.cell? ⟨w.heap.size + 1 + 1, 2, none⟩ = some (.slice a2 n2 e2) ∧ V.cell? ⟨w.heap.size + 1 + 1, 3, none⟩ = some (.slice a3 n3 e3) ∧ V.cell? ⟨w.heap.size + 1 + 1, 4, none⟩ = some (.slice a4 n4 e4)) X.drew) := Lib.hid (cells5 z6d)
  obtain ⟨q, ch⟩ := box5_set (W := X.drew) z4d (.int .u8 2) (.slice a1 n1 e1) (.slice a2 n2 e2) (.slice a3 n3 e3) (.slice a4 n4 e4)
  have z7 := keep_chg ch z6d (by omega)
  have HS7 : Hid ((fun V : World => V.cell? ⟨w.heap.size + 1 + 1, 0, none⟩ = some (.int .u8 2) ∧ V.cell? ⟨w.heap.size + 1 + 1, 1, none⟩ = some (.slice a1 n1 e1) ∧ V.cell? ⟨w.heap.size + 1 + 1, 2, none⟩ = some (.slice a2 n2 e2) ∧ V.cell? ⟨w.heap.size + 1 + 1, 3, none⟩ = some (.slice a3 n3 e3) ∧ V.cell? ⟨w.heap.size + 1 + 1, 4, none⟩ = some (.slice a4 n4 e4)) (((((X.drew.setCell ⟨w.heap.size + 1, 0, none⟩ (.int .u8 2)).setCell ⟨w.heap.size + 1, 1, none⟩ (.slice a1 n1 e1)).setCell ⟨w.heap.size + 1, 2, none⟩ (.slice a2 n2 e2)).setCell ⟨w.heap.size + 1, 3, none⟩ (.slice a3 n3 e3)).setCell ⟨w.heap.size + 1, 4, none⟩ (.slice a4 n4 e4))) := Lib.hid (cells5 z7)
  obtain ⟨q', ch'⟩ := box5_set (W := X) z4 (.int .u8 2) (.slice a1 n1 e1) (.slice a2 n2 e2) (.slice a3 n3 e3) (.slice a4 n4 e4)
  have HQ := Lib.hid (cells5 q')
  have HBW := Lib.hid (hB.trans (ch'.below (fun x e => by omega) hB.size)).drew
  obtain ⟨x0, x1, x2, x3, x4⟩ := cells5 z4
  have f0 := fz z4 0; have f1 := fz z4 1; have f2 := fz z4 2; have f3 := fz z4 3; have f4 := fz z4 4
  clear z4 z6 z4d z6d z7 q ch q' ch' hB
  refine wp_region_held_drew (S := (fun V : World => V.cell? ⟨w.heap.size + 1 + 1, 0, none⟩ = some (.int .u8 2) ∧ V.cell? ⟨w.heap.size + 1 + 1, 1, none⟩ = some (.slice a1 n1 e1) ∧ V.cell? ⟨w.heap.size + 1 + 1, 2, none⟩ = some (.slice a2 n2 e2) ∧ V.cell? ⟨w.heap.size + 1 + 1, 3, none⟩ = some (.slice a3 n3 e3) ∧ V.cell? ⟨w.heap.size + 1 + 1, 4, none⟩ = some (.slice a4 n4 e4))) (by kernel_rfl) ?_ (fun hHeld => ?_)
  · exact HS0.out
  have HHeld := Lib.hid hHeld; clear hHeld
  refine wpAnyH_take (i := 0) (oi := { dst := some 22, op := Op.load 43 (Operand.tmp 6), type := 43, pos := "tree.go:38", after := #[], guard := none }) (v := Value.agg #[.int .u8 2, .slice a1 n1 e1, .slice a2 n2 e2, .slice a3 n3 e3, .slice a4 n4 e4]) rfl (by kernel_rfl) (by kernel_rfl) (by kernel_rfl) (fun _ _ _ h => h) (Or.inl ⟨by rfl, ?_⟩) HHeld.out ?_
  · intro V hV; have hc0 := hV.1; have hc1 := hV.2.1; have hc2 := hV.2.2.1; have hc3 := hV.2.2.2.1; have hc4 := hV.2.2.2.2; clear hV; go_simp
  try simp only [Act.put, List.setIfInBounds_toArray, List.set_cons_zero, List.set_cons_succ]
  refine wpAnyH_take (i := 1) (oi := { dst := some 23, op := Op.fieldAddr 43 (Operand.tmp 6) 0, type := 0, pos := "tree.go:38", after := #[], guard := none }) (v := ?_) rfl (by kernel_rfl) (by kernel_rfl) (by kernel_rfl) (fun _ _ _ h => h) (Or.inl ⟨by rfl, ?_⟩) HHeld.out ?_
  rotate_left
  · intro w hSw; clear hSw; go_simp; try with_reducible rfl
  try simp only [Act.put, List.setIfInBounds_toArray, List.set_cons_zero, List.set_cons_succ]
  refine wpAnyH_take (i := 2) (oi := { dst := some 24, op := Op.load 38 (Operand.tmp 23), type := 38, pos := "tree.go:38", after := #[{ on := 1, ground := Ground.data }], guard := none }) (v := Value.int .u8 2) rfl (by kernel_rfl) (by kernel_rfl) (by kernel_rfl) (fun _ _ _ h => h) (Or.inl ⟨by rfl, ?_⟩) HHeld.out ?_
  · intro V hV; have hc0 := hV.1; clear hV; go_simp
  try simp only [Act.put, List.setIfInBounds_toArray, List.set_cons_zero, List.set_cons_succ]
  refine wpAnyH_take (i := 3) (oi := { dst := some 25, op := Op.binOp BinOp.eql 38 (Operand.tmp 24) (Operand.const (Value.int IntKind.u8 2)) 38, type := 4, pos := "tree.go:38", after := #[{ on := 2, ground := Ground.data }], guard := none }) (v := Value.bool true) rfl (by kernel_rfl) (by kernel_rfl) (by kernel_rfl) (fun _ _ _ h => h) (Or.inl ⟨by rfl, ?_⟩) HHeld.out ?_
  · intro V hV; have hc0 := hV.1; clear hV; go_simp
  try simp only [Act.put, List.setIfInBounds_toArray, List.set_cons_zero, List.set_cons_succ]
  refine wpAnyH_take (i := 4) (oi := { dst := some 26, op := Op.move (Operand.tmp 25), type := 4, pos := "tree.go:38", after := #[{ on := 3, ground := Ground.data }], guard := none }) (v := ?_) rfl (by kernel_rfl) (by kernel_rfl) (by kernel_rfl) (fun _ _ _ h => h) (Or.inl ⟨by rfl, ?_⟩) HHeld.out ?_
  rotate_left
  · intro w hSw; clear hSw; go_simp; try with_reducible rfl
  try simp only [Act.put, List.setIfInBounds_toArray, List.set_cons_zero, List.set_cons_succ]
  refine wpAnyH_take (i := 5) (oi := { dst := some 27, op := Op.fieldAddr 43 (Operand.tmp 6) 0, type := 0, pos := "tree.go:38", after := #[{ on := 4, ground := Ground.guard }, { on := 9, ground := Ground.gcOnly Departure.lateStores }], guard := some (4, false) }) (v := undef) rfl (by kernel_rfl) (by kernel_rfl) (by kernel_rfl) (fun _ _ _ h => h) (Or.inr ⟨by rfl, rfl⟩) HHeld.out ?_
  try simp only [Act.put, List.setIfInBounds_toArray, List.set_cons_zero, List.set_cons_succ]
  refine wpAnyH_take (i := 6) (oi := { dst := some 28, op := Op.load 38 (Operand.tmp 27), type := 38, pos := "tree.go:38", after := #[{ on := 5, ground := Ground.data }, { on := 4, ground := Ground.guard }, { on := 9, ground := Ground.gcOnly Departure.lateStores }], guard := some (4, false) }) (v := undef) rfl (by kernel_rfl) (by kernel_rfl) (by kernel_rfl) (fun _ _ _ h => h) (Or.inr ⟨by rfl, rfl⟩) HHeld.out ?_
  try simp only [Act.put, List.setIfInBounds_toArray, List.set_cons_zero, List.set_cons_succ]
  refine wpAnyH_take (i := 7) (oi := { dst := some 29, op := Op.binOp BinOp.eql 38 (Operand.tmp 28) (Operand.const (Value.int IntKind.u8 1)) 38, type := 4, pos := "tree.go:38", after := #[{ on := 6, ground := Ground.data }, { on := 4, ground := Ground.guard }, { on := 9, ground := Ground.gcOnly Departure.lateStores }], guard := some (4, false) }) (v := undef) rfl (by kernel_rfl) (by kernel_rfl) (by kernel_rfl) (fun _ _ _ h => h) (Or.inr ⟨by rfl, rfl⟩) HHeld.out ?_
  try simp only [Act.put, List.setIfInBounds_toArray, List.set_cons_zero, List.set_cons_succ]
  refine wpAnyH_take (i := 8) (oi := { dst := some 30, op := Op.pick (Operand.tmp 26) (Operand.const (Value.bool true)) (Operand.tmp 29), type := 4, pos := "tree.go:38", after := #[{ on := 4, ground := Ground.data }, { on := 7, ground := Ground.data }, { on := 9, ground := Ground.gcOnly Departure.lateStores }], guard := none }) (v := ?_) rfl (by kernel_rfl) (by kernel_rfl) (by kernel_rfl) (fun _ _ _ h => h) (Or.inl ⟨by rfl, ?_⟩) HHeld.out ?_
  rotate_left
  · intro w hSw; clear hSw; go_simp; try with_reducible rfl
  try simp only [Act.put, List.setIfInBounds_toArray, List.set_cons_zero, List.set_cons_succ]
  refine wpAnyH_ready (rs := [9]) (by kernel_rfl) (by simp) ?_
  refine AllReadyH.cons (o := { dst := none, op := Op.store 43 (Operand.tmp 4) (Operand.tmp 22), type := 0, pos := "tree.go:38", after := #[{ on := 0, ground := Ground.data }, { on := 4, ground := Ground.chain }, { on := 0, ground := Ground.phase }, { on := 1, ground := Ground.textOnly Departure.lateStores }, { on := 2, ground := Ground.textOnly Departure.lateStores }, { on := 3, ground := Ground.textOnly Departure.lateStores }, { on := 4, ground := Ground.textOnly Departure.lateStores }, { on := 5, ground := Ground.textOnly Departure.lateStores }, { on := 6, ground := Ground.textOnly Departure.lateStores }, { on := 7, ground := Ground.textOnly Departure.lateStores }, { on := 8, ground := Ground.textOnly Departure.lateStores }], guard := none }) rfl (fun K hK => ?_) AllReadyH.nil
  go_simp
  refine hK.out _ _ ?_ (fun hHeld => ?_)
  · exact HS7.out
  clear HHeld; have HHeld := Lib.hid hHeld; clear hHeld
  clear hK K
  try simp only [Act.put, List.setIfInBounds_toArray, List.set_cons_zero, List.set_cons_succ]
  refine wpAnyH_take (i := 10) (oi := { dst := some 5, op := Op.assign (Operand.tmp 30), type := 4, pos := "tree.go:38", after := #[{ on := 8, ground := Ground.data }, { on := 9, ground := Ground.chain }, { on := 0, ground := Ground.phase }, { on := 1, ground := Ground.phase }, { on := 2, ground := Ground.phase }, { on := 3, ground := Ground.phase }, { on := 4, ground := Ground.phase }, { on := 5, ground := Ground.phase }, { on := 6, ground := Ground.phase }, { on := 7, ground := Ground.phase }, { on := 8, ground := Ground.phase }, { on := 9, ground := Ground.phase }], guard := none }) (v := ?_) rfl (by kernel_rfl) (by kernel_rfl) (by kernel_rfl) (fun _ _ _ h => h) (Or.inl ⟨by rfl, ?_⟩) HHeld.out ?_
  rotate_left
  · intro w hSw; clear hSw; go_simp; try with_reducible rfl
  try simp only [Act.put, List.setIfInBounds_toArray, List.set_cons_zero, List.set_cons_succ]
  refine wpAnyH_done (by kernel_rfl) ?_ _
  go_wp2
  obtain ⟨q0, q1, q2, q3, q4⟩ := HQ.out
  exact bodyPost_ret (v := .tuple #[.agg #[.int .u8 2, .slice a1 n1 e1, .slice a2 n2 e2, .slice a3 n3 e3, .slice a4 n4 e4], .bool true]) (by simp [results, Try.results57, go_sem, q0, q1, q2, q3, q4]) rfl ⟨rfl, HBW.out⟩
set_option maxRecDepth 10000 in
set_option maxHeartbeats 4000000 in
theorem node_1 (b off n c i : Nat) (a1 a2 a3 a4 : Option Addr) (n1 n2 n3 n4 e1 e2 e3 e4 : Nat) (w : World) (hb : b < w.heap.size) (hi : 1 ≤ i) (hn : i < n) (hn2 : n ≤ 100000) (hT : NodeC w b (off + i * 5) 1 (.slice a1 n1 e1) (.slice a2 n2 e2) (.slice a3 n3 e3) (.slice a4 n4 e4)) : Calls Try.prog 57 #[.agg #[.slice (some ⟨b, off, none⟩) n c], .int .i64 i] w fun e w' => e = .returned (.tuple #[.agg #[.int .u8 1, .slice a1 n1 e1, .slice a2 n2 e2, .slice a3 n3 e3, .slice a4 n4 e4], .bool true]) ∧ Below w.heap.size w w' := by
  obtain ⟨c0, c1, c2, c3, c4⟩ := hT
  have g1 : decide ((i : Int) < 1) = false := by simp; omega
  have g2 : decide (n ≤ i) = false := by simp; omega
  have hB : Below w.heap.size w (((w.alloc (.cells #[.slice (some ⟨b, off, none⟩) n c] 46)).alloc (.cells #[.int .u8 0, S0, S0, S0, S0] 43)).alloc (.cells #[.int .u8 1, .slice a1 n1 e1, .slice a2 n2 e2, .slice a3 n3 e3, .slice a4 n4 e4] 43)) := by go_grown
  have z4 : (((w.alloc (.cells #[.slice (some ⟨b, off, none⟩) n c] 46)).alloc (.cells #[.int .u8 0, S0, S0, S0, S0] 43)).alloc (.cells #[.int .u8 1, .slice a1 n1 e1, .slice a2 n2 e2, .slice a3 n3 e3, .slice a4 n4 e4] 43)).heap[w.heap.size + 1]? = some (.cells #[.int .u8 0, S0, S0, S0, S0] 43 (0, 0)) := by
    have h := heap_alloc_new (w.alloc (.cells #[.slice (some ⟨b, off, none⟩) n c] 46)) (.cells #[.int .u8 0, S0, S0, S0, S0] 43 (0, 0))
    rw [show (w.alloc (.cells #[.slice (some ⟨b, off, none⟩) n c] 46)).heap.size = w.heap.size + 1 by simp] at h
    exact (RE.heap_old _ _ _ (by simp)).trans h
  have z6 : (((w.alloc (.cells #[.slice (some ⟨b, off, none⟩) n c] 46)).alloc (.cells #[.int .u8 0, S0, S0, S0, S0] 43)).alloc (.cells #[.int .u8 1, .slice a1 n1 e1, .slice a2 n2 e2, .slice a3 n3 e3, .slice a4 n4 e4] 43)).heap[w.heap.size + 1 + 1]? = some (.cells #[.int .u8 1, .slice a1 n1 e1, .slice a2 n2 e2, .slice a3 n3 e3, .slice a4 n4 e4] 43 (0, 0)) := by
    have h := heap_alloc_new ((w.alloc (.cells #[.slice (some ⟨b, off, none⟩) n c] 46)).alloc (.cells #[.int .u8 0, S0, S0, S0, S0] 43)) (.cells #[.int .u8 1, .slice a1 n1 e1, .slice a2 n2 e2, .slice a3 n3 e3, .slice a4 n4 e4] 43 (0, 0))
    rw [show ((w.alloc (.cells #[.slice (some ⟨b, off, none⟩) n c] 46)).alloc (.cells #[.int .u8 0, S0, S0, S0, S0] 43)).heap.size = w.heap.size + 1 + 1 by simp] at h
    exact h
  have HB := Lib.hid hB; have Z4 := Lib.hid z4; have Z6 := Lib.hid z6; clear hB z4 z6
  go_enter Try.func57, Try.ntmps57
  go_wp2
  have z4 := Z4.out; have z6 := Z6.out; have hB := HB.out
  clear Z4 Z6 HB
  obtain ⟨X, hX⟩ : ∃ X, X = (((w.alloc (.cells #[.slice (some ⟨b, off, none⟩) n c] 46)).alloc (.cells #[.int .u8 0, S0, S0, S0, S0] 43)).alloc (.cells #[.int .u8 1, .slice a1 n1 e1, .slice a2 n2 e2, .slice a3 n3 e3, .slice a4 n4 e4] 43)) := ⟨_, rfl⟩
  rw [← hX] at z4 z6 hB
  rw [← hX]
  clear hX c0 c1 c2 c3 c4 g1 g2
  have z4d : X.drew.heap[w.heap.size + 1]? = some (.cells #[.int .u8 0, S0, S0, S0, S0] 43 (0, 0)) := z4
  have z6d : X.drew.heap[w.heap.size + 1 + 1]? = some (.cells #[.int .u8 1, .slice a1 n1 e1, .slice a2 n2 e2, .slice a3 n3 e3, .slice a4 n4 e4] 43 (0, 0)) := z6
  have HS0 : Hid ((fun V : World => V.cell? ⟨w.heap.size + 1 + 1, 0, none⟩ = some (.int .u8 1) ∧ V.cell? ⟨w.heap.size + 1 + 1, 1, none⟩ = some (.slice a1 n1 e1) ∧ V.cell? ⟨w.heap.size + 1 + 1, 2, none⟩ = some (.slice a2 n2 e2) ∧ V.cell? ⟨w.heap.size + 1 + 1, 3, none⟩ = some (.slice a3 n3 e3) ∧ V.cell? ⟨w.heap.size + 1 + 1, 4, none⟩ = some (.slice a4 n4 e4)) X.drew) := Lib.hid (cells5 z6d)
  obtain ⟨q, ch⟩ := box5_set (W := X.drew) z4d (.int .u8 1) (.slice a1 n1 e1) (.slice a2 n2 e2) (.slice a3 n3 e3) (.slice a4 n4 e4)
  have z7 := keep_chg ch z6d (by omega)
  have HS7 : Hid ((fun V : World => V.cell? ⟨w.heap.size + 1 + 1, 0, none⟩ = some (.int .u8 1) ∧ V.cell? ⟨w.heap.size + 1 + 1, 1, none⟩ = some (.slice a1 n1 e1) ∧ V.cell? ⟨w.heap.size + 1 + 1, 2, none⟩ = some (.slice a2 n2 e2) ∧ V.cell? ⟨w.heap.size + 1 + 1, 3, none⟩ = some (.slice a3 n3 e3) ∧ V.cell? ⟨w.heap.size + 1 + 1, 4, none⟩ = some (.slice a4 n4 e4)) (((((X.drew.setCell ⟨w.heap.size + 1, 0, none⟩ (.int .u8 1)).setCell ⟨w.heap.size + 1, 1, none⟩ (.slice a1 n1 e1)).setCell ⟨w.heap.size + 1, 2, none⟩ (.slice a2 n2 e2)).setCell ⟨w.heap.size + 1, 3, none⟩ (.slice a3 n3 e3)).setCell ⟨w.heap.size + 1, 4, none⟩ (.slice a4 n4 e4))) := Lib.hid (cells5 z7)
  obtain ⟨q', ch'⟩ := box5_set (W := X) z4 (.int .u8 1) (.slice a1 n1 e1) (.slice a2 n2 e2) (.slice a3 n3 e3) (.slice a4 n4 e4)
  have HQ := Lib.hid (cells5 q')
  have HBW := Lib.hid (hB.trans (ch'.below (fun x e => by omega) hB.size)).drew
  obtain ⟨x0, x1, x2, x3, x4⟩ := cells5 z4
  have f0 := fz z4 0; have f1 := fz z4 1; have f2 := fz z4 2; have f3 := fz z4 3; have f4 := fz z4 4
  clear z4 z6 z4d z6d z7 q ch q' ch' hB
  refine wp_region_held_drew (S := (fun V : World => V.cell? ⟨w.heap.size + 1 + 1, 0, none⟩ = some (.int .u8 1) ∧ V.cell? ⟨w.heap.size + 1 + 1, 1, none⟩ = some (.slice a1 n1 e1) ∧ V.cell? ⟨w.heap.size + 1 + 1, 2, none⟩ = some (.slice a2 n2 e2) ∧ V.cell? ⟨w.heap.size + 1 + 1, 3, none⟩ = some (.slice a3 n3 e3) ∧ V.cell? ⟨w.heap.size + 1 + 1, 4, none⟩ = some (.slice a4 n4 e4))) (by kernel_rfl) ?_ (fun hHeld => ?_)
  · exact HS0.out
  have HHeld := Lib.hid hHeld; clear hHeld
  refine wpAnyH_take (i := 0) (oi := { dst := some 22, op := Op.load 43 (Operand.tmp 6), type := 43, pos := "tree.go:38", after := #[], guard := none }) (v := Value.agg #[.int .u8 1, .slice a1 n1 e1, .slice a2 n2 e2, .slice a3 n3 e3, .slice a4 n4 e4]) rfl (by kernel_rfl) (by kernel_rfl) (by kernel_rfl) (fun _ _ _ h => h) (Or.inl ⟨by rfl, ?_⟩) HHeld.out ?_
  · intro V hV; have hc0 := hV.1; have hc1 := hV.2.1; have hc2 := hV.2.2.1; have hc3 := hV.2.2.2.1; have hc4 := hV.2.2.2.2; clear hV; go_simp
  try simp only [Act.put, List.setIfInBounds_toArray, List.set_cons_zero, List.set_cons_succ]
  refine wpAnyH_take (i := 1) (oi := { dst := some 23, op := Op.fieldAddr 43 (Operand.tmp 6) 0, type := 0, pos := "tree.go:38", after := #[], guard := none }) (v := ?_) rfl (by kernel_rfl) (by kernel_rfl) (by kernel_rfl) (fun _ _ _ h => h) (Or.inl ⟨by rfl, ?_⟩) HHeld.out ?_
  rotate_left
  · intro w hSw; clear hSw; go_simp; try with_reducible rfl
  try simp only [Act.put, List.setIfInBounds_toArray, List.set_cons_zero, List.set_cons_succ]
  refine wpAnyH_take (i := 2) (oi := { dst := some 24, op := Op.load 38 (Operand.tmp 23), type := 38, pos := "tree.go:38", after := #[{ on := 1, ground := Ground.data }], guard := none }) (v := Value.int .u8 1) rfl (by kernel_rfl) (by kernel_rfl) (by kernel_rfl) (fun _ _ _ h => h) (Or.inl ⟨by rfl, ?_⟩) HHeld.out ?_
  · intro V hV; have hc0 := hV.1; clear hV; go_simp
  try simp only [Act.put, List.setIfInBounds_toArray, List.set_cons_zero, List.set_cons_succ]
  refine wpAnyH_take (i := 3) (oi := { dst := some 25, op := Op.binOp BinOp.eql 38 (Operand.tmp 24) (Operand.const (Value.int IntKind.u8 2)) 38, type := 4, pos := "tree.go:38", after := #[{ on := 2, ground := Ground.data }], guard := none }) (v := Value.bool false) rfl (by kernel_rfl) (by kernel_rfl) (by kernel_rfl) (fun _ _ _ h => h) (Or.inl ⟨by rfl, ?_⟩) HHeld.out ?_
  · intro V hV; have hc0 := hV.1; clear hV; go_simp
  try simp only [Act.put, List.setIfInBounds_toArray, List.set_cons_zero, List.set_cons_succ]
  refine wpAnyH_take (i := 4) (oi := { dst := some 26, op := Op.move (Operand.tmp 25), type := 4, pos := "tree.go:38", after := #[{ on := 3, ground := Ground.data }], guard := none }) (v := ?_) rfl (by kernel_rfl) (by kernel_rfl) (by kernel_rfl) (fun _ _ _ h => h) (Or.inl ⟨by rfl, ?_⟩) HHeld.out ?_
  rotate_left
  · intro w hSw; clear hSw; go_simp; try with_reducible rfl
  try simp only [Act.put, List.setIfInBounds_toArray, List.set_cons_zero, List.set_cons_succ]
  refine wpAnyH_take (i := 5) (oi := { dst := some 27, op := Op.fieldAddr 43 (Operand.tmp 6) 0, type := 0, pos := "tree.go:38", after := #[{ on := 4, ground := Ground.guard }, { on := 9, ground := Ground.gcOnly Departure.lateStores }], guard := some (4, false) }) (v := ?_) rfl (by kernel_rfl) (by kernel_rfl) (by kernel_rfl) (fun _ _ _ h => h) (Or.inl ⟨by rfl, ?_⟩) HHeld.out ?_
  rotate_left
  · intro w hSw; clear hSw; go_simp; try with_reducible rfl
  try simp only [Act.put, List.setIfInBounds_toArray, List.set_cons_zero, List.set_cons_succ]
  refine wpAnyH_take (i := 6) (oi := { dst := some 28, op := Op.load 38 (Operand.tmp 27), type := 38, pos := "tree.go:38", after := #[{ on := 5, ground := Ground.data }, { on := 4, ground := Ground.guard }, { on := 9, ground := Ground.gcOnly Departure.lateStores }], guard := some (4, false) }) (v := Value.int .u8 1) rfl (by kernel_rfl) (by kernel_rfl) (by kernel_rfl) (fun _ _ _ h => h) (Or.inl ⟨by rfl, ?_⟩) HHeld.out ?_
  · intro V hV; have hc0 := hV.1; clear hV; go_simp
  try simp only [Act.put, List.setIfInBounds_toArray, List.set_cons_zero, List.set_cons_succ]
  refine wpAnyH_take (i := 7) (oi := { dst := some 29, op := Op.binOp BinOp.eql 38 (Operand.tmp 28) (Operand.const (Value.int IntKind.u8 1)) 38, type := 4, pos := "tree.go:38", after := #[{ on := 6, ground := Ground.data }, { on := 4, ground := Ground.guard }, { on := 9, ground := Ground.gcOnly Departure.lateStores }], guard := some (4, false) }) (v := Value.bool true) rfl (by kernel_rfl) (by kernel_rfl) (by kernel_rfl) (fun _ _ _ h => h) (Or.inl ⟨by rfl, ?_⟩) HHeld.out ?_
  · intro V hV; have hc0 := hV.1; clear hV; go_simp
  try simp only [Act.put, List.setIfInBounds_toArray, List.set_cons_zero, List.set_cons_succ]
  refine wpAnyH_take (i := 8) (oi := { dst := some 30, op := Op.pick (Operand.tmp 26) (Operand.const (Value.bool true)) (Operand.tmp 29), type := 4, pos := "tree.go:38", after := #[{ on := 4, ground := Ground.data }, { on := 7, ground := Ground.data }, { on := 9, ground := Ground.gcOnly Departure.lateStores }], guard := none }) (v := ?_) rfl (by kernel_rfl) (by kernel_rfl) (by kernel_rfl) (fun _ _ _ h => h) (Or.inl ⟨by rfl, ?_⟩) HHeld.out ?_
  rotate_left
  · intro w hSw; clear hSw; go_simp; try with_reducible rfl
  try simp only [Act.put, List.setIfInBounds_toArray, List.set_cons_zero, List.set_cons_succ]
  refine wpAnyH_ready (rs := [9]) (by kernel_rfl) (by simp) ?_
  refine AllReadyH.cons (o := { dst := none, op := Op.store 43 (Operand.tmp 4) (Operand.tmp 22), type := 0, pos := "tree.go:38", after := #[{ on := 0, ground := Ground.data }, { on := 4, ground := Ground.chain }, { on := 0, ground := Ground.phase }, { on := 1, ground := Ground.textOnly Departure.lateStores }, { on := 2, ground := Ground.textOnly Departure.lateStores }, { on := 3, ground := Ground.textOnly Departure.lateStores }, { on := 4, ground := Ground.textOnly Departure.lateStores }, { on := 5, ground := Ground.textOnly Departure.lateStores }, { on := 6, ground := Ground.textOnly Departure.lateStores }, { on := 7, ground := Ground.textOnly Departure.lateStores }, { on := 8, ground := Ground.textOnly Departure.lateStores }], guard := none }) rfl (fun K hK => ?_) AllReadyH.nil
  go_simp
  refine hK.out _ _ ?_ (fun hHeld => ?_)
  · exact HS7.out
  clear HHeld; have HHeld := Lib.hid hHeld; clear hHeld
  clear hK K
  try simp only [Act.put, List.setIfInBounds_toArray, List.set_cons_zero, List.set_cons_succ]
  refine wpAnyH_take (i := 10) (oi := { dst := some 5, op := Op.assign (Operand.tmp 30), type := 4, pos := "tree.go:38", after := #[{ on := 8, ground := Ground.data }, { on := 9, ground := Ground.chain }, { on := 0, ground := Ground.phase }, { on := 1, ground := Ground.phase }, { on := 2, ground := Ground.phase }, { on := 3, ground := Ground.phase }, { on := 4, ground := Ground.phase }, { on := 5, ground := Ground.phase }, { on := 6, ground := Ground.phase }, { on := 7, ground := Ground.phase }, { on := 8, ground := Ground.phase }, { on := 9, ground := Ground.phase }], guard := none }) (v := ?_) rfl (by kernel_rfl) (by kernel_rfl) (by kernel_rfl) (fun _ _ _ h => h) (Or.inl ⟨by rfl, ?_⟩) HHeld.out ?_
  rotate_left
  · intro w hSw; clear hSw; go_simp; try with_reducible rfl
  try simp only [Act.put, List.setIfInBounds_toArray, List.set_cons_zero, List.set_cons_succ]
  refine wpAnyH_done (by kernel_rfl) ?_ _
  go_wp2
  obtain ⟨q0, q1, q2, q3, q4⟩ := HQ.out
  exact bodyPost_ret (v := .tuple #[.agg #[.int .u8 1, .slice a1 n1 e1, .slice a2 n2 e2, .slice a3 n3 e3, .slice a4 n4 e4], .bool true]) (by simp [results, Try.results57, go_sem, q0, q1, q2, q3, q4]) rfl ⟨rfl, HBW.out⟩
end Go.Proofs.Ytniffjjkjgfacaa
