/- A message over another range. -/
import Derived.Test.YtdbnkeihnoglcaaN1
namespace Go.Proofs.Ytdbnkeihnoglcaa
set_option linter.unusedSimpArgs false
open Go.RowKit Go.Maps
set_option linter.unusedVariables false
theorem at_exit {f : Exit → Act → World → Prop} {e : Exit} {a : Act} {W : World} (h : ∀ W2, W2 = W → f e a W2) : f e a W := h W rfl
def overM (m : MG) (a b : ByteArray) : MG := { m with ky := a, to := b }
abbrev zM : MG := ⟨0, 0, emptyS, emptyS, emptyS, 0⟩
theorem mo_frozen {W : World} {g : Nat} {m : MG} (z : W.heap[g]? = some (MO m)) : W.frozen? ⟨g, 2, none⟩ = false ∧ W.frozen? ⟨g, 3, none⟩ = false := by
  refine ⟨?_, ?_⟩ <;> simp [World.frozen?, z]
theorem mo_frozen6 {W : World} {g : Nat} {m : MG} (z : W.heap[g]? = some (MO m)) : W.frozen? ⟨g, 0, none⟩ = false ∧ W.frozen? ⟨g, 1, none⟩ = false ∧ W.frozen? ⟨g, 2, none⟩ = false ∧ W.frozen? ⟨g, 3, none⟩ = false ∧ W.frozen? ⟨g, 4, none⟩ = false ∧ W.frozen? ⟨g, 5, none⟩ = false := by
  refine ⟨?_, ?_, ?_, ?_, ?_, ?_⟩ <;> simp [World.frozen?, z]
theorem mo_set2 {W : World} {g : Nat} {m : MG} (z : W.heap[g]? = some (MO m)) (a : ByteArray) : (W.setCell ⟨g, 2, none⟩ (.string a)).heap[g]? = some (MO { m with ky := a }) := by
  simp [World.setCell, Array.getElem?_modify, z]
theorem mo_set3 {W : World} {g : Nat} {m : MG} (z : W.heap[g]? = some (MO m)) (a : ByteArray) : (W.setCell ⟨g, 3, none⟩ (.string a)).heap[g]? = some (MO { m with to := a }) := by
  simp [World.setCell, Array.getElem?_modify, z]
theorem set_ne {W : World} {g x o : Nat} {v : Value} {ob : Obj} (z : W.heap[x]? = some ob) (h : g ≠ x) : (W.setCell ⟨g, o, none⟩ v).heap[x]? = some ob := by
  simp [World.setCell, Array.getElem?_modify, z, h]
theorem three_new (w : World) (a b c : Obj) : (((w.alloc a).alloc b).alloc c).heap[w.heap.size]? = some a ∧ (((w.alloc a).alloc b).alloc c).heap[w.heap.size + 1]? = some b ∧ (((w.alloc a).alloc b).alloc c).heap[w.heap.size + 1 + 1]? = some c :=
  ⟨keep_bel (alb _ c) (two_new w a b).1, keep_bel (alb _ c) (two_new w a b).2, by have := heap_alloc_new ((w.alloc a).alloc b) c; simpa using this⟩
set_option maxRecDepth 100000 in
set_option maxHeartbeats 4000000 in
theorem over_any (m : MG) (a b : ByteArray) (w : World) :
    Calls Try.prog 67 #[MV m, .agg #[.string a, .string b]] w fun r w' => r = .returned (MV (overM m a b)) ∧ Below w.heap.size w w' := by
  have H0 := Lib.hid (bel_alloc (bel_alloc (alb w (MO m)) (rgc a b)) (MO zM))
  have q := three_new w (MO m) (rgc a b) (MO zM)
  have z1 := Lib.hid q.1
  have z2 := Lib.hid q.2.1
  have z3 := Lib.hid q.2.2
  clear q
  go_enter Try.func67, Try.ntmps67
  go_wp2_with fail
  refine at_code (fun WN hWN => ?_)
  have zW := Lib.hid (show WN.heap[w.heap.size]? = some (MO m) by rw [hWN]; exact z1.out)
  replace H0 := Lib.hid (show Below w.heap.size w WN.drew by rw [hWN]; exact H0.out.drew)
  replace z1 := Lib.hid (show WN.drew.heap[w.heap.size]? = some (MO m) by rw [hWN]; exact z1.out)
  replace z2 := Lib.hid (show WN.drew.heap[w.heap.size + 1]? = some (rgc a b) by rw [hWN]; exact z2.out)
  replace z3 := Lib.hid (show WN.drew.heap[w.heap.size + 1 + 1]? = some (MO zM) by rw [hWN]; exact z3.out)
  clear hWN
  have HS0 := Lib.hid (show Below w.heap.size w WN.drew ∧ WN.drew.cell? ⟨w.heap.size + 1, 0, none⟩ = some (.string a) ∧ WN.drew.cell? ⟨w.heap.size + 1, 1, none⟩ = some (.string b) from ⟨H0.out, (has_two z2.out).1, (has_two z2.out).2.1⟩)
  have y1 := Lib.hid (mo_set2 z1.out a)
  have y2 := Lib.hid (set_ne (g := w.heap.size) (o := 2) (v := .string a) z2.out (by omega))
  have y3 := Lib.hid (set_ne (g := w.heap.size) (o := 2) (v := .string a) z3.out (by omega))
  have H1 := Lib.hid (Below.setCell H0.out (p := ⟨w.heap.size, 2, none⟩) (Nat.le_refl _) (.string a))
  have HS1 := Lib.hid (show _ ∧ _ ∧ _ from ⟨H1.out, (has_two y2.out).1, (has_two y2.out).2.1⟩)
  have x1 := Lib.hid (mo_set3 y1.out b)
  have x2 := Lib.hid (set_ne (g := w.heap.size) (o := 3) (v := .string b) y2.out (by omega))
  have x3 := Lib.hid (set_ne (g := w.heap.size) (o := 3) (v := .string b) y3.out (by omega))
  have H2 := Lib.hid (Below.setCell H1.out (p := ⟨w.heap.size, 3, none⟩) (Nat.le_refl _) (.string b))
  have HS2 := Lib.hid (show _ ∧ _ ∧ _ from ⟨H2.out, (has_two x2.out).1, (has_two x2.out).2.1⟩)
  refine wp_region_held_drew (S := (fun V : World => Below w.heap.size w V ∧ V.cell? ⟨w.heap.size + 1, 0, none⟩ = some (.string a) ∧ V.cell? ⟨w.heap.size + 1, 1, none⟩ = some (.string b))) (by kernel_rfl) ?_ (fun hHeld => ?_)
  · exact HS0.out
  have HHeld := Lib.hid hHeld; clear hHeld
  refine wpAnyH_take (i := 0) (oi := { dst := some 5, op := Op.fieldAddr 24 (Operand.tmp 3) 0, type := 0, pos := "msg.go:128", after := #[], guard := none }) (v := ?_) rfl (by kernel_rfl) (by kernel_rfl) (by kernel_rfl) (fun _ _ _ h => h) (Or.inl ⟨by rfl, ?_⟩) HHeld.out ?_
  rotate_left
  · intro w hSw; clear hSw; go_simp; try with_reducible rfl
  try simp only [Act.put, List.setIfInBounds_toArray, List.set_cons_zero, List.set_cons_succ]
  refine wpAnyH_take (i := 1) (oi := { dst := some 6, op := Op.load 9 (Operand.tmp 5), type := 9, pos := "msg.go:128", after := #[{ on := 0, ground := Ground.data }], guard := none }) (v := (.string a : Value)) rfl (by kernel_rfl) (by kernel_rfl) (by kernel_rfl) (fun _ _ _ h => h) (Or.inl ⟨by rfl, ?_⟩) HHeld.out ?_
  · intro V hV; have hc0 := hV.2.1; clear hV; go_simp
  try simp only [Act.put, List.setIfInBounds_toArray, List.set_cons_zero, List.set_cons_succ]
  refine wpAnyH_take (i := 2) (oi := { dst := some 7, op := Op.fieldAddr 24 (Operand.tmp 3) 1, type := 0, pos := "msg.go:128", after := #[{ on := 5, ground := Ground.gcOnly Departure.lateStores }], guard := none }) (v := ?_) rfl (by kernel_rfl) (by kernel_rfl) (by kernel_rfl) (fun _ _ _ h => h) (Or.inl ⟨by rfl, ?_⟩) HHeld.out ?_
  rotate_left
  · intro w hSw; clear hSw; go_simp; try with_reducible rfl
  try simp only [Act.put, List.setIfInBounds_toArray, List.set_cons_zero, List.set_cons_succ]
  refine wpAnyH_take (i := 3) (oi := { dst := some 8, op := Op.load 9 (Operand.tmp 7), type := 9, pos := "msg.go:128", after := #[{ on := 2, ground := Ground.data }, { on := 5, ground := Ground.gcOnly Departure.lateStores }], guard := none }) (v := (.string b : Value)) rfl (by kernel_rfl) (by kernel_rfl) (by kernel_rfl) (fun _ _ _ h => h) (Or.inl ⟨by rfl, ?_⟩) HHeld.out ?_
  · intro V hV; have hc0 := hV.2.2; clear hV; go_simp
  try simp only [Act.put, List.setIfInBounds_toArray, List.set_cons_zero, List.set_cons_succ]
  refine wpAnyH_take (i := 4) (oi := { dst := some 9, op := Op.fieldAddr 31 (Operand.tmp 2) 2, type := 0, pos := "msg.go:128", after := #[{ on := 0, ground := Ground.phase }, { on := 1, ground := Ground.phase }, { on := 2, ground := Ground.textOnly Departure.lateStores }, { on := 3, ground := Ground.textOnly Departure.lateStores }], guard := none }) (v := ?_) rfl (by kernel_rfl) (by kernel_rfl) (by kernel_rfl) (fun _ _ _ h => h) (Or.inl ⟨by rfl, ?_⟩) HHeld.out ?_
  rotate_left
  · intro w hSw; clear hSw; go_simp; try with_reducible rfl
  try simp only [Act.put, List.setIfInBounds_toArray, List.set_cons_zero, List.set_cons_succ]
  refine wpAnyH_ready (rs := [5]) (by kernel_rfl) (by simp) ?_
  refine AllReadyH.cons (o := { dst := none, op := Op.store 9 (Operand.tmp 9) (Operand.tmp 6), type := 0, pos := "msg.go:128", after := #[{ on := 4, ground := Ground.data }, { on := 1, ground := Ground.data }, { on := 0, ground := Ground.phase }, { on := 1, ground := Ground.phase }, { on := 2, ground := Ground.textOnly Departure.lateStores }, { on := 3, ground := Ground.textOnly Departure.lateStores }], guard := none }) rfl (fun K hK => ?_) AllReadyH.nil
  obtain ⟨c0, c1, c2, c3, c4, c5⟩ := cells6 zW.out
  obtain ⟨f2, f3⟩ := mo_frozen zW.out
  go_simp
  refine hK.out _ _ ?_ (fun hHeld => ?_)
  · exact HS1.out
  clear HHeld; have HHeld := Lib.hid hHeld; clear hHeld
  clear hK K
  try simp only [Act.put, List.setIfInBounds_toArray, List.set_cons_zero, List.set_cons_succ]
  refine wpAnyH_take (i := 6) (oi := { dst := some 10, op := Op.fieldAddr 31 (Operand.tmp 2) 3, type := 0, pos := "msg.go:128", after := #[{ on := 0, ground := Ground.phase }, { on := 1, ground := Ground.phase }, { on := 2, ground := Ground.phase }, { on := 3, ground := Ground.phase }, { on := 4, ground := Ground.phase }, { on := 5, ground := Ground.phase }], guard := none }) (v := ?_) rfl (by kernel_rfl) (by kernel_rfl) (by kernel_rfl) (fun _ _ _ h => h) (Or.inl ⟨by rfl, ?_⟩) HHeld.out ?_
  rotate_left
  · intro w hSw; clear hSw; go_simp; try with_reducible rfl
  try simp only [Act.put, List.setIfInBounds_toArray, List.set_cons_zero, List.set_cons_succ]
  refine wpAnyH_ready (rs := [7]) (by kernel_rfl) (by simp) ?_
  refine AllReadyH.cons (o := { dst := none, op := Op.store 9 (Operand.tmp 10) (Operand.tmp 8), type := 0, pos := "msg.go:128", after := #[{ on := 6, ground := Ground.data }, { on := 3, ground := Ground.data }, { on := 5, ground := Ground.chain }, { on := 0, ground := Ground.phase }, { on := 1, ground := Ground.phase }, { on := 2, ground := Ground.phase }, { on := 3, ground := Ground.phase }, { on := 4, ground := Ground.phase }, { on := 5, ground := Ground.phase }], guard := none }) rfl (fun K hK => ?_) AllReadyH.nil
  go_simp
  refine hK.out _ _ ?_ (fun hHeld => ?_)
  · exact HS2.out
  clear HHeld; have HHeld := Lib.hid hHeld; clear hHeld
  clear hK K
  try simp only [Act.put, List.setIfInBounds_toArray, List.set_cons_zero, List.set_cons_succ]
  refine wpAnyH_done (by kernel_rfl) ?_ _
  clear c0 c1 c2 c3 c4 c5 f2 f3 zW
  clear HHeld HS0 HS1 HS2 y1 y2 y3 H0 H1 z1 z2 z3
  refine at_exit (fun WM hWM => ?_)
  replace x1 := Lib.hid (show WM.heap[w.heap.size]? = some (MO (overM m a b)) by rw [hWM]; exact x1.out)
  replace x3 := Lib.hid (show WM.heap[w.heap.size + 1 + 1]? = some (MO zM) by rw [hWM]; exact x3.out)
  replace H2 := Lib.hid (show Below w.heap.size w WM by rw [hWM]; exact H2.out)
  clear hWM
  obtain ⟨c0, c1, c2, c3, c4, c5⟩ := cells6 x1.out
  obtain ⟨f0, f1, f2, f3, f4, f5⟩ := mo_frozen6 (m := zM) x3.out
  obtain ⟨d0, d1, d2, d3, d4, d5⟩ := cells6 x3.out
  go_wp2
  refine bodyPost_ret (v := MV (overM m a b)) (by simp [results, Try.results67, go_sem, d0, d1, d2, d3, d4, d5, overM]) rfl ⟨rfl, ?_⟩
  exact Below.setCell (Below.setCell (Below.setCell (Below.setCell (Below.setCell (Below.setCell H2.out (by simp; omega) _) (by simp; omega) _) (by simp; omega) _) (by simp; omega) _) (by simp; omega) _) (by simp; omega) _
end Go.Proofs.Ytdbnkeihnoglcaa
