/- Texts of the proof, one behind the other. -/
import Derived.Test.YtilnpeekajnlhaaEk02
import Derived.Test.YtilnpeekajnlhaaEk26
import Derived.Test.YtilnpeekajnlhaaEk15
import Derived.Deep.RegionHeld3
import Derived.Test.YtilnpeekajnlhaaEk06
set_option linter.unusedVariables false
set_option linter.unusedSimpArgs false
namespace Go.Proofs.Ytilnpeekajnlhaa
open Go.RowKit Go.Maps
theorem chg2 (W : World) (g : Nat) (a b : Value) : Chg (fun x => x = g) W ((W.setCell ⟨g, 0, none⟩ a).setCell ⟨g, 1, none⟩ b) :=
  have h : ∀ (V : World) (p : Nat) (v : Value), Chg (fun x => x = g) V (V.setCell ⟨g, p, none⟩ v) := fun V p v => Chg.set V v rfl
  (h _ _ _).trans (h _ _ _) (fun g hg => .inl hg)
theorem set2w {W : World} {g : Nat} {x y : ByteArray} (z : W.heap[g]? = some (rgc x y)) (a b : ByteArray) : ((W.setCell ⟨g, 0, none⟩ (.string a)).setCell ⟨g, 1, none⟩ (.string b)).heap[g]? = some (rgc a b) := by
  simp [World.setCell, Array.getElem?_modify, z]
set_option maxRecDepth 100000 in
set_option maxHeartbeats 4000000 in
theorem split27 (f t a : ByteArray) (w : World) (h1 : sb f t = true) (h2 : lt f a = true) (h3 : sb a t = true) :
    Calls Try.prog 27 #[.agg #[.string f, .string t], .string a] w fun e w' => e = .returned (.tuple #[.agg #[.string f, .string a], .agg #[.string a, .string t], .bool true]) ∧ Below w.heap.size w w' := by
  have RA := Lib.hid (fun W => rright_any f t W)
  rw [h1] at RA
  have hna : lt a f = false := nlt_of_lt h2
  have g2 : Op.bytesLess f.toList a.toList = true := h2
  have g2b : Op.bytesLess a.toList f.toList = false := hna
  have g2c : (a.toList == f.toList) = false := by
    cases q : (a.toList == f.toList)
    · rfl
    · rw [beq_iff_eq] at q; rw [q, bl_irr] at g2; cases g2
  have y1 := three_new w (rgc f t) (rgc emptyS emptyS) (rgc emptyS emptyS)
  have H0 := Lib.hid (bel_alloc (bel_alloc (alb w (rgc f t)) (rgc emptyS emptyS)) (rgc emptyS emptyS))
  have Z := Lib.hid y1.1
  have X := Lib.hid y1.2.1
  have Y := Lib.hid y1.2.2
  clear y1
  obtain ⟨e0, e1, -, -⟩ := has_two Z.out
  cases ht : emp t
  · have h4 : lt a t = true := by unfold sb at h3; rw [ht] at h3; exact h3
    have g4 : Op.bytesLess t.toList a.toList = false := nlt_of_lt h4
    have g4a : Op.bytesLess a.toList t.toList = true := h4
    have g4b : (t.toList == a.toList) = false := by
      cases q : (t.toList == a.toList)
      · rfl
      · rw [beq_iff_eq] at q; rw [q, bl_irr] at g4a; cases g4a
    have g5 : (t.toList == []) = false := by unfold emp at ht; cases q : t.toList <;> simp_all
    have g6 : t.toList.isEmpty = false := ht
    clear h1 h2 h3 h4 hna ht
    go_enter Try.func27, Try.ntmps27
    go_upto_region 3 with (first
      | (go_at_call 58; ((with_reducible refine (RA.out _).mono ?_); rintro e w1 ⟨rfl, b⟩; replace H0 := Lib.hid (bel_trans H0.out b); replace Z := Lib.hid (keep_bel b Z.out); replace X := Lib.hid (keep_bel b X.out); replace Y := Lib.hid (keep_bel b Y.out); clear b e0 e1; obtain ⟨e0, e1, -, -⟩ := has_two Z.out))
      | fail)
    obtain ⟨c0, c1, f0, f1⟩ := has_two X.out
    obtain ⟨d0, d1, g0, g1⟩ := has_two Y.out
    refine wp_region_held_drew (S := (fun V : World => V.heap[w.heap.size]? = some (rgc f t))) (by kernel_rfl) ?_ (fun hHeld => ?_)
    · exact Z.out
    have HHeld := Lib.hid hHeld; clear hHeld
    refine wT (i := 0) (oi := { dst := some 29, op := Op.fieldAddr 30 (Operand.tmp 2) 0, type := 0, pos := "ref.go:50", after := #[], guard := none }) (v := ?_) rfl (Or.inl ⟨by rfl, ?_⟩) HHeld.out ?_
    rotate_left
    · intro w hSw; clear hSw; go_simp; try with_reducible rfl
    try simp only [pu, pn, s1, s2, s3]
    refine wT (i := 1) (oi := { dst := some 30, op := Op.load 9 (Operand.tmp 29), type := 9, pos := "ref.go:50", after := #[{ on := 0, ground := Ground.data }], guard := none }) (v := (.string f : Value)) rfl (Or.inl ⟨by rfl, ?_⟩) HHeld.out ?_
    · intro V hV; have hc0 := (has_two hV).1; clear hV; go_simp
    try simp only [pu, pn, s1, s2, s3]
    refine wT (i := 2) (oi := { dst := some 31, op := Op.move (Operand.tmp 1), type := 9, pos := "ref.go:50", after := #[], guard := none }) (v := ?_) rfl (Or.inl ⟨by rfl, ?_⟩) HHeld.out ?_
    rotate_left
    · intro w hSw; clear hSw; go_simp; try with_reducible rfl
    try simp only [pu, pn, s1, s2, s3]
    refine wT (i := 3) (oi := { dst := some 32, op := Op.build 30 #[(0, Operand.tmp 30), (1, Operand.tmp 31)], type := 30, pos := "ref.go:50", after := #[{ on := 1, ground := Ground.data }, { on := 2, ground := Ground.data }], guard := none }) (v := ?_) rfl (Or.inl ⟨by rfl, ?_⟩) HHeld.out ?_
    rotate_left
    · intro w hSw; clear hSw; go_simp; try with_reducible rfl
    try simp only [pu, pn, s1, s2, s3]
    refine wT (i := 4) (oi := { dst := some 33, op := Op.move (Operand.tmp 1), type := 9, pos := "ref.go:50", after := #[{ on := 8, ground := Ground.gcOnly Departure.lateStores }], guard := none }) (v := ?_) rfl (Or.inl ⟨by rfl, ?_⟩) HHeld.out ?_
    rotate_left
    · intro w hSw; clear hSw; go_simp; try with_reducible rfl
    try simp only [pu, pn, s1, s2, s3]
    refine wT (i := 5) (oi := { dst := some 34, op := Op.fieldAddr 30 (Operand.tmp 2) 1, type := 0, pos := "ref.go:50", after := #[{ on := 8, ground := Ground.gcOnly Departure.lateStores }], guard := none }) (v := ?_) rfl (Or.inl ⟨by rfl, ?_⟩) HHeld.out ?_
    rotate_left
    · intro w hSw; clear hSw; go_simp; try with_reducible rfl
    try simp only [pu, pn, s1, s2, s3]
    refine wT (i := 6) (oi := { dst := some 35, op := Op.load 9 (Operand.tmp 34), type := 9, pos := "ref.go:50", after := #[{ on := 5, ground := Ground.data }, { on := 8, ground := Ground.gcOnly Departure.lateStores }], guard := none }) (v := (.string t : Value)) rfl (Or.inl ⟨by rfl, ?_⟩) HHeld.out ?_
    · intro V hV; have hc0 := (has_two hV).2.1; clear hV; go_simp
    try simp only [pu, pn, s1, s2, s3]
    refine wT (i := 7) (oi := { dst := some 36, op := Op.build 30 #[(0, Operand.tmp 33), (1, Operand.tmp 35)], type := 30, pos := "ref.go:50", after := #[{ on := 4, ground := Ground.data }, { on := 6, ground := Ground.data }, { on := 8, ground := Ground.gcOnly Departure.lateStores }], guard := none }) (v := ?_) rfl (Or.inl ⟨by rfl, ?_⟩) HHeld.out ?_
    rotate_left
    · intro w hSw; clear hSw; go_simp; try with_reducible rfl
    try simp only [pu, pn, s1, s2, s3]
    refine wpAnyH_ready (rs := [8]) (by kernel_rfl) (by simp) ?_
    refine AllReadyH.cons (o := { dst := none, op := Op.store 30 (Operand.tmp 4) (Operand.tmp 32), type := 0, pos := "ref.go:50", after := #[{ on := 3, ground := Ground.data }, { on := 0, ground := Ground.phase }, { on := 1, ground := Ground.phase }, { on := 2, ground := Ground.phase }, { on := 3, ground := Ground.phase }, { on := 4, ground := Ground.textOnly Departure.lateStores }, { on := 5, ground := Ground.textOnly Departure.lateStores }, { on := 6, ground := Ground.textOnly Departure.lateStores }, { on := 7, ground := Ground.textOnly Departure.lateStores }], guard := none }) rfl (fun K hK => ?_) AllReadyH.nil
    go_simp
    generalize hW : World.setCell _ _ _ = W8
    have HCa := Lib.hid (show Chg (fun g => g = w.heap.size + 1) w1 W8 by rw [← hW]; exact chg2 _ _ _ _)
    have Ba := Lib.hid (show W8.heap[w.heap.size + 1]? = some (rgc f a) by rw [← hW]; exact set2w X.out _ _)
    have Y1 := Lib.hid (show W8.heap[w.heap.size + 1 + 1]? = some (rgc emptyS emptyS) from keep_chg HCa.out Y.out (fun e => by omega))
    have Ua := Lib.hid (show W8.heap[w.heap.size]? = some (rgc f t) from keep_chg HCa.out Z.out (fun e => by omega))
    clear hW c0 c1 d0 d1 e0 e1 f0 f1 g0 g1
    obtain ⟨c0, c1, f0, f1⟩ := has_two Ba.out
    obtain ⟨d0, d1, g0, g1⟩ := has_two Y1.out
    obtain ⟨e0, e1, -, -⟩ := has_two Ua.out
    refine hK.out _ _ ?_ (fun hHeld => ?_)
    · exact Ua.out
    clear HHeld; have HHeld := Lib.hid hHeld; clear hHeld
    clear hK K
    try simp only [pu, pn, s1, s2, s3]
    refine wpAnyH_ready (rs := [9]) (by kernel_rfl) (by simp) ?_
    refine AllReadyH.cons (o := { dst := none, op := Op.store 30 (Operand.tmp 5) (Operand.tmp 36), type := 0, pos := "ref.go:50", after := #[{ on := 7, ground := Ground.data }, { on := 8, ground := Ground.chain }, { on := 0, ground := Ground.phase }, { on := 1, ground := Ground.phase }, { on := 2, ground := Ground.phase }, { on := 3, ground := Ground.phase }, { on := 4, ground := Ground.phase }, { on := 5, ground := Ground.phase }, { on := 6, ground := Ground.phase }, { on := 7, ground := Ground.phase }, { on := 8, ground := Ground.phase }], guard := none }) rfl (fun K hK => ?_) AllReadyH.nil
    go_simp
    generalize hW : World.setCell _ _ _ = W9
    have HCb := Lib.hid (show Chg (fun g => g = w.heap.size + 1 + 1) W8 W9 by rw [← hW]; exact chg2 _ _ _ _)
    have Bb := Lib.hid (show W9.heap[w.heap.size + 1 + 1]? = some (rgc a t) by rw [← hW]; exact set2w Y1.out _ _)
    have Bc := Lib.hid (show W9.heap[w.heap.size + 1]? = some (rgc f a) from keep_chg HCb.out Ba.out (fun e => by omega))
    have Ub := Lib.hid (show W9.heap[w.heap.size]? = some (rgc f t) from keep_chg HCb.out Ua.out (fun e => by omega))
    clear hW c0 c1 d0 d1 e0 e1 f0 f1 g0 g1
    refine hK.out _ _ ?_ (fun hHeld => ?_)
    · exact Ub.out
    clear HHeld; have HHeld := Lib.hid hHeld; clear hHeld
    clear hK K
    try simp only [pu, pn, s1, s2, s3]
    refine wT (i := 10) (oi := { dst := some 6, op := Op.assign (Operand.const (Value.bool true)), type := 4, pos := "ref.go:50", after := #[{ on := 9, ground := Ground.chain }, { on := 0, ground := Ground.phase }, { on := 1, ground := Ground.phase }, { on := 2, ground := Ground.phase }, { on := 3, ground := Ground.phase }, { on := 4, ground := Ground.phase }, { on := 5, ground := Ground.phase }, { on := 6, ground := Ground.phase }, { on := 7, ground := Ground.phase }, { on := 8, ground := Ground.phase }, { on := 9, ground := Ground.phase }], guard := none }) (v := ?_) rfl (Or.inl ⟨by rfl, ?_⟩) HHeld.out ?_
    rotate_left
    · intro w hSw; clear hSw; go_simp; try with_reducible rfl
    try simp only [pu, pn, s1, s2, s3]
    refine wpAnyH_done (by kernel_rfl) ?_ _
    clear HHeld
    obtain ⟨k0, k1, -, -⟩ := has_two Bc.out
    obtain ⟨q0, q1, -, -⟩ := has_two Bb.out
    go_wp2
    refine bodyPost_ret (v := .tuple #[.agg #[.string f, .string a], .agg #[.string a, .string t], .bool true]) (by simp [results, Try.results27, go_sem, k0, k1, q0, q1]) rfl ⟨rfl, (bel_chg (bel_chg H0.out HCa.out (by omega)) HCb.out (by omega)).drew⟩
  · have g5 : (t.toList == []) = true := by unfold emp at ht; cases q : t.toList <;> simp_all
    have g6 : t.toList.isEmpty = true := ht
    clear h1 h2 h3 hna ht
    go_enter Try.func27, Try.ntmps27
    go_upto_region 3 with (first
      | (go_at_call 58; ((with_reducible refine (RA.out _).mono ?_); rintro e w1 ⟨rfl, b⟩; replace H0 := Lib.hid (bel_trans H0.out b); replace Z := Lib.hid (keep_bel b Z.out); replace X := Lib.hid (keep_bel b X.out); replace Y := Lib.hid (keep_bel b Y.out); clear b e0 e1; obtain ⟨e0, e1, -, -⟩ := has_two Z.out))
      | fail)
    obtain ⟨c0, c1, f0, f1⟩ := has_two X.out
    obtain ⟨d0, d1, g0, g1⟩ := has_two Y.out
    refine wp_region_held_drew (S := (fun V : World => V.heap[w.heap.size]? = some (rgc f t))) (by kernel_rfl) ?_ (fun hHeld => ?_)
    · exact Z.out
    have HHeld := Lib.hid hHeld; clear hHeld
    refine wT (i := 0) (oi := { dst := some 29, op := Op.fieldAddr 30 (Operand.tmp 2) 0, type := 0, pos := "ref.go:50", after := #[], guard := none }) (v := ?_) rfl (Or.inl ⟨by rfl, ?_⟩) HHeld.out ?_
    rotate_left
    · intro w hSw; clear hSw; go_simp; try with_reducible rfl
    try simp only [pu, pn, s1, s2, s3]
    refine wT (i := 1) (oi := { dst := some 30, op := Op.load 9 (Operand.tmp 29), type := 9, pos := "ref.go:50", after := #[{ on := 0, ground := Ground.data }], guard := none }) (v := (.string f : Value)) rfl (Or.inl ⟨by rfl, ?_⟩) HHeld.out ?_
    · intro V hV; have hc0 := (has_two hV).1; clear hV; go_simp
    try simp only [pu, pn, s1, s2, s3]
    refine wT (i := 2) (oi := { dst := some 31, op := Op.move (Operand.tmp 1), type := 9, pos := "ref.go:50", after := #[], guard := none }) (v := ?_) rfl (Or.inl ⟨by rfl, ?_⟩) HHeld.out ?_
    rotate_left
    · intro w hSw; clear hSw; go_simp; try with_reducible rfl
    try simp only [pu, pn, s1, s2, s3]
    refine wT (i := 3) (oi := { dst := some 32, op := Op.build 30 #[(0, Operand.tmp 30), (1, Operand.tmp 31)], type := 30, pos := "ref.go:50", after := #[{ on := 1, ground := Ground.data }, { on := 2, ground := Ground.data }], guard := none }) (v := ?_) rfl (Or.inl ⟨by rfl, ?_⟩) HHeld.out ?_
    rotate_left
    · intro w hSw; clear hSw; go_simp; try with_reducible rfl
    try simp only [pu, pn, s1, s2, s3]
    refine wT (i := 4) (oi := { dst := some 33, op := Op.move (Operand.tmp 1), type := 9, pos := "ref.go:50", after := #[{ on := 8, ground := Ground.gcOnly Departure.lateStores }], guard := none }) (v := ?_) rfl (Or.inl ⟨by rfl, ?_⟩) HHeld.out ?_
    rotate_left
    · intro w hSw; clear hSw; go_simp; try with_reducible rfl
    try simp only [pu, pn, s1, s2, s3]
    refine wT (i := 5) (oi := { dst := some 34, op := Op.fieldAddr 30 (Operand.tmp 2) 1, type := 0, pos := "ref.go:50", after := #[{ on := 8, ground := Ground.gcOnly Departure.lateStores }], guard := none }) (v := ?_) rfl (Or.inl ⟨by rfl, ?_⟩) HHeld.out ?_
    rotate_left
    · intro w hSw; clear hSw; go_simp; try with_reducible rfl
    try simp only [pu, pn, s1, s2, s3]
    refine wT (i := 6) (oi := { dst := some 35, op := Op.load 9 (Operand.tmp 34), type := 9, pos := "ref.go:50", after := #[{ on := 5, ground := Ground.data }, { on := 8, ground := Ground.gcOnly Departure.lateStores }], guard := none }) (v := (.string t : Value)) rfl (Or.inl ⟨by rfl, ?_⟩) HHeld.out ?_
    · intro V hV; have hc0 := (has_two hV).2.1; clear hV; go_simp
    try simp only [pu, pn, s1, s2, s3]
    refine wT (i := 7) (oi := { dst := some 36, op := Op.build 30 #[(0, Operand.tmp 33), (1, Operand.tmp 35)], type := 30, pos := "ref.go:50", after := #[{ on := 4, ground := Ground.data }, { on := 6, ground := Ground.data }, { on := 8, ground := Ground.gcOnly Departure.lateStores }], guard := none }) (v := ?_) rfl (Or.inl ⟨by rfl, ?_⟩) HHeld.out ?_
    rotate_left
    · intro w hSw; clear hSw; go_simp; try with_reducible rfl
    try simp only [pu, pn, s1, s2, s3]
    refine wpAnyH_ready (rs := [8]) (by kernel_rfl) (by simp) ?_
    refine AllReadyH.cons (o := { dst := none, op := Op.store 30 (Operand.tmp 4) (Operand.tmp 32), type := 0, pos := "ref.go:50", after := #[{ on := 3, ground := Ground.data }, { on := 0, ground := Ground.phase }, { on := 1, ground := Ground.phase }, { on := 2, ground := Ground.phase }, { on := 3, ground := Ground.phase }, { on := 4, ground := Ground.textOnly Departure.lateStores }, { on := 5, ground := Ground.textOnly Departure.lateStores }, { on := 6, ground := Ground.textOnly Departure.lateStores }, { on := 7, ground := Ground.textOnly Departure.lateStores }], guard := none }) rfl (fun K hK => ?_) AllReadyH.nil
    go_simp
    generalize hW : World.setCell _ _ _ = W8
    have HCa := Lib.hid (show Chg (fun g => g = w.heap.size + 1) w1 W8 by rw [← hW]; exact chg2 _ _ _ _)
    have Ba := Lib.hid (show W8.heap[w.heap.size + 1]? = some (rgc f a) by rw [← hW]; exact set2w X.out _ _)
    have Y1 := Lib.hid (show W8.heap[w.heap.size + 1 + 1]? = some (rgc emptyS emptyS) from keep_chg HCa.out Y.out (fun e => by omega))
    have Ua := Lib.hid (show W8.heap[w.heap.size]? = some (rgc f t) from keep_chg HCa.out Z.out (fun e => by omega))
    clear hW c0 c1 d0 d1 e0 e1 f0 f1 g0 g1
    obtain ⟨c0, c1, f0, f1⟩ := has_two Ba.out
    obtain ⟨d0, d1, g0, g1⟩ := has_two Y1.out
    obtain ⟨e0, e1, -, -⟩ := has_two Ua.out
    refine hK.out _ _ ?_ (fun hHeld => ?_)
    · exact Ua.out
    clear HHeld; have HHeld := Lib.hid hHeld; clear hHeld
    clear hK K
    try simp only [pu, pn, s1, s2, s3]
    refine wpAnyH_ready (rs := [9]) (by kernel_rfl) (by simp) ?_
    refine AllReadyH.cons (o := { dst := none, op := Op.store 30 (Operand.tmp 5) (Operand.tmp 36), type := 0, pos := "ref.go:50", after := #[{ on := 7, ground := Ground.data }, { on := 8, ground := Ground.chain }, { on := 0, ground := Ground.phase }, { on := 1, ground := Ground.phase }, { on := 2, ground := Ground.phase }, { on := 3, ground := Ground.phase }, { on := 4, ground := Ground.phase }, { on := 5, ground := Ground.phase }, { on := 6, ground := Ground.phase }, { on := 7, ground := Ground.phase }, { on := 8, ground := Ground.phase }], guard := none }) rfl (fun K hK => ?_) AllReadyH.nil
    go_simp
    generalize hW : World.setCell _ _ _ = W9
    have HCb := Lib.hid (show Chg (fun g => g = w.heap.size + 1 + 1) W8 W9 by rw [← hW]; exact chg2 _ _ _ _)
    have Bb := Lib.hid (show W9.heap[w.heap.size + 1 + 1]? = some (rgc a t) by rw [← hW]; exact set2w Y1.out _ _)
    have Bc := Lib.hid (show W9.heap[w.heap.size + 1]? = some (rgc f a) from keep_chg HCb.out Ba.out (fun e => by omega))
    have Ub := Lib.hid (show W9.heap[w.heap.size]? = some (rgc f t) from keep_chg HCb.out Ua.out (fun e => by omega))
    clear hW c0 c1 d0 d1 e0 e1 f0 f1 g0 g1
    refine hK.out _ _ ?_ (fun hHeld => ?_)
    · exact Ub.out
    clear HHeld; have HHeld := Lib.hid hHeld; clear hHeld
    clear hK K
    try simp only [pu, pn, s1, s2, s3]
    refine wT (i := 10) (oi := { dst := some 6, op := Op.assign (Operand.const (Value.bool true)), type := 4, pos := "ref.go:50", after := #[{ on := 9, ground := Ground.chain }, { on := 0, ground := Ground.phase }, { on := 1, ground := Ground.phase }, { on := 2, ground := Ground.phase }, { on := 3, ground := Ground.phase }, { on := 4, ground := Ground.phase }, { on := 5, ground := Ground.phase }, { on := 6, ground := Ground.phase }, { on := 7, ground := Ground.phase }, { on := 8, ground := Ground.phase }, { on := 9, ground := Ground.phase }], guard := none }) (v := ?_) rfl (Or.inl ⟨by rfl, ?_⟩) HHeld.out ?_
    rotate_left
    · intro w hSw; clear hSw; go_simp; try with_reducible rfl
    try simp only [pu, pn, s1, s2, s3]
    refine wpAnyH_done (by kernel_rfl) ?_ _
    clear HHeld
    obtain ⟨k0, k1, -, -⟩ := has_two Bc.out
    obtain ⟨q0, q1, -, -⟩ := has_two Bb.out
    go_wp2
    refine bodyPost_ret (v := .tuple #[.agg #[.string f, .string a], .agg #[.string a, .string t], .bool true]) (by simp [results, Try.results27, go_sem, k0, k1, q0, q1]) rfl ⟨rfl, (bel_chg (bel_chg H0.out HCa.out (by omega)) HCb.out (by omega)).drew⟩
end Go.Proofs.Ytilnpeekajnlhaa
namespace Go.Proofs.Ytilnpeekajnlhaa
open Go.RowKit Go.Maps
theorem bel_dw {B : Nat} {a w : World} (h : Below B a w) : Below B a w.drew := ⟨h.os, h.tape, h.output, h.size, h.block⟩
set_option maxRecDepth 100000 in
set_option maxHeartbeats 8000000 in
theorem rfor14 (kd : Int) (P J M B : Option Addr) (n pc k kc m mc b bc : Nat) (ps : List ByteArray) (ms : List MG) (f t : ByteArray) (i : Int) (w : World) (hl : ps.length = n) (hn : n ≤ 100) (hP : Pv.RdS w P ps) (hr : Pv.rightB ps f t = true) (hm : ms.length = m) (hm1 : m ≤ 400) (hM : EG.Rd w M ms) (hms : rightB ms = true) :
    Calls Try.prog 12 #[NV kd (.slice P n pc) (.slice J k kc) (.slice M m mc) (.slice B b bc), .agg #[.string f, .string t], .int .i64 i] w (RowsOf (kidL ps f t i ms) w) := by
  have AL := Lib.hid (fun W (h : Below w.heap.size w W) => Pv.rspans_any P ps n pc f t W hl (by omega) (Rd.later hP h))
  have FA := Lib.hid (fun x y W (h : Below w.heap.size w W) => rfor_any x y M m mc ms W hm (by omega) (hM.later h))
  have HMM := Lib.hid (show ∀ W, Below w.heap.size w W → EG.Rd W M ms from fun W h => hM.later h)
  have HML := Lib.hid hm
  have HLN : Hid ((Pv.parts ps f t).length ≤ 101) := Lib.hid (by unfold Pv.parts; rw [List.length_map, List.length_range]; have := Pv.many_le ps f t; omega)
  clear hl hP hm hM hms
  have y1 := two_new w (NO kd (.slice P n pc) (.slice J k kc) (.slice M m mc) (.slice B b bc)) (rgc f t)
  have H0 := Lib.hid (bel_alloc (alb w (NO kd (.slice P n pc) (.slice J k kc) (.slice M m mc) (.slice B b bc))) (rgc f t))
  have Z := Lib.hid y1.1
  have Y := Lib.hid y1.2
  clear y1
  obtain ⟨c0, c1, c2, c3, c4⟩ := cells5 Z.out
  obtain ⟨d0, d1, -, -⟩ := has_two Y.out
  cases hs : Pv.spanB ps f t i
  · have hf := parts_far hr hs
    have HL : Hid (kidL ps f t i ms = []) := Lib.hid (by unfold kidL; rw [hs]; rfl)
    rw [HL.out]
    obtain ⟨q, hq⟩ : ∃ q, q = (Pv.parts ps f t).length := ⟨_, rfl⟩
    rw [← hq] at hf
    have HQ := Lib.hid hq
    unfold Pv.RSpansPost at AL
    rw [← hq] at AL
    clear hs hq hr
    by_cases hi : i < 0
    · go_enter Try.func12, Try.ntmps12
      go_wp2_with (first
        | (go_at_call 39; ((with_reducible refine (AL.out _ H0.out).mono ?_); rintro e w1 ⟨A1, a1, rfl, r1, b⟩; have H1 := Lib.hid (bel_trans H0.out b); replace Z := Lib.hid (keep_bel b Z.out); clear b r1 c0 c1 c2 c3 c4; obtain ⟨c0, c1, c2, c3, c4⟩ := cells5 Z.out))
        | fail)
      go_ret
      exact ⟨⟨_, _, rfl, .inl rfl⟩, bel_alloc H1.out _⟩
    · have hi2 : i ≥ (q : Int) := by omega
      have hi3 : (q : Int) ≤ i := hi2
      go_enter Try.func12, Try.ntmps12
      go_wp2_with (first
        | (go_at_call 39; ((with_reducible refine (AL.out _ H0.out).mono ?_); rintro e w1 ⟨A1, a1, rfl, r1, b⟩; have H1 := Lib.hid (bel_trans H0.out b); replace Z := Lib.hid (keep_bel b Z.out); clear b r1 c0 c1 c2 c3 c4; obtain ⟨c0, c1, c2, c3, c4⟩ := cells5 Z.out))
        | fail)
      go_ret
      exact ⟨⟨_, _, rfl, .inl rfl⟩, bel_alloc H1.out _⟩
  · obtain ⟨j, rfl, hjl, hj⟩ := parts_at hs
    have hx : kidL ps f t (j : Int) ms = forL (Pv.spanF ps f t j).1 (Pv.spanF ps f t j).2 ms := by unfold kidL; rw [if_pos hs]
    rw [hx]
    obtain ⟨⟨x, y⟩, hxy⟩ : ∃ z, z = Pv.spanF ps f t j := ⟨_, rfl⟩
    rw [← hxy] at hj ⊢
    have HJ := Lib.hid hj
    have hlt := hjl
    obtain ⟨q, hq⟩ : ∃ q, q = (Pv.parts ps f t).length := ⟨_, rfl⟩
    have HQ9 : q ≤ 101 := by rw [hq]; exact HLN.out
    unfold Pv.RSpansPost at AL
    rw [← hq] at AL hlt
    clear hs hx hxy hj hjl hq hr
    have hi0 : ¬ (j : Int) < 0 := by omega
    have hi1 : ¬ (j : Int) ≥ (q : Int) := by omega
    have hi2 : ¬ (q : Int) ≤ (j : Int) := by omega
    have hi3 : (j : Int) < (q : Int) := by omega
    have hi4 : (0 : Int) ≤ (j : Int) := by omega
    go_enter Try.func12, Try.ntmps12
    go_wp2_with (first
      | (go_at_call 39; ((with_reducible refine (AL.out _ H0.out).mono ?_); rintro e w1 ⟨A1, a1, rfl, r1, b⟩; obtain ⟨b0, off, rfl, k1, k2⟩ := rdp_get r1 HJ.out; have K1 := Lib.hid k1; have K2 := Lib.hid k2; have H1 := Lib.hid (bel_dw (bel_trans H0.out b)); have Z1 := Lib.hid (keep_bel b Z.out); clear b r1 c0 c1 c2 c3 c4 d0 d1 k1 k2))
      | fail)
    replace Z1 := Lib.hid (show w1.drew.heap[w.heap.size]? = some (NO kd (.slice P n pc) (.slice J k kc) (.slice M m mc) (.slice B b bc)) from Z1.out)
    replace K1 := Lib.hid (show w1.drew.cell? ⟨b0, off + j * 2, none⟩ = some (.string x) from K1.out)
    replace K2 := Lib.hid (show w1.drew.cell? ⟨b0, off + j * 2 + 1, none⟩ = some (.string y) from K2.out)
    refine wp_region_held_drew (S := (fun V : World => V.heap[w.heap.size]? = some (NO kd (.slice P n pc) (.slice J k kc) (.slice M m mc) (.slice B b bc)) ∧ V.cell? ⟨b0, off + j * 2, none⟩ = some (.string x) ∧ V.cell? ⟨b0, off + j * 2 + 1, none⟩ = some (.string y))) (by kernel_rfl) ?_ (fun hHeld => ?_)
    · exact ⟨Z1.out, K1.out, K2.out⟩
    have HHeld := Lib.hid hHeld; clear hHeld
    refine wT (i := 0) (oi := { dst := some 21, op := Op.fieldAddr 28 (Operand.tmp 3) 3, type := 0, pos := "ref.go:46", after := #[], guard := none }) (v := ?_) rfl (Or.inl ⟨by rfl, ?_⟩) HHeld.out ?_
    rotate_left
    · intro w hSw; clear hSw; go_simp; try with_reducible rfl
    try simp only [pu, pn, s1, s2, s3]
    refine wT (i := 1) (oi := { dst := some 22, op := Op.load 25 (Operand.tmp 21), type := 25, pos := "ref.go:46", after := #[{ on := 0, ground := Ground.data }], guard := none }) (v := (.slice M m mc : Value)) rfl (Or.inl ⟨by rfl, ?_⟩) HHeld.out ?_
    · intro V hV; have hc0 := (cells5 hV.1).2.2.2.1; clear hV; go_simp
    try simp only [pu, pn, s1, s2, s3]
    refine wT (i := 2) (oi := { dst := some 23, op := Op.move (Operand.tmp 7), type := 73, pos := "ref.go:46", after := #[], guard := none }) (v := ?_) rfl (Or.inl ⟨by rfl, ?_⟩) HHeld.out ?_
    rotate_left
    · intro w hSw; clear hSw; go_simp; try with_reducible rfl
    try simp only [pu, pn, s1, s2, s3]
    refine wT (i := 3) (oi := { dst := some 24, op := Op.move (Operand.tmp 2), type := 3, pos := "ref.go:46", after := #[], guard := none }) (v := ?_) rfl (Or.inl ⟨by rfl, ?_⟩) HHeld.out ?_
    rotate_left
    · intro w hSw; clear hSw; go_simp; try with_reducible rfl
    try simp only [pu, pn, s1, s2, s3]
    refine wT (i := 4) (oi := { dst := some 25, op := Op.indexAddr 73 (Operand.tmp 23) (Operand.tmp 24), type := 0, pos := "ref.go:46", after := #[{ on := 2, ground := Ground.data }, { on := 3, ground := Ground.data }], guard := none }) (v := ?_) rfl (Or.inl ⟨by rfl, ?_⟩) HHeld.out ?_
    rotate_left
    · intro w hSw; clear hSw; go_simp; try with_reducible rfl
    try simp only [pu, pn, s1, s2, s3]
    refine wT (i := 5) (oi := { dst := some 26, op := Op.load 30 (Operand.tmp 25), type := 30, pos := "ref.go:46", after := #[{ on := 4, ground := Ground.data }], guard := none }) (v := (.agg #[.string x, .string y] : Value)) rfl (Or.inl ⟨by rfl, ?_⟩) HHeld.out ?_
    · intro V hV; have hc0 := hV.2.1; have hc1 := hV.2.2; clear hV; go_simp
    try simp only [pu, pn, s1, s2, s3]
    refine wpAnyH_ready (rs := [6]) (by kernel_rfl) (by simp) ?_
    refine AllReadyH.cons (o := { dst := some 27, op := Op.call { callee := Callee.value (Operand.func 40), args := #[Operand.tmp 22, Operand.tmp 26], argTypes := #[25, 30] }, type := 25, pos := "ref.go:46", after := #[{ on := 1, ground := Ground.data }, { on := 5, ground := Ground.data }], guard := none }) rfl (fun K hK => ?_) AllReadyH.nil
    go_simp
    go_at_call 40
    with_reducible refine (FA.out x y _ H1.out).mono ?_
    rintro e w2 ⟨⟨A2, c2, rfl, r2⟩, b⟩
    have R2 := Lib.hid r2; have B2 := Lib.hid (bel_trans H1.out b); have K0 := Lib.hid (keep_bel b Z1.out); have K1 := Lib.hid (bel_later b K1.out); have K2 := Lib.hid (bel_later b K2.out); clear b r2
    refine hK.out _ _ ?_ (fun hHeld => ?_)
    · exact ⟨K0.out, K1.out, K2.out⟩
    clear HHeld; have HHeld := Lib.hid hHeld; clear hHeld
    clear hK K
    try simp only [pu, pn, s1, s2, s3]
    refine wT (i := 7) (oi := { dst := some 6, op := Op.assign (Operand.tmp 27), type := 25, pos := "ref.go:46", after := #[{ on := 6, ground := Ground.data }, { on := 6, ground := Ground.chain }, { on := 0, ground := Ground.phase }, { on := 1, ground := Ground.phase }, { on := 2, ground := Ground.phase }, { on := 3, ground := Ground.phase }, { on := 4, ground := Ground.phase }, { on := 5, ground := Ground.phase }, { on := 6, ground := Ground.phase }], guard := none }) (v := ?_) rfl (Or.inl ⟨by rfl, ?_⟩) HHeld.out ?_
    rotate_left
    · intro w hSw; clear hSw; go_simp; try with_reducible rfl
    try simp only [pu, pn, s1, s2, s3]
    refine wpAnyH_done (by kernel_rfl) ?_ _
    clear HHeld
    go_wp2
    go_ret
    exact ⟨⟨A2, c2, rfl, R2.out⟩, B2.out⟩
set_option maxRecDepth 100000 in
set_option maxHeartbeats 8000000 in
theorem rrest14 (kd : Int) (P J M B : Option Addr) (n pc k kc m mc b bc : Nat) (ps : List ByteArray) (ms : List MG) (f t : ByteArray) (i : Int) (w : World) (hl : ps.length = n) (hn : n ≤ 100) (hP : Pv.RdS w P ps) (hr : Pv.rightB ps f t = true) (hm : ms.length = m) (hm1 : m ≤ 400) (hM : EG.Rd w M ms) (hms : rightB ms = true) :
    Calls Try.prog 15 #[NV kd (.slice P n pc) (.slice J k kc) (.slice M m mc) (.slice B b bc), .agg #[.string f, .string t], .int .i64 i] w (RowsOf (restL ps f t i ms) w) := by
  have AL := Lib.hid (fun W (h : Below w.heap.size w W) => Pv.rspans_any P ps n pc f t W hl (by omega) (Rd.later hP h))
  have FA := Lib.hid (fun x y W (h : Below w.heap.size w W) => rres_any x y M m mc ms W hm hm1 (hM.later h) (fun k _ => acc_right (resL_right (right_take hms k) x y)))
  have HMM := Lib.hid (show ∀ W, Below w.heap.size w W → EG.Rd W M ms from fun W h => hM.later h)
  have HML := Lib.hid hm
  have HLN : Hid ((Pv.parts ps f t).length ≤ 101) := Lib.hid (by unfold Pv.parts; rw [List.length_map, List.length_range]; have := Pv.many_le ps f t; omega)
  clear hl hP hm hM hms
  have y1 := two_new w (NO kd (.slice P n pc) (.slice J k kc) (.slice M m mc) (.slice B b bc)) (rgc f t)
  have H0 := Lib.hid (bel_alloc (alb w (NO kd (.slice P n pc) (.slice J k kc) (.slice M m mc) (.slice B b bc))) (rgc f t))
  have Z := Lib.hid y1.1
  have Y := Lib.hid y1.2
  clear y1
  obtain ⟨c0, c1, c2, c3, c4⟩ := cells5 Z.out
  obtain ⟨d0, d1, -, -⟩ := has_two Y.out
  cases hs : Pv.spanB ps f t i
  · have hf := parts_far hr hs
    have HL : Hid (restL ps f t i ms = ms) := Lib.hid (by unfold restL; rw [hs]; rfl)
    rw [HL.out]
    obtain ⟨q, hq⟩ : ∃ q, q = (Pv.parts ps f t).length := ⟨_, rfl⟩
    rw [← hq] at hf
    have HQ := Lib.hid hq
    unfold Pv.RSpansPost at AL
    rw [← hq] at AL
    clear hs hq hr
    by_cases hi : i < 0
    · go_enter Try.func15, Try.ntmps15
      go_wp2_with (first
        | (go_at_call 39; ((with_reducible refine (AL.out _ H0.out).mono ?_); rintro e w1 ⟨A1, a1, rfl, r1, b⟩; have H1 := Lib.hid (bel_trans H0.out b); replace Z := Lib.hid (keep_bel b Z.out); clear b r1 c0 c1 c2 c3 c4; obtain ⟨c0, c1, c2, c3, c4⟩ := cells5 Z.out))
        | fail)
      go_ret
      exact ⟨⟨M, mc, by rw [HML.out]; rfl, HMM.out _ H1.out⟩, H1.out⟩
    · have hi2 : i ≥ (q : Int) := by omega
      have hi3 : (q : Int) ≤ i := hi2
      go_enter Try.func15, Try.ntmps15
      go_wp2_with (first
        | (go_at_call 39; ((with_reducible refine (AL.out _ H0.out).mono ?_); rintro e w1 ⟨A1, a1, rfl, r1, b⟩; have H1 := Lib.hid (bel_trans H0.out b); replace Z := Lib.hid (keep_bel b Z.out); clear b r1 c0 c1 c2 c3 c4; obtain ⟨c0, c1, c2, c3, c4⟩ := cells5 Z.out))
        | fail)
      go_ret
      exact ⟨⟨M, mc, by rw [HML.out]; rfl, HMM.out _ H1.out⟩, H1.out⟩
  · obtain ⟨j, rfl, hjl, hj⟩ := parts_at hs
    have hx : restL ps f t (j : Int) ms = resL (Pv.spanF ps f t j).1 (Pv.spanF ps f t j).2 ms := by unfold restL; rw [if_pos hs]
    rw [hx]
    obtain ⟨⟨x, y⟩, hxy⟩ : ∃ z, z = Pv.spanF ps f t j := ⟨_, rfl⟩
    rw [← hxy] at hj ⊢
    have HJ := Lib.hid hj
    have hlt := hjl
    obtain ⟨q, hq⟩ : ∃ q, q = (Pv.parts ps f t).length := ⟨_, rfl⟩
    have HQ9 : q ≤ 101 := by rw [hq]; exact HLN.out
    unfold Pv.RSpansPost at AL
    rw [← hq] at AL hlt
    clear hs hx hxy hj hjl hq hr
    have hi0 : ¬ (j : Int) < 0 := by omega
    have hi1 : ¬ (j : Int) ≥ (q : Int) := by omega
    have hi2 : ¬ (q : Int) ≤ (j : Int) := by omega
    have hi3 : (j : Int) < (q : Int) := by omega
    have hi4 : (0 : Int) ≤ (j : Int) := by omega
    go_enter Try.func15, Try.ntmps15
    go_wp2_with (first
      | (go_at_call 39; ((with_reducible refine (AL.out _ H0.out).mono ?_); rintro e w1 ⟨A1, a1, rfl, r1, b⟩; obtain ⟨b0, off, rfl, k1, k2⟩ := rdp_get r1 HJ.out; have K1 := Lib.hid k1; have K2 := Lib.hid k2; have H1 := Lib.hid (bel_dw (bel_trans H0.out b)); have Z1 := Lib.hid (keep_bel b Z.out); clear b r1 c0 c1 c2 c3 c4 d0 d1 k1 k2))
      | fail)
    replace Z1 := Lib.hid (show w1.drew.heap[w.heap.size]? = some (NO kd (.slice P n pc) (.slice J k kc) (.slice M m mc) (.slice B b bc)) from Z1.out)
    replace K1 := Lib.hid (show w1.drew.cell? ⟨b0, off + j * 2, none⟩ = some (.string x) from K1.out)
    replace K2 := Lib.hid (show w1.drew.cell? ⟨b0, off + j * 2 + 1, none⟩ = some (.string y) from K2.out)
    refine wp_region_held_drew (S := (fun V : World => V.heap[w.heap.size]? = some (NO kd (.slice P n pc) (.slice J k kc) (.slice M m mc) (.slice B b bc)) ∧ V.cell? ⟨b0, off + j * 2, none⟩ = some (.string x) ∧ V.cell? ⟨b0, off + j * 2 + 1, none⟩ = some (.string y))) (by kernel_rfl) ?_ (fun hHeld => ?_)
    · exact ⟨Z1.out, K1.out, K2.out⟩
    have HHeld := Lib.hid hHeld; clear hHeld
    refine wT (i := 0) (oi := { dst := some 22, op := Op.fieldAddr 28 (Operand.tmp 3) 3, type := 0, pos := "ref.go:55", after := #[], guard := none }) (v := ?_) rfl (Or.inl ⟨by rfl, ?_⟩) HHeld.out ?_
    rotate_left
    · intro w hSw; clear hSw; go_simp; try with_reducible rfl
    try simp only [pu, pn, s1, s2, s3]
    refine wT (i := 1) (oi := { dst := some 23, op := Op.load 25 (Operand.tmp 22), type := 25, pos := "ref.go:55", after := #[{ on := 0, ground := Ground.data }], guard := none }) (v := (.slice M m mc : Value)) rfl (Or.inl ⟨by rfl, ?_⟩) HHeld.out ?_
    · intro V hV; have hc0 := (cells5 hV.1).2.2.2.1; clear hV; go_simp
    try simp only [pu, pn, s1, s2, s3]
    refine wT (i := 2) (oi := { dst := some 24, op := Op.move (Operand.tmp 7), type := 73, pos := "ref.go:55", after := #[], guard := none }) (v := ?_) rfl (Or.inl ⟨by rfl, ?_⟩) HHeld.out ?_
    rotate_left
    · intro w hSw; clear hSw; go_simp; try with_reducible rfl
    try simp only [pu, pn, s1, s2, s3]
    refine wT (i := 3) (oi := { dst := some 25, op := Op.move (Operand.tmp 2), type := 3, pos := "ref.go:55", after := #[], guard := none }) (v := ?_) rfl (Or.inl ⟨by rfl, ?_⟩) HHeld.out ?_
    rotate_left
    · intro w hSw; clear hSw; go_simp; try with_reducible rfl
    try simp only [pu, pn, s1, s2, s3]
    refine wT (i := 4) (oi := { dst := some 26, op := Op.indexAddr 73 (Operand.tmp 24) (Operand.tmp 25), type := 0, pos := "ref.go:55", after := #[{ on := 2, ground := Ground.data }, { on := 3, ground := Ground.data }], guard := none }) (v := ?_) rfl (Or.inl ⟨by rfl, ?_⟩) HHeld.out ?_
    rotate_left
    · intro w hSw; clear hSw; go_simp; try with_reducible rfl
    try simp only [pu, pn, s1, s2, s3]
    refine wT (i := 5) (oi := { dst := some 27, op := Op.load 30 (Operand.tmp 26), type := 30, pos := "ref.go:55", after := #[{ on := 4, ground := Ground.data }], guard := none }) (v := (.agg #[.string x, .string y] : Value)) rfl (Or.inl ⟨by rfl, ?_⟩) HHeld.out ?_
    · intro V hV; have hc0 := hV.2.1; have hc1 := hV.2.2; clear hV; go_simp
    try simp only [pu, pn, s1, s2, s3]
    refine wpAnyH_ready (rs := [6]) (by kernel_rfl) (by simp) ?_
    refine AllReadyH.cons (o := { dst := some 28, op := Op.call { callee := Callee.value (Operand.func 42), args := #[Operand.tmp 23, Operand.tmp 27], argTypes := #[25, 30] }, type := 25, pos := "ref.go:55", after := #[{ on := 1, ground := Ground.data }, { on := 5, ground := Ground.data }], guard := none }) rfl (fun K hK => ?_) AllReadyH.nil
    go_simp
    go_at_call 42
    with_reducible refine (FA.out x y _ H1.out).mono ?_
    rintro e w2 ⟨⟨A2, c2, rfl, r2⟩, b⟩
    have R2 := Lib.hid r2; have B2 := Lib.hid (bel_trans H1.out b); have K0 := Lib.hid (keep_bel b Z1.out); have K1 := Lib.hid (bel_later b K1.out); have K2 := Lib.hid (bel_later b K2.out); clear b r2
    refine hK.out _ _ ?_ (fun hHeld => ?_)
    · exact ⟨K0.out, K1.out, K2.out⟩
    clear HHeld; have HHeld := Lib.hid hHeld; clear hHeld
    clear hK K
    try simp only [pu, pn, s1, s2, s3]
    refine wT (i := 7) (oi := { dst := some 6, op := Op.assign (Operand.tmp 28), type := 25, pos := "ref.go:55", after := #[{ on := 6, ground := Ground.data }, { on := 6, ground := Ground.chain }, { on := 0, ground := Ground.phase }, { on := 1, ground := Ground.phase }, { on := 2, ground := Ground.phase }, { on := 3, ground := Ground.phase }, { on := 4, ground := Ground.phase }, { on := 5, ground := Ground.phase }, { on := 6, ground := Ground.phase }], guard := none }) (v := ?_) rfl (Or.inl ⟨by rfl, ?_⟩) HHeld.out ?_
    rotate_left
    · intro w hSw; clear hSw; go_simp; try with_reducible rfl
    try simp only [pu, pn, s1, s2, s3]
    refine wpAnyH_done (by kernel_rfl) ?_ _
    clear HHeld
    go_wp2
    go_ret
    exact ⟨⟨A2, c2, rfl, R2.out⟩, B2.out⟩
end Go.Proofs.Ytilnpeekajnlhaa
namespace Go.Proofs.Ytilnpeekajnlhaa
open Go.RowKit Go.Maps
set_option maxRecDepth 10000 in
set_option maxHeartbeats 4000000 in
theorem take_row (a b : ByteArray) (A : Option Addr) (n cap : Nat) (xs : List MG) (w : World) (hl : xs.length = n) (hn : n ≤ 1000) (hA : EG.Rd w A xs) (ho : OkA xs) :
    Calls Try.prog 38 #[.slice A n cap, .agg #[.string a, .string b]] w fun r w' => (∃ A' c' B' d', r = .returned (TV A' (forL a b xs).length c' B' (resL a b xs).length d') ∧ EG.Row w' w.heap.size A' (forL a b xs) c' ∧ EG.Row w' w.heap.size B' (resL a b xs) d') ∧ Below w.heap.size w w' := by
  have HL := Lib.hid hl
  have HA := Lib.hid hA
  have HO := Lib.hid ho
  have H0 := Lib.hid (alb w (rgc a b))
  have z0 := Lib.hid (heap_alloc_new w (rgc a b))
  clear hl hA ho
  go_enter Try.func38, Try.ntmps38
  go_wp2
  go_loopw [6, 11] (fun sv iv wr => ∃ (k : Nat) (A' : Option Addr) (c' m : Nat), k ≤ n ∧ iv = .int .i64 k ∧ sv = .slice A' m c' ∧ (resL a b (xs.take k)).length = m ∧ EG.Row wr (w.alloc (rgc a b)).heap.size A' (resL a b (xs.take k)) c' ∧ Below (w.alloc (rgc a b)).heap.size (w.alloc (rgc a b)) wr) (fun _ i _ => n - (intOf i).toNat)
  case atStart => exact ⟨0, none, 0, 0, by omega, rfl, rfl, rfl, .inl ⟨rfl, rfl⟩, Below.refl _ _⟩
  case round =>
    obtain ⟨k, A', c', m, hk, rfl, rfl, hm, hr, hb⟩ := hrel
    have HM := Lib.hid hm
    have HR := Lib.hid hr
    have HB := Lib.hid (bel_trans H0.out hb)
    have HP := Lib.hid hb
    have ZR := Lib.hid (keep_bel hb z0.out)
    clear hm hr hb
    by_cases h8 : k < n
    · have hk1 : (k : Int) < (n : Int) := by omega
      have hk0 : (0 : Int) ≤ (k : Int) := by omega
      obtain ⟨x, hx⟩ : ∃ x, xs[k]? = some x := ⟨_, List.getElem?_eq_getElem (by rw [HL.out]; omega)⟩
      obtain ⟨b', off, rfl, hlt, g0, g1, g2, g3, g4, g5⟩ := eg_at (HA.out.later HB.out) hx
      have HNX := Lib.hid (resL_next (a := a) (b := b) hx)
      have AR := Lib.hid (rest_any x (HO.out.get hx) a b)
      have HMM : Hid (m ≤ 2000) := Lib.hid (by have := resL_len a b (xs.take k); have := take_le xs k; rw [HM.out] at *; omega)
      have HLL := Lib.hid (rest_len x a b)
      obtain ⟨d0, d1, -, -⟩ := has_two (keep_bel (alb wr (MO x)) ZR.out)
      clear hx hlt
      obtain ⟨L, hL⟩ : ∃ L, L = restM x a b := ⟨_, rfl⟩
      rw [← hL] at HNX AR HLL
      clear hL
      obtain ⟨q, hq⟩ : ∃ q, L.length = q := ⟨_, rfl⟩
      have HQ := Lib.hid hq
      rw [hq] at HLL AR
      clear hq
      go_wp2_with (first
        | (go_at_call 73; ((with_reducible refine (AR.out _).mono ?_); rintro e w1 ⟨⟨AL, cL, rfl, rl⟩, b1⟩; have RL := Lib.hid rl; have B1 := Lib.hid (bel_a b1); have RW := Lib.hid (HR.out.later B1.out); have BQ := Lib.hid (bel_trans HP.out B1.out); clear b1 rl))
        | (at_builtin; refine RE.wpList_put EG _ rfl (.tmp 15) (.tmp 18) rfl (base := (w.alloc (rgc a b)).heap.size) A' m c' _ AL q cL L rfl rfl RW.out HM.out (by have := HMM.out; omega) BQ.out.size HQ.out (by have := HLL.out; omega) RL.out ?_; intro A2 c2 w2 r1 r2 r3; have R1 := Lib.hid r1; have R2 := Lib.hid r2; clear r1 r2 r3)
        | fail)
      exact ⟨⟨k + 1, A2, c2, m + q, by omega, by simp, by simp, by rw [HNX.out, List.length_append, HM.out, HQ.out], by rw [HNX.out]; exact R1.out, BQ.out.trans (RE.Row.below R2.out RW.out (Nat.le_refl _) BQ.out.size)⟩, by simp [intOf]; omega⟩
    · have hk1 : ¬ (k : Int) < (n : Int) := by omega
      have e : xs.take k = xs := List.take_of_length_le (by rw [HL.out]; omega)
      rw [e] at HM HR
      have hm := HM.out
      subst hm
      have AF := Lib.hid (for_any a b A n cap xs wr HL.out hn (HA.out.later HB.out) HO.out)
      obtain ⟨d0, d1, -, -⟩ := has_two ZR.out
      go_wp2_with (first
        | (go_at_call 48; ((with_reducible refine AF.out.mono ?_); rintro e w1 ⟨⟨AL, cL, rfl, rl⟩, b1⟩; have RL := Lib.hid (rl.base HB.out.size); have RR := Lib.hid ((HR.out.later b1).base (show w.heap.size ≤ (w.alloc (rgc a b)).heap.size by simp)); have B1 := Lib.hid (bel_trans HB.out b1); clear b1 rl))
        | fail)
      refine bodyPost_ret (v := TV AL (forL a b xs).length cL A' (resL a b xs).length c') (by simp [results, Try.results38, go_sem]) rfl ⟨⟨_, _, _, _, rfl, RL.out, RR.out⟩, B1.out⟩
end Go.Proofs.Ytilnpeekajnlhaa
