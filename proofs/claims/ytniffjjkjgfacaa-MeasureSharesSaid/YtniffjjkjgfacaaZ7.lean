/- Entries of the one tree. -/
import Derived.Test.YtniffjjkjgfacaaZ6
import Derived.Test.YtniffjjkjgfacaaV5
namespace Go.Proofs.Ytniffjjkjgfacaa
set_option linter.unusedSimpArgs false
open Go.RowKit Go.Maps Go.Shelf
set_option linter.unusedVariables false
attribute [local go_sem] Oper.semAt_some
theorem lv16 (b kb : Nat) (w : World) (hT : TreeAt w b kb) : Calls Try.prog 16 #[TV b] w fun e w' => (∃ A c, e = .returned (.slice A 2 c)) ∧ Below w.heap.size w w' := by
  have HT : Hid (TreeAt (w.alloc (.cells #[TS b] 46)) b kb) := Lib.hid (hT.later (alb w _))
  clear hT
  go_enter Try.func16, Try.ntmps16
  go_wp2_with (first
    | (go_at_call 22; ((with_reducible refine (levels1 b kb _ HT.out).mono ?_); rintro e w1 ⟨⟨A, c, rfl⟩, b1⟩; have B1H := Lib.hid (bel_a b1); clear b1))
    | fail)
  go_ret
  exact ⟨⟨_, _, rfl⟩, B1H.out⟩
theorem count0 (w : World) : Calls Try.prog 28 #[S0] w fun e w' => e = .returned (.int .i64 0) ∧ w = w' := by
  go_enter Try.func28, Try.ntmps28
  go_wp2
  go_loop [3, 8] (fun i j => i = .int .i64 0 ∧ j = .int .i64 0) (fun _ _ => 0)
  case atStart => exact ⟨rfl, rfl⟩
  case round =>
    obtain ⟨rfl, rfl⟩ := hrel
    go_wp2
    go_ret
    exact ⟨rfl, rfl⟩
theorem of26 (A : Option Addr) (n c : Nat) (w : World) : Calls Try.prog 26 #[.slice A n c] w fun e w' => ∃ B, e = .returned (.func (.func 37) #[] #[.pointer (some ⟨B, 0, none⟩)]) ∧ w.heap.size ≤ B ∧ Boxed w' B 26 (.slice A n c) ∧ Below w.heap.size w w' := by
  go_enter Try.func26, Try.ntmps26
  go_wp2
  go_ret
  exact ⟨_, rfl, Nat.le_refl _, Boxed.new w 26 _, alb w _⟩
theorem wh25 (B t1 : Nat) (w : World) : Calls Try.prog 25 #[.func (.func 37) #[] #[.pointer (some ⟨B, 0, none⟩)], .func (.func 24) #[] #[.pointer (some ⟨t1, 0, none⟩)]] w fun e w' => ∃ bs bo, e = .returned (.func (.func 34) #[] #[.pointer (some ⟨bs, 0, none⟩), .pointer (some ⟨bo, 0, none⟩)]) ∧ (w.heap.size ≤ bs ∧ w.heap.size ≤ bo) ∧ Boxed w' bs 51 (.func (.func 37) #[] #[.pointer (some ⟨B, 0, none⟩)]) ∧ Boxed w' bo 64 (.func (.func 24) #[] #[.pointer (some ⟨t1, 0, none⟩)]) ∧ Below w.heap.size w w' := by
  obtain ⟨h1, h2⟩ := heap2 w (.cells #[.func (.func 37) #[] #[.pointer (some ⟨B, 0, none⟩)]] 51 (0, 0)) (.cells #[.func (.func 24) #[] #[.pointer (some ⟨t1, 0, none⟩)]] 64 (0, 0))
  have H1 := Lib.hid h1
  have H2 := Lib.hid h2
  clear h1 h2
  go_enter Try.func25, Try.ntmps25
  go_wp2
  go_ret
  exact ⟨_, _, rfl, ⟨Nat.le_refl _, by omega⟩, H1.out, H2.out, by go_grown⟩
theorem leaf24 (b kb t1 : Nat) (x : Int) (hx : x ∈ ids) (w : World) (hT : TreeAt w b kb) (h1 : Boxed w t1 46 (TS b)) : Calls Try.prog 24 (encI x ++ #[.pointer (some ⟨t1, 0, none⟩)]) w fun e w' => e = .returned (.bool (x == 2)) ∧ Below w.heap.size w w' := by
  have c0 := h1.cell
  have k1 : w.cell? ⟨b, 5, none⟩ = some (.int .u8 2) := tree_cells hT 5 _ rfl
  have k2 : w.cell? ⟨b, 10, none⟩ = some (.int .u8 1) := tree_cells hT 10 _ rfl
  clear hT h1
  simp [ids] at hx
  rcases hx with rfl | rfl
  · change Calls Try.prog 24 #[.int .i64 1, .pointer (some ⟨t1, 0, none⟩)] w _
    go_enter Try.func24, Try.ntmps24
    go_wp2
    go_ret
    exact ⟨rfl, Below.refl _ _⟩
  · change Calls Try.prog 24 #[.int .i64 2, .pointer (some ⟨t1, 0, none⟩)] w _
    go_enter Try.func24, Try.ntmps24
    go_wp2
    go_ret
    exact ⟨rfl, Below.refl _ _⟩
/-- What isLeaf reads. -/
def EQ (b kb t1 bo : Nat) (W : World) : Prop := Boxed W bo 64 (.func (.func 24) #[] #[.pointer (some ⟨t1, 0, none⟩)]) ∧ Boxed W t1 46 (TS b) ∧ TreeAt W b kb
def EF (b kb t1 bo : Nat) (g : Nat) : Prop := g = bo ∨ g = t1 ∨ g = b ∨ g = kb
theorem eq_chg {b kb t1 bo : Nat} {D : Nat → Prop} {W W' : World} (h : EQ b kb t1 bo W) (hc : Chg D W W') (hD : ∀ g, D g → ¬ EF b kb t1 bo g) : EQ b kb t1 bo W' :=
  ⟨boxed_chg h.1 hc (fun d => hD _ d (.inl rfl)), boxed_chg h.2.1 hc (fun d => hD _ d (.inr (.inl rfl))), keep_chg hc h.2.2.1 (fun d => hD _ d (.inr (.inr (.inl rfl)))), keep_chg hc h.2.2.2 (fun d => hD _ d (.inr (.inr (.inr rfl))))⟩
theorem eq_lt {b kb t1 bo : Nat} (W : World) (g : Nat) (h : EQ b kb t1 bo W) (hg : EF b kb t1 bo g) : g < W.heap.size := by
  rcases hg with rfl | rfl | rfl | rfl
  · exact h.1.lt
  · exact h.2.1.lt
  · exact (Array.getElem?_eq_some_iff.1 h.2.2.1).1
  · exact (Array.getElem?_eq_some_iff.1 h.2.2.2).1
theorem rv_chg {B n c : Nat} {A : Option Addr} {xs : List Int} {D : Nat → Prop} {W W' : World} (h : RV B A n c xs W) (hc : Chg D W W') (hD : ∀ g, D g → ¬ FV B A xs g) : RV B A n c xs W' :=
  ⟨boxed_chg h.1 hc (fun d => hD _ d (.inl rfl)), ei_chg h.2 hc (fun h0 a ha d => hD _ d (.inr ⟨h0, a, ha, rfl⟩))⟩
theorem rv_lt {B n c : Nat} {A : Option Addr} {xs : List Int} (W : World) (g : Nat) (h : RV B A n c xs W) (hg : FV B A xs g) : g < W.heap.size := by
  rcases hg with rfl | ⟨h0, a, rfl, rfl⟩
  · exact h.1.lt
  · rcases h.2 with h2 | ⟨b, off, e, hlt, _⟩
    · have := EI.all_empty h2
      subst this
      simp at h0
    · cases e
      exact hlt
def EnI (t3 : Nat) (_ : Nat) (D : Nat → Prop) (W : World) : Prop := D = (fun g => g = t3) ∧ Boxed W t3 3 (.int .i64 0)
theorem enI_loc (t3 B : Nat) : LocB B (EnI t3) := by
  rintro k D W W' ⟨rfl, h⟩ hc
  exact ⟨rfl, boxed_chg h hc (fun e => e.1 rfl)⟩
set_option maxRecDepth 100000 in
set_option maxHeartbeats 4000000 in
theorem entries1 (b kb : Nat) (w : World) (hT : TreeAt w b kb) : Calls Try.prog 17 #[TV b] w fun e w' => e = .returned (.int .i64 0) ∧ Below w.heap.size w w' := by
  have HV : Hid (Below w.heap.size w ((w.alloc (.cells #[TS b] 46)).alloc (.cells #[.int .i64 0] 3))) := Lib.hid (by go_grown)
  have HTW : Hid (∀ W, Below w.heap.size w W → TreeAt W b kb) := Lib.hid (fun W h => hT.later h)
  have HX : Hid (Boxed ((w.alloc (.cells #[TS b] 46)).alloc (.cells #[.int .i64 0] 3)) w.heap.size 46 (TS b) ∧ Boxed ((w.alloc (.cells #[TS b] 46)).alloc (.cells #[.int .i64 0] 3)) (w.heap.size + 1) 3 (.int .i64 0)) := by
    obtain ⟨h1, h2⟩ := heap2 w (.cells #[TS b] 46 (0, 0)) (.cells #[.int .i64 0] 3 (0, 0))
    exact Lib.hid ⟨h1, h2⟩
  have HL : Hid (b < w.heap.size ∧ kb < w.heap.size) := Lib.hid ⟨(Array.getElem?_eq_some_iff.1 hT.1).1, (Array.getElem?_eq_some_iff.1 hT.2).1⟩
  clear hT
  refine (callsIn_wide (n := 7)).1 ?_
  refine callsIn_of_wp_marks Try.func17 rfl trivial ?_ rfl
  simp only [Try.ntmps17, List.size_toArray, List.length_cons, List.length_nil, Nat.reduceAdd, Nat.reduceSub, Array.replicate_succ, Array.replicate_zero, List.push_toArray, List.append_toArray, List.nil_append, List.cons_append]
  gi_wp2_with (first
    | (refine ⟨trivial, ?_⟩; gi_at_call 27; refine (callsIn_wide.2 (nodes1 b kb _ (HTW.out _ HV.out))).mono ?_; rintro e w1 ⟨A, c, rfl, hr, b1⟩; have B1H := Lib.hid (bel_trans HV.out b1); have X1 := Lib.hid (boxed_later HX.out.1 b1); have Y1H := Lib.hid (boxed_later HX.out.2 b1); have RW := Lib.hid hr; have HS1 : Hid (w.heap.size + 1 + 1 ≤ w1.heap.size) := Lib.hid (by have := b1.size; simp at this; omega); clear hr b1)
    | (refine ⟨trivial, ?_⟩; gi_at_call 26; refine (callsIn_wide.2 (of26 _ _ _ _)).mono ?_; rintro e w2 ⟨B, rfl, hB, bx, b2⟩; have B2H := Lib.hid (bel_trans B1H.out b2); have X2 := Lib.hid (boxed_later X1.out b2); have Y2H := Lib.hid (boxed_later Y1H.out b2); have RW2 := Lib.hid (RW.out.later b2); have BX := Lib.hid bx; have HBL := Lib.hid hB; have HS2 := Lib.hid b2.size; clear b2 bx hB)
    | (refine ⟨trivial, ?_⟩; gi_at_call 25; refine (callsIn_wide.2 (wh25 B w.heap.size _)).mono ?_; rintro e w3 ⟨bs, bo, rfl, ⟨l1, l2⟩, h1, h2, b3⟩; have B3H := Lib.hid (bel_trans B2H.out b3); have X3 := Lib.hid (boxed_later X2.out b3); have Y3H := Lib.hid (boxed_later Y2H.out b3); have RW3 := Lib.hid (RW2.out.later b3); have BX3 := Lib.hid (boxed_later BX.out b3); have BS := Lib.hid h1; have BO := Lib.hid h2; have HL1 := Lib.hid l1; have HL2 := Lib.hid l2; clear b3 h1 h2 l1 l2)
    | fail)
  have hno : ¬ (FV B A ids (w.heap.size + 1) ∨ w.heap.size + 1 = bs ∨ EF b kb w.heap.size bo (w.heap.size + 1)) := by
    have h1 := HBL.out
    have h2 := HS1.out
    have h3 := HL1.out
    have h4 := HL2.out
    have h5 := HL.out
    have h6 := HS2.out
    rintro ((h | ⟨h0, a, ha, h⟩) | h | h | h | h | h)
    · omega
    · have hc : 0 < c := by have := RW.out.cap.1; simp [ids] at this; omega
      have hc' : ¬ c = 0 := by omega
      have := (RW.out.fp_lt (g := a.block) (by simp [RE.fp, hc', ha])).1
      simp at this
      omega
    all_goals omega
  refine range_R (gf := 34) (lb := #[.pointer (some ⟨bs, 0, none⟩), .pointer (some ⟨bo, 0, none⟩)]) (encs := encI) (xs := ids.filter (fun x => x == 2)) rfl (enters_of Try.func34 (by kernel_rfl) rfl)
    (where_seq bo bs (p := fun x => x == 2) (enters_of Try.func37 (by kernel_rfl) rfl) (of_seq B A 2 c ids rfl (by omega)) rv_chg rv_lt (Q := EQ b kb w.heap.size bo) (FQ := EF b kb w.heap.size bo) eq_chg eq_lt (enters_of Try.func24 (by kernel_rfl) rfl) (fun x hx U hU => leaf24 b kb w.heap.size x hx U hU.2.2 hU.2.1) (fun W hW => hW.1))
    ⟨⟨BX3.out, RW3.out.rd⟩, BS.out, BO.out, X3.out, HTW.out _ B3H.out⟩ (fun W W' h hb => ⟨rv_chg h.1 (Chg.of_below (D := fun _ => False) hb) (fun g h => h.elim), boxed_later h.2.1 hb, eq_chg h.2.2 (Chg.of_below (D := fun _ => False) hb) (fun g h => h.elim)⟩)
    (fun g hg => ?_) (fun _ => rfl) (EnI (w.heap.size + 1)) (fun _ _ _ _ => False) (enI_loc _ _) (fun c k D W W' h _ => h)
    (fun g => g = w.heap.size + 1) (fun g hg => ?_) ⟨rfl, Y3H.out⟩
    (fun x U => { tmps := #[TV b, .pointer (some ⟨w.heap.size, 0, none⟩), .int .i64 0, .pointer (some ⟨w.heap.size + 1, 0, none⟩), .func (.func 24) #[] #[.pointer (some ⟨w.heap.size, 0, none⟩)], .int .i64 x, .func (.func 24) #[] #[.pointer (some ⟨w.heap.size, 0, none⟩)], .agg #[.slice (some ⟨b, 0, none⟩) 3 3], .slice A 2 c, .func (.func 37) #[] #[.pointer (some ⟨B, 0, none⟩)], .func (.func 24) #[] #[.pointer (some ⟨w.heap.size, 0, none⟩)], .func (.func 34) #[] #[.pointer (some ⟨bs, 0, none⟩), .pointer (some ⟨bo, 0, none⟩)], .int .i64 x, undef, undef, undef, undef, undef, undef, undef, undef, undef, undef], defers := [] }) (fun x U => U) (fun x U => Below.refl _ _) ?_ ?_ ?_ ?_
  · rcases hg with h | h | h
    · exact rv_lt _ _ ⟨BX3.out, RW3.out.rd⟩ h
    · rw [h]; exact BS.out.lt
    · exact eq_lt _ _ ⟨BO.out, X3.out, HTW.out _ B3H.out⟩ h
  · have hg' : g = w.heap.size + 1 := hg
    subst hg'
    exact ⟨hno, Y3H.out.lt⟩
  · intro m l x U K hK
    gi_wp2
    exact hK
  · rintro m l k p D U V o hx hl hlU rfl hinD hlD hgr hch ⟨rfl, hbx⟩
    obtain ⟨Z, hZ⟩ : ∃ Z, Z = U.putObj l o := ⟨_, rfl⟩
    try simp only at hbx
    try simp only at hch
    rw [← hZ] at hbx hch
    have hp : p = 2 := by
      have := List.mem_of_getElem? hx
      simp [ids] at this
      exact this
    subst hp
    have he : EQ b kb w.heap.size bo Z := eq_chg (W := w3) ⟨BO.out, X3.out, HTW.out _ B3H.out⟩ hch (fun g hg hf => hno (.inr (.inr (by rw [← show g = w.heap.size + 1 from hg]; exact hf))))
    have HBX := Lib.hid (boxed_later hbx (drew_bel Z))
    have HS0 : Hid ((fun V : World => V.cell? ⟨w.heap.size + 1, 0, none⟩ = some (.int .i64 0) ∧ V.cell? ⟨w.heap.size, 0, none⟩ = some (TS b) ∧ V.cell? ⟨b, 14, none⟩ = some S0) Z.drew) := Lib.hid ⟨hbx.cell, he.2.1.cell, tree_cells he.2.2 14 _ rfl⟩
    have hst := hbx.set (.int .i64 0)
    have hcs : Chg (fun g => g = w.heap.size + 1) Z (Z.drew.setCell ⟨w.heap.size + 1, 0, none⟩ (.int .i64 0)) := (Chg.of_below (drew_bel Z)).trans (Chg.set (D := fun g => g = w.heap.size + 1) _ _ rfl) (fun g e => .inl e)
    have he2 := eq_chg he hcs (fun g hg hf => hno (.inr (.inr (by rw [← show g = w.heap.size + 1 from hg]; exact hf))))
    have HS9 : Hid ((fun V : World => V.cell? ⟨w.heap.size + 1, 0, none⟩ = some (.int .i64 0) ∧ V.cell? ⟨w.heap.size, 0, none⟩ = some (TS b) ∧ V.cell? ⟨b, 14, none⟩ = some S0) (Z.drew.setCell ⟨w.heap.size + 1, 0, none⟩ (.int .i64 0))) := Lib.hid ⟨hst.cell, he2.2.1.cell, tree_cells he2.2.2 14 _ rfl⟩
    have HFIN : Hid (∃ D', Gr (fun g => g = w.heap.size + 1) D' Z (Z.drew.setCell ⟨w.heap.size + 1, 0, none⟩ (.int .i64 0)) ∧ Chg (fun g => g = w.heap.size + 1) Z (Z.drew.setCell ⟨w.heap.size + 1, 0, none⟩ (.int .i64 0)) ∧ EnI (w.heap.size + 1) (k + 1) D' (Z.drew.setCell ⟨w.heap.size + 1, 0, none⟩ (.int .i64 0))) := Lib.hid ⟨_, Gr.refl _ _ _, hcs, rfl, hst⟩
    clear hx hl hlU hinD hlD hgr hch hbx he hst hcs he2
    change (Code.block 1 _).wpIn _ _ _ _ _ (U.putObj l o)
    rw [← hZ]
    clear hZ
    gi_wp2_with fail
    refine region_round_held (S := (fun V : World => V.cell? ⟨w.heap.size + 1, 0, none⟩ = some (.int .i64 0) ∧ V.cell? ⟨w.heap.size, 0, none⟩ = some (TS b) ∧ V.cell? ⟨b, 14, none⟩ = some S0)) (by kernel_rfl) (fun o ho c => ?_) ?_ (fun hHeld => ?_)
    · simp only [List.mem_toArray, List.mem_cons, List.not_mem_nil, or_false] at ho; rcases ho with rfl | rfl | rfl | rfl | rfl | rfl | rfl | rfl | rfl | rfl <;> (intro h; cases h)
    · exact HS0.out
    have HHeld := Lib.hid hHeld; clear hHeld
    refine wpAnyH_take (i := 0) (oi := { dst := some 13, op := Op.load 3 (Operand.tmp 3), type := 3, pos := "measure.go:59", after := #[], guard := none }) (v := Value.int .i64 0) rfl (by kernel_rfl) (by kernel_rfl) (by kernel_rfl) (fun _ _ _ h => h) (Or.inl ⟨by rfl, ?_⟩) HHeld.out ?_
    · intro V hV; have hc0 := hV.1; clear hV; go_simp
    try simp only [Act.put, List.setIfInBounds_toArray, List.set_cons_zero, List.set_cons_succ]
    refine wpAnyH_take (i := 1) (oi := { dst := some 14, op := Op.fieldAddr 46 (Operand.tmp 1) 0, type := 0, pos := "measure.go:59", after := #[], guard := none }) (v := ?_) rfl (by kernel_rfl) (by kernel_rfl) (by kernel_rfl) (fun _ _ _ h => h) (Or.inl ⟨by rfl, ?_⟩) HHeld.out ?_
    rotate_left
    · intro w hSw; clear hSw; go_simp; try with_reducible rfl
    try simp only [Act.put, List.setIfInBounds_toArray, List.set_cons_zero, List.set_cons_succ]
    refine wpAnyH_take (i := 2) (oi := { dst := some 15, op := Op.load 44 (Operand.tmp 14), type := 44, pos := "measure.go:59", after := #[{ on := 1, ground := Ground.data }], guard := none }) (v := TS b) rfl (by kernel_rfl) (by kernel_rfl) (by kernel_rfl) (fun _ _ _ h => h) (Or.inl ⟨by rfl, ?_⟩) HHeld.out ?_
    · intro V hV; have hc0 := hV.2.1; clear hV; go_simp
    try simp only [Act.put, List.setIfInBounds_toArray, List.set_cons_zero, List.set_cons_succ]
    refine wpAnyH_take (i := 3) (oi := { dst := some 16, op := Op.move (Operand.tmp 5), type := 3, pos := "measure.go:59", after := #[], guard := none }) (v := ?_) rfl (by kernel_rfl) (by kernel_rfl) (by kernel_rfl) (fun _ _ _ h => h) (Or.inl ⟨by rfl, ?_⟩) HHeld.out ?_
    rotate_left
    · intro w hSw; clear hSw; go_simp; try with_reducible rfl
    try simp only [Act.put, List.setIfInBounds_toArray, List.set_cons_zero, List.set_cons_succ]
    refine wpAnyH_take (i := 4) (oi := { dst := some 17, op := Op.indexAddr 44 (Operand.tmp 15) (Operand.tmp 16), type := 0, pos := "measure.go:59", after := #[{ on := 2, ground := Ground.data }, { on := 3, ground := Ground.data }], guard := none }) (v := ?_) rfl (by kernel_rfl) (by kernel_rfl) (by kernel_rfl) (fun _ _ _ h => h) (Or.inl ⟨by rfl, ?_⟩) HHeld.out ?_
    rotate_left
    · intro w hSw; clear hSw; go_simp; try with_reducible rfl
    try simp only [Act.put, List.setIfInBounds_toArray, List.set_cons_zero, List.set_cons_succ]
    refine wpAnyH_take (i := 5) (oi := { dst := some 18, op := Op.fieldAddr 43 (Operand.tmp 17) 4, type := 0, pos := "measure.go:59", after := #[{ on := 4, ground := Ground.data }], guard := none }) (v := ?_) rfl (by kernel_rfl) (by kernel_rfl) (by kernel_rfl) (fun _ _ _ h => h) (Or.inl ⟨by rfl, ?_⟩) HHeld.out ?_
    rotate_left
    · intro w hSw; clear hSw; go_simp; try with_reducible rfl
    try simp only [Act.put, List.setIfInBounds_toArray, List.set_cons_zero, List.set_cons_succ]
    refine wpAnyH_take (i := 6) (oi := { dst := some 19, op := Op.load 41 (Operand.tmp 18), type := 41, pos := "measure.go:59", after := #[{ on := 5, ground := Ground.data }], guard := none }) (v := S0) rfl (by kernel_rfl) (by kernel_rfl) (by kernel_rfl) (fun _ _ _ h => h) (Or.inl ⟨by rfl, ?_⟩) HHeld.out ?_
    · intro V hV; have hc0 := hV.2.2; clear hV; go_simp
    try simp only [Act.put, List.setIfInBounds_toArray, List.set_cons_zero, List.set_cons_succ]
    refine wpAnyH_ready (rs := [7]) (by kernel_rfl) (by simp) ?_
    refine AllReadyH.cons (o := { dst := some 20, op := Op.call { callee := Callee.value (Operand.func 28), args := #[Operand.tmp 19], argTypes := #[41] }, type := 3, pos := "measure.go:59", after := #[{ on := 6, ground := Ground.data }], guard := none }) rfl (fun K hK => ?_) AllReadyH.nil
    go_simp
    go_at_call 28; ((with_reducible refine (count0 _).mono ?_); rintro e w7 ⟨rfl, rfl⟩)
    refine hK.out _ _ ?_ (fun hHeld => ?_)
    · exact HS0.out
    clear HHeld; have HHeld := Lib.hid hHeld; clear hHeld
    clear hK K
    try simp only [Act.put, List.setIfInBounds_toArray, List.set_cons_zero, List.set_cons_succ]
    refine wpAnyH_take (i := 8) (oi := { dst := some 21, op := Op.binOp BinOp.add 3 (Operand.tmp 13) (Operand.tmp 20) 3, type := 3, pos := "measure.go:59", after := #[{ on := 0, ground := Ground.data }, { on := 7, ground := Ground.data }], guard := none }) (v := ?_) rfl (by kernel_rfl) (by kernel_rfl) (by kernel_rfl) (fun _ _ _ h => h) (Or.inl ⟨by rfl, ?_⟩) HHeld.out ?_
    rotate_left
    · intro w hSw; clear hSw; go_simp; try with_reducible rfl
    try simp only [Act.put, List.setIfInBounds_toArray, List.set_cons_zero, List.set_cons_succ]
    refine wpAnyH_ready (rs := [9]) (by kernel_rfl) (by simp) ?_
    refine AllReadyH.cons (o := { dst := none, op := Op.store 3 (Operand.tmp 3) (Operand.tmp 21), type := 0, pos := "measure.go:59", after := #[{ on := 8, ground := Ground.data }, { on := 7, ground := Ground.chain }, { on := 0, ground := Ground.phase }, { on := 1, ground := Ground.phase }, { on := 2, ground := Ground.phase }, { on := 3, ground := Ground.phase }, { on := 4, ground := Ground.phase }, { on := 5, ground := Ground.phase }, { on := 6, ground := Ground.phase }, { on := 7, ground := Ground.phase }, { on := 8, ground := Ground.phase }], guard := none }) rfl (fun K hK => ?_) AllReadyH.nil
    have cz := HBX.out.cell; have f0 := HBX.out.frozen
    go_simp
    refine hK.out _ _ ?_ (fun hHeld => ?_)
    · exact HS9.out
    clear HHeld; have HHeld := Lib.hid hHeld; clear hHeld
    clear hK K
    try simp only [Act.put, List.setIfInBounds_toArray, List.set_cons_zero, List.set_cons_succ]
    refine wpAnyH_done (by kernel_rfl) ?_ _
    refine calm_normal ?_
    first | exact HFIN.out | (gi_wp2; exact HFIN.out)
  · rintro B0 D U hB hD hgr hch ⟨rfl, hbx⟩ hK
    have hb3 := hbx.cell
    have bU : Below w.heap.size w U := B3H.out.trans (hch.below (fun g (hg : g = _) => by omega) B3H.out.size)
    have cP : Chg (fun g => g = B0) U (U.putObj B0 (.deferred none)) := Chg.put (D := fun g => g = B0) _ _ rfl
    have hBs : w.heap.size ≤ B0 := by have := B3H.out.size; omega
    have HBU : Hid (Below w.heap.size w (U.putObj B0 (.deferred none))) := Lib.hid (bU.trans (cP.below (fun g (hg : g = B0) => by omega) bU.size))
    have HKD := Lib.hid hK
    clear hgr hch hbx hK bU cP hBs hD hB
    gi_wp2
    exact ⟨by simp, .inl ⟨_, _, rfl, run_takeDeferred HKD.out, .int .i64 0, by simp [results, Try.results17, go_sem], rfl, HBU.out⟩⟩
  · rintro B0 c0 k D W _ _ _ _ _ h _
    exact h.elim
end Go.Proofs.Ytniffjjkjgfacaa
