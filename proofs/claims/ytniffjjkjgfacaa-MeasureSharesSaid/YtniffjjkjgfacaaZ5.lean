/- levels of the one tree. -/
import Derived.Test.YtniffjjkjgfacaaZ3
namespace Go.Proofs.Ytniffjjkjgfacaa
set_option linter.unusedSimpArgs false
open Go.RowKit Go.Maps Go.Shelf
set_option linter.unusedVariables false
attribute [local go_sem] Oper.semAt_some
/-- What levels keeps: the sums, the map; all else stays. -/
structure LB (wn : World) (M : Nat) (A5 : Option Addr) (l5 : List Int) (c5 : Nat) (m : Nat) (S : Int → Int) (W : World) : Prop where
  r5 : EI.Row W wn.heap.size A5 l5 c5
  mp : IM W M m S
  ml : M < wn.heap.size
  ch : Chg (fun g => g = M) wn W
variable {wn W W' : World} {M : Nat} {A5 : Option Addr} {l5 l : List Int} {c5 m : Nat} {S : Int → Int}
theorem LB.later (h : LB wn M A5 l5 c5 m S W) (hb : Below W.heap.size W W') : LB wn M A5 l5 c5 m S W' := ⟨h.r5.later hb, h.mp.later hb, h.ml, h.ch.trans (Chg.of_below (D := fun _ => False) hb) (fun g hg => hg.elim)⟩
theorem LB.upd {i j : Int} (h : LB wn M A5 l5 c5 m S W) (hg : W.grownBy W' (some M)) (hm : IM W' M (m + 1) (upd S i j)) : LB wn M A5 l5 c5 (m + 1) (upd S i j) W' :=
  ⟨h.r5.kept hg (.inr (row_map h.r5 h.mp).symm), hm, h.ml, h.ch.trans (chg_of_grown hg) (fun g e => .inl (by injection e with e; exact e.symm))⟩
theorem LB.put5 {A : Option Addr} {c : Nat} (h : LB wn M A5 l5 c5 m S W) (hg : W.grownBy W' (RE.fp A5 c5)) (hr : EI.Row W' wn.heap.size A l c) : LB wn M A l c m S W' :=
  ⟨hr, h.mp.kept hg (row_map h.r5 h.mp), h.ml, h.ch.trans (chg_of_grown hg) (fun g e => .inr (h.r5.fp_lt e).1)⟩
theorem LB.set5 {g : Nat} (h : LB wn M (some ⟨g, 0, none⟩) l5 c5 m S W) (h0 : 0 < c5) (j : Nat) (v : Int) : LB wn M (some ⟨g, 0, none⟩) (l5.set j v) c5 m S (W.setCell ⟨g, j, none⟩ (.int .i64 v)) := by
  have hc : ¬ c5 = 0 := by omega
  have hf : RE.fp (some ⟨g, 0, none⟩) c5 = some g := by simp [RE.fp, hc]
  have hne : g ≠ M := fun e => row_map h.r5 h.mp (by rw [hf, e])
  have hs : Chg (fun x => x = g) W (W.setCell ⟨g, j, none⟩ (.int .i64 v)) := Chg.set _ _ rfl
  exact ⟨row_set h.r5 j v, h.mp.heap (hs.block M h.mp.lt (fun e => hne e.symm)), h.ml, h.ch.trans hs (fun x e => .inr (by have := (h.r5.fp_lt hf).1; omega))⟩
theorem LB.tree {w : World} {b kb : Nat} (h : LB wn M A5 l5 c5 m S W) (hT : TreeAt wn b kb) (h1 : b < M) (h2 : kb < M) : TreeAt W b kb := ⟨keep_chg h.ch hT.1 (by omega), keep_chg h.ch hT.2 (by omega)⟩
def LvR (wn : World) (M : Nat) (v5 v15 : Value) (W : World) : Prop :=
  (∃ S, v5 = S0 ∧ v15 = .int .i64 0 ∧ S 1 = 0 ∧ S 2 = 0 ∧ LB wn M none [] 0 0 S W) ∨
  (∃ A5 c5 x S m, m ≤ 5 ∧ v5 = .slice A5 1 c5 ∧ v15 = .int .i64 1 ∧ S 2 = 1 ∧ LB wn M A5 [x] c5 m S W) ∨
  (∃ A5 c5 l S m, v5 = .slice A5 2 c5 ∧ v15 = .int .i64 2 ∧ LB wn M A5 l c5 m S W)
theorem row_form {w : World} {base c : Nat} {A : Option Addr} {l : List Int} (h : EI.Row w base A l c) (hl : 0 < l.length) : ∃ g cur, A = some ⟨g, 0, none⟩ ∧ 0 < c ∧ w.heap[g]? = some (.cells cur 3 (0, 0)) ∧ ∀ j v, l[j]? = some v → w.cell? ⟨g, j, none⟩ = some (.int .i64 v) := by
  have hr := h.rd
  rcases h with ⟨rfl, h⟩ | ⟨h0, hl2, h⟩
  · simp at hl
  · rcases h with ⟨h1, h2⟩ | ⟨g, cap, cur, e, hb, hh, _⟩
    · omega
    · injection e with e1 e2 e3
      subst e1
      refine ⟨g, cur, rfl, h0, hh, fun j v hj => ?_⟩
      obtain ⟨b', off', e, _, hc⟩ := ei_at hr hj
      cases e
      simpa using hc
/-- What a round reads of the tree. -/
def TF (w : World) (b kb : Nat) (W : World) : Prop := NodeC W b 5 2 S0 (KS kb) S0 S0 ∧ NodeC W b 10 1 S0 S0 S0 S0 ∧ W.cell? ⟨kb, 0, none⟩ = some (.int .i64 2) ∧ W.cell? ⟨w.heap.size, 0, none⟩ = some (TS b)
theorem tf_of {w W : World} {b kb : Nat} (h : TreeAt W b kb) (hx : Boxed W w.heap.size 46 (TS b)) : TF w b kb W :=
  ⟨⟨tree_cells h 5 _ rfl, tree_cells h 6 _ rfl, tree_cells h 7 _ rfl, tree_cells h 8 _ rfl, tree_cells h 9 _ rfl⟩, ⟨tree_cells h 10 _ rfl, tree_cells h 11 _ rfl, tree_cells h 12 _ rfl, tree_cells h 13 _ rfl, tree_cells h 14 _ rfl⟩, by simp [World.cell?, h.2], hx.cell⟩
set_option maxRecDepth 100000 in
set_option maxHeartbeats 4000000 in
theorem levels1 (b kb : Nat) (w : World) (hT : TreeAt w b kb) : Calls Try.prog 22 #[TV b, .func (.func 23) #[] #[]] w fun e w' => (∃ A c, e = .returned (.slice A 2 c)) ∧ Below w.heap.size w w' := by
  have HTW : Hid (∀ W, Below w.heap.size w W → TreeAt W b kb) := Lib.hid (fun W h => hT.later h)
  have HV : Hid (Below w.heap.size w ((w.alloc (.cells #[TS b] 46)).alloc (.map #[] 0))) := Lib.hid (by go_grown)
  have HX : Hid (Boxed ((w.alloc (.cells #[TS b] 46)).alloc (.map #[] 0)) w.heap.size 46 (TS b)) := Lib.hid (boxed_later (Boxed.new w 46 _) (alb _ _))
  have HM : Hid (IM ((w.alloc (.cells #[TS b] 46)).alloc (.map #[] 0)) (w.heap.size + 1) 0 (fun _ => 0)) := by
    have h := IM.made (w.alloc (.cells #[TS b] 46))
    rw [show (w.alloc (.cells #[TS b] 46)).heap.size = w.heap.size + 1 by simp] at h
    exact Lib.hid h
  have HLB : Hid (b < w.heap.size ∧ kb < w.heap.size) := Lib.hid ⟨(Array.getElem?_eq_some_iff.1 hT.1).1, (Array.getElem?_eq_some_iff.1 hT.2).1⟩
  clear hT
  have hmm := @run_makeMap Try.prog
  go_enter Try.func22, Try.ntmps22
  go_wp2_with (first
    | (go_at_call 27; ((with_reducible refine (nodes1 b kb _ (HTW.out _ HV.out)).mono ?_); rintro e wn ⟨A, c, rfl, hr, b1⟩; have BN := Lib.hid (bel_trans HV.out b1); have XN := Lib.hid (boxed_later HX.out b1); have MN := Lib.hid (HM.out.later b1); have RNW : Hid (∀ W, Chg (fun g => g = w.heap.size + 1) wn W → EI.Rd W A ids) := Lib.hid (fun W hW => ei_chg hr.rd hW (fun h0 a ha e => by have hc : 0 < c := (by have := hr.cap.1; simp [ids] at this; omega); have := (hr.fp_lt (g := a.block) (by have hc' : ¬ c = 0 := (by omega); simp [RE.fp, hc', ha])).1; simp at this; omega)); clear hr b1))
    | fail)
  clear hmm
  have TFW : Hid (∀ W, Chg (fun g => g = w.heap.size + 1) wn W → TF w b kb W) := Lib.hid (fun W hW => tf_of ⟨keep_chg hW (HTW.out _ BN.out).1 (by have := HLB.out; omega), keep_chg hW (HTW.out _ BN.out).2 (by have := HLB.out; omega)⟩ (boxed_chg XN.out hW (by omega)))
  go_loopw [5, 15] (fun v5 v15 wr => LvR wn (w.heap.size + 1) v5 v15 wr) (fun _ i _ => 2 - (intOf i).toNat)
  case atStart => exact .inl ⟨_, rfl, rfl, rfl, rfl, .inl ⟨rfl, rfl⟩, MN.out, by have := MN.out.lt; omega, Chg.refl _ _⟩
  case round =>
    rcases hrel with ⟨S, rfl, rfl, h1, h2, hs⟩ | ⟨A5, c5, x, S, m, hm, rfl, rfl, h2, hs⟩ | ⟨A5, c5, l, S, m, rfl, rfl, hs⟩
    · have HS1 := Lib.hid h1
      have HS2 := Lib.hid h2
      obtain ⟨ba, offa, rfl, _, p0⟩ := ei_at (i := 0) (x := 1) (RNW.out _ hs.ch) rfl
      have p1 : wr.cell? ⟨ba, offa, none⟩ = some (.int .i64 1) := p0
      obtain ⟨⟨c0, c1, c2, c3, c4⟩, _, ck, cb⟩ := TFW.out _ hs.ch
      have HSB := Lib.hid hs
      clear h1 h2 hs p0
      go_wp2
      go_loopw [33] (fun i W => (i = .int .i64 0 ∧ LB wn (w.heap.size + 1) none [] 0 0 S W) ∨ (i = .int .i64 1 ∧ LB wn (w.heap.size + 1) none [] 0 1 (upd S 2 1) W)) (fun i _ => 1 - (intOf i).toNat)
      case atStart => exact .inl ⟨rfl, HSB.out⟩
      case round =>
        clear c0 c1 c2 c3 c4 ck cb p1 HSB
        rename World => W
        rcases hrel with ⟨rfl, hs⟩ | ⟨rfl, hs⟩
        · obtain ⟨⟨c0, c1, c2, c3, c4⟩, _, ck, cb⟩ := TFW.out _ hs.ch
          have SH := Lib.hid hs
          clear hs
          go_wp2_with (first
            | (at_lookup; refine im_look _ rfl (.tmp 39) (.tmp 40) rfl SH.out.mp rfl 1 rfl (by decide) 0 HS1.out ?_)
            | (at_mapUpdate; refine im_put _ rfl (.tmp 37) (.tmp 38) (.tmp 42) rfl SH.out.mp (by unfold maxLen; omega) rfl 2 1 rfl rfl (by decide) (by decide) ?_; intro w3 hm3 hg3; have S2H := Lib.hid (SH.out.upd hg3 hm3); clear hm3 hg3)
            | fail)
          exact ⟨.inr ⟨rfl, S2H.out⟩, by simp [intOf]⟩
        · obtain ⟨⟨c0, c1, c2, c3, c4⟩, _, ck, cb⟩ := TFW.out _ hs.ch
          have SH := Lib.hid hs
          have RL := Lib.hid (RE.Rd.lit (E := EI) W 3 [0] #[.int .i64 0] rfl)
          have SHA := Lib.hid (hs.later (alb W (.cells #[.int .i64 0] 3)))
          have HWS : Hid (wn.heap.size ≤ (W.alloc (.cells #[.int .i64 0] 3)).heap.size) := Lib.hid SHA.out.ch.size
          clear hs
          go_wp2_with (first
            | (at_lookup; refine im_look _ rfl (.tmp 44) (.tmp 45) rfl SH.out.mp rfl 1 rfl (by decide) 0 (by simp [upd]; exact HS1.out) ?_)
            | (at_builtin; refine RE.wpList_put EI _ rfl (.tmp 50) (.tmp 51) rfl (base := wn.heap.size) none 0 0 [] (some ⟨W.heap.size, 0, none⟩) 1 1 [0] rfl rfl SHA.out.r5 rfl (by omega) HWS.out rfl (by omega) RL.out ?_; intro A5 c5 w4 r1 r2 r3; have S3H := Lib.hid (SHA.out.put5 r2 r1); clear r1 r2 r3 c0 c1 c2 c3 c4 ck cb)
            | fail)
          obtain ⟨g5, cur5, rfl, hc0, hh5, hg5⟩ := row_form S3H.out.r5 (by simp)
          have S4H := Lib.hid (S3H.out.later (drew_bel w4))
          have HC4 : Hid (w4.drew.heap[g5]? = some (.cells cur5 3 (0, 0))) := Lib.hid hh5
          have HC0 := Lib.hid hc0
          have HG4 : Hid (w4.drew.cell? ⟨g5, 0, none⟩ = some (.int .i64 0)) := Lib.hid (hg5 0 0 rfl)
          have HSI : Hid ((upd S 2 1) 1 = 0) := Lib.hid (by simp [upd]; exact HS1.out)
          have HSL : Hid (∀ V {A l c}, LB wn (w.heap.size + 1) A l c 1 (upd S 2 1) V → (fun V : World => V.cell? ⟨w.heap.size, 0, none⟩ = some (TS b) ∧ V.cell? ⟨b, 5, none⟩ = some (.int .u8 2) ∧ V.cell? ⟨b, 6, none⟩ = some (S0) ∧ V.cell? ⟨b, 7, none⟩ = some (KS kb) ∧ V.cell? ⟨b, 8, none⟩ = some (S0) ∧ V.cell? ⟨b, 9, none⟩ = some (S0) ∧ IM V (w.heap.size + 1) 1 (upd S 2 1)) V) := Lib.hid (fun V A l c h => (by
            obtain ⟨⟨q0, q1, q2, q3, q4⟩, ⟨r0, r1, r2, r3, r4⟩, _, cb⟩ := TFW.out _ h.ch
            exact ⟨cb, q0, q1, q2, q3, q4, h.mp⟩))
          clear hc0 hh5 hg5
          refine wp_region_held_drew (S := (fun V : World => V.cell? ⟨w.heap.size, 0, none⟩ = some (TS b) ∧ V.cell? ⟨b, 5, none⟩ = some (.int .u8 2) ∧ V.cell? ⟨b, 6, none⟩ = some (S0) ∧ V.cell? ⟨b, 7, none⟩ = some (KS kb) ∧ V.cell? ⟨b, 8, none⟩ = some (S0) ∧ V.cell? ⟨b, 9, none⟩ = some (S0) ∧ IM V (w.heap.size + 1) 1 (upd S 2 1))) (by kernel_rfl) ?_ (fun hHeld => ?_)
          · exact HSL.out _ S4H.out
          have HHeld := Lib.hid hHeld; clear hHeld
          refine wpAnyH_take (i := 0) (oi := { dst := some 53, op := Op.move (Operand.tmp 5), type := 26, pos := "measure.go:46", after := #[], guard := none }) (v := ?_) rfl (by kernel_rfl) (by kernel_rfl) (by kernel_rfl) (fun _ _ _ h => h) (Or.inl ⟨by rfl, ?_⟩) HHeld.out ?_
          rotate_left
          · intro w hSw; clear hSw; go_simp; try with_reducible rfl
          try simp only [Act.put, List.setIfInBounds_toArray, List.set_cons_zero, List.set_cons_succ]
          refine wpAnyH_take (i := 1) (oi := { dst := some 54, op := Op.move (Operand.tmp 6), type := 71, pos := "measure.go:46", after := #[], guard := none }) (v := ?_) rfl (by kernel_rfl) (by kernel_rfl) (by kernel_rfl) (fun _ _ _ h => h) (Or.inl ⟨by rfl, ?_⟩) HHeld.out ?_
          rotate_left
          · intro w hSw; clear hSw; go_simp; try with_reducible rfl
          try simp only [Act.put, List.setIfInBounds_toArray, List.set_cons_zero, List.set_cons_succ]
          refine wpAnyH_take (i := 2) (oi := { dst := some 55, op := Op.move (Operand.tmp 8), type := 3, pos := "measure.go:46", after := #[], guard := none }) (v := ?_) rfl (by kernel_rfl) (by kernel_rfl) (by kernel_rfl) (fun _ _ _ h => h) (Or.inl ⟨by rfl, ?_⟩) HHeld.out ?_
          rotate_left
          · intro w hSw; clear hSw; go_simp; try with_reducible rfl
          try simp only [Act.put, List.setIfInBounds_toArray, List.set_cons_zero, List.set_cons_succ]
          refine wpAnyH_take (i := 3) (oi := { dst := some 56, op := Op.lookup 71 (Operand.tmp 54) (Operand.tmp 55) false, type := 3, pos := "measure.go:46", after := #[{ on := 1, ground := Ground.data }, { on := 2, ground := Ground.data }], guard := none }) (v := Value.int .i64 0) rfl (by kernel_rfl) (by kernel_rfl) (by kernel_rfl) (fun _ _ _ h => h) (Or.inl ⟨by rfl, fun V hV => im_exec (.tmp 54) (.tmp 55) rfl hV.2.2.2.2.2.2 rfl 1 rfl (by decide) 0 HSI.out⟩) HHeld.out ?_
          try simp only [Act.put, List.setIfInBounds_toArray, List.set_cons_zero, List.set_cons_succ]
          refine wpAnyH_take (i := 4) (oi := { dst := some 57, op := Op.indexAddr 26 (Operand.tmp 53) (Operand.tmp 56), type := 0, pos := "measure.go:46", after := #[{ on := 0, ground := Ground.data }, { on := 3, ground := Ground.data }], guard := none }) (v := ?_) rfl (by kernel_rfl) (by kernel_rfl) (by kernel_rfl) (fun _ _ _ h => h) (Or.inl ⟨by rfl, ?_⟩) HHeld.out ?_
          rotate_left
          · intro w hSw; clear hSw; go_simp; try with_reducible rfl
          try simp only [Act.put, List.setIfInBounds_toArray, List.set_cons_zero, List.set_cons_succ]
          refine wpAnyH_take (i := 6) (oi := { dst := some 59, op := Op.move (Operand.tmp 1), type := 63, pos := "measure.go:46", after := #[], guard := none }) (v := ?_) rfl (by kernel_rfl) (by kernel_rfl) (by kernel_rfl) (fun _ _ _ h => h) (Or.inl ⟨by rfl, ?_⟩) HHeld.out ?_
          rotate_left
          · intro w hSw; clear hSw; go_simp; try with_reducible rfl
          try simp only [Act.put, List.setIfInBounds_toArray, List.set_cons_zero, List.set_cons_succ]
          refine wpAnyH_take (i := 7) (oi := { dst := some 60, op := Op.fieldAddr 46 (Operand.tmp 2) 0, type := 0, pos := "measure.go:46", after := #[], guard := none }) (v := ?_) rfl (by kernel_rfl) (by kernel_rfl) (by kernel_rfl) (fun _ _ _ h => h) (Or.inl ⟨by rfl, ?_⟩) HHeld.out ?_
          rotate_left
          · intro w hSw; clear hSw; go_simp; try with_reducible rfl
          try simp only [Act.put, List.setIfInBounds_toArray, List.set_cons_zero, List.set_cons_succ]
          refine wpAnyH_take (i := 8) (oi := { dst := some 61, op := Op.load 44 (Operand.tmp 60), type := 44, pos := "measure.go:46", after := #[{ on := 7, ground := Ground.data }], guard := none }) (v := TS b) rfl (by kernel_rfl) (by kernel_rfl) (by kernel_rfl) (fun _ _ _ h => h) (Or.inl ⟨by rfl, ?_⟩) HHeld.out ?_
          · intro V hV; have hc0 := hV.1; clear hV; go_simp
          try simp only [Act.put, List.setIfInBounds_toArray, List.set_cons_zero, List.set_cons_succ]
          refine wpAnyH_take (i := 9) (oi := { dst := some 62, op := Op.move (Operand.tmp 8), type := 3, pos := "measure.go:46", after := #[], guard := none }) (v := ?_) rfl (by kernel_rfl) (by kernel_rfl) (by kernel_rfl) (fun _ _ _ h => h) (Or.inl ⟨by rfl, ?_⟩) HHeld.out ?_
          rotate_left
          · intro w hSw; clear hSw; go_simp; try with_reducible rfl
          try simp only [Act.put, List.setIfInBounds_toArray, List.set_cons_zero, List.set_cons_succ]
          refine wpAnyH_take (i := 10) (oi := { dst := some 63, op := Op.indexAddr 44 (Operand.tmp 61) (Operand.tmp 62), type := 0, pos := "measure.go:46", after := #[{ on := 8, ground := Ground.data }, { on := 9, ground := Ground.data }], guard := none }) (v := ?_) rfl (by kernel_rfl) (by kernel_rfl) (by kernel_rfl) (fun _ _ _ h => h) (Or.inl ⟨by rfl, ?_⟩) HHeld.out ?_
          rotate_left
          · intro w hSw; clear hSw; go_simp; try with_reducible rfl
          try simp only [Act.put, List.setIfInBounds_toArray, List.set_cons_zero, List.set_cons_succ]
          refine wpAnyH_take (i := 11) (oi := { dst := some 64, op := Op.load 43 (Operand.tmp 63), type := 43, pos := "measure.go:46", after := #[{ on := 10, ground := Ground.data }], guard := none }) (v := Value.agg #[.int .u8 2, S0, KS kb, S0, S0]) rfl (by kernel_rfl) (by kernel_rfl) (by kernel_rfl) (fun _ _ _ h => h) (Or.inl ⟨by rfl, ?_⟩) HHeld.out ?_
          · intro V hV; have hc0 := hV.2.1; have hc1 := hV.2.2.1; have hc2 := hV.2.2.2.1; have hc3 := hV.2.2.2.2.1; have hc4 := hV.2.2.2.2.2.1; clear hV; go_simp
          try simp only [Act.put, List.setIfInBounds_toArray, List.set_cons_zero, List.set_cons_succ]
          refine wpAnyH_ready (rs := [5, 12]) (by kernel_rfl) (by simp) ?_
          refine AllReadyH.cons (o := { dst := some 58, op := Op.load 3 (Operand.tmp 57), type := 3, pos := "measure.go:46", after := #[{ on := 4, ground := Ground.data }], guard := none }) rfl (fun K hK => ?_) (AllReadyH.cons (o := { dst := some 65, op := Op.call { callee := Callee.value (Operand.tmp 59), args := #[Operand.tmp 64], argTypes := #[43] }, type := 3, pos := "measure.go:46", after := #[{ on := 6, ground := Ground.data }, { on := 11, ground := Ground.data }], guard := none }) rfl (fun K hK => ?_) AllReadyH.nil)
          · have cz := HG4.out
            go_simp
            refine hK.out _ _ ?_ (fun hHeld => ?_)
            · exact HSL.out _ S4H.out
            clear HHeld; have HHeld := Lib.hid hHeld; clear hHeld
            clear hK K
            try simp only [Act.put, List.setIfInBounds_toArray, List.set_cons_zero, List.set_cons_succ]
            refine wpAnyH_ready (rs := [12]) (by kernel_rfl) (by simp) ?_
            refine AllReadyH.cons (o := { dst := some 65, op := Op.call { callee := Callee.value (Operand.tmp 59), args := #[Operand.tmp 64], argTypes := #[43] }, type := 3, pos := "measure.go:46", after := #[{ on := 6, ground := Ground.data }, { on := 11, ground := Ground.data }], guard := none }) rfl (fun K hK => ?_) AllReadyH.nil
            go_simp
            go_at_call 23; ((with_reducible refine (one23 _ _ _ _ _ _ _ _ _ _ _ _ _ _).mono ?_); rintro e w5 ⟨rfl, b5⟩; have S5H := Lib.hid (S4H.out.later b5); have HC5 := Lib.hid (keep_bel b5 HC4.out); have HG5 := Lib.hid ((World.cell?_of_block (a := ⟨g5, 0, none⟩) (b5.block g5 (Array.getElem?_eq_some_iff.1 HC4.out).1)).trans HG4.out); clear b5)
            refine hK.out _ _ ?_ (fun hHeld => ?_)
            · exact HSL.out _ S5H.out
            clear HHeld; have HHeld := Lib.hid hHeld; clear hHeld
            clear hK K
            try simp only [Act.put, List.setIfInBounds_toArray, List.set_cons_zero, List.set_cons_succ]
            refine wpAnyH_take (i := 13) (oi := { dst := some 66, op := Op.binOp BinOp.add 3 (Operand.tmp 58) (Operand.tmp 65) 3, type := 3, pos := "measure.go:46", after := #[{ on := 5, ground := Ground.data }, { on := 12, ground := Ground.data }], guard := none }) (v := ?_) rfl (by kernel_rfl) (by kernel_rfl) (by kernel_rfl) (fun _ _ _ h => h) (Or.inl ⟨by rfl, ?_⟩) HHeld.out ?_
            rotate_left
            · intro w hSw; clear hSw; go_simp; try with_reducible rfl
            try simp only [Act.put, List.setIfInBounds_toArray, List.set_cons_zero, List.set_cons_succ]
            refine wpAnyH_take (i := 14) (oi := { dst := some 67, op := Op.indexAddr 26 (Operand.tmp 53) (Operand.tmp 56), type := 0, pos := "measure.go:46", after := #[{ on := 0, ground := Ground.data }, { on := 3, ground := Ground.data }, { on := 0, ground := Ground.phase }, { on := 1, ground := Ground.phase }, { on := 2, ground := Ground.phase }, { on := 3, ground := Ground.phase }, { on := 4, ground := Ground.phase }, { on := 5, ground := Ground.phase }, { on := 6, ground := Ground.phase }, { on := 7, ground := Ground.phase }, { on := 8, ground := Ground.phase }, { on := 9, ground := Ground.phase }, { on := 10, ground := Ground.phase }, { on := 11, ground := Ground.phase }, { on := 12, ground := Ground.phase }, { on := 13, ground := Ground.phase }], guard := none }) (v := ?_) rfl (by kernel_rfl) (by kernel_rfl) (by kernel_rfl) (fun _ _ _ h => h) (Or.inl ⟨by rfl, ?_⟩) HHeld.out ?_
            rotate_left
            · intro w hSw; clear hSw; go_simp; try with_reducible rfl
            try simp only [Act.put, List.setIfInBounds_toArray, List.set_cons_zero, List.set_cons_succ]
            refine wpAnyH_ready (rs := [15]) (by kernel_rfl) (by simp) ?_
            refine AllReadyH.cons (o := { dst := none, op := Op.store 3 (Operand.tmp 67) (Operand.tmp 66), type := 0, pos := "measure.go:46", after := #[{ on := 14, ground := Ground.data }, { on := 13, ground := Ground.data }, { on := 12, ground := Ground.chain }, { on := 0, ground := Ground.phase }, { on := 1, ground := Ground.phase }, { on := 2, ground := Ground.phase }, { on := 3, ground := Ground.phase }, { on := 4, ground := Ground.phase }, { on := 5, ground := Ground.phase }, { on := 6, ground := Ground.phase }, { on := 7, ground := Ground.phase }, { on := 8, ground := Ground.phase }, { on := 9, ground := Ground.phase }, { on := 10, ground := Ground.phase }, { on := 11, ground := Ground.phase }, { on := 12, ground := Ground.phase }, { on := 13, ground := Ground.phase }], guard := none }) rfl (fun K hK => ?_) AllReadyH.nil
            have cz := HG5.out; have f0 := fz HC5.out 0
            go_simp
            refine hK.out _ _ ?_ (fun hHeld => ?_)
            · exact HSL.out _ (S5H.out.set5 HC0.out 0 1)
            clear HHeld; have HHeld := Lib.hid hHeld; clear hHeld
            clear hK K
            try simp only [Act.put, List.setIfInBounds_toArray, List.set_cons_zero, List.set_cons_succ]
            refine wpAnyH_done (by kernel_rfl) ?_ _
            go_wp2
            exact ⟨.inr (.inl ⟨_, _, _, _, _, by omega, rfl, rfl, by simp [upd], S5H.out.set5 HC0.out 0 1⟩), by simp [intOf]⟩
          · go_simp
            go_at_call 23; ((with_reducible refine (one23 _ _ _ _ _ _ _ _ _ _ _ _ _ _).mono ?_); rintro e w5 ⟨rfl, b5⟩; have S5H := Lib.hid (S4H.out.later b5); have HC5 := Lib.hid (keep_bel b5 HC4.out); have HG5 := Lib.hid ((World.cell?_of_block (a := ⟨g5, 0, none⟩) (b5.block g5 (Array.getElem?_eq_some_iff.1 HC4.out).1)).trans HG4.out); clear b5)
            refine hK.out _ _ ?_ (fun hHeld => ?_)
            · exact HSL.out _ S5H.out
            clear HHeld; have HHeld := Lib.hid hHeld; clear hHeld
            clear hK K
            try simp only [Act.put, List.setIfInBounds_toArray, List.set_cons_zero, List.set_cons_succ]
            refine wpAnyH_ready (rs := [5]) (by kernel_rfl) (by simp) ?_
            refine AllReadyH.cons (o := { dst := some 58, op := Op.load 3 (Operand.tmp 57), type := 3, pos := "measure.go:46", after := #[{ on := 4, ground := Ground.data }], guard := none }) rfl (fun K hK => ?_) AllReadyH.nil
            have cz := HG5.out
            go_simp
            refine hK.out _ _ ?_ (fun hHeld => ?_)
            · exact HSL.out _ S5H.out
            clear HHeld; have HHeld := Lib.hid hHeld; clear hHeld
            clear hK K
            try simp only [Act.put, List.setIfInBounds_toArray, List.set_cons_zero, List.set_cons_succ]
            refine wpAnyH_take (i := 13) (oi := { dst := some 66, op := Op.binOp BinOp.add 3 (Operand.tmp 58) (Operand.tmp 65) 3, type := 3, pos := "measure.go:46", after := #[{ on := 5, ground := Ground.data }, { on := 12, ground := Ground.data }], guard := none }) (v := ?_) rfl (by kernel_rfl) (by kernel_rfl) (by kernel_rfl) (fun _ _ _ h => h) (Or.inl ⟨by rfl, ?_⟩) HHeld.out ?_
            rotate_left
            · intro w hSw; clear hSw; go_simp; try with_reducible rfl
            try simp only [Act.put, List.setIfInBounds_toArray, List.set_cons_zero, List.set_cons_succ]
            refine wpAnyH_take (i := 14) (oi := { dst := some 67, op := Op.indexAddr 26 (Operand.tmp 53) (Operand.tmp 56), type := 0, pos := "measure.go:46", after := #[{ on := 0, ground := Ground.data }, { on := 3, ground := Ground.data }, { on := 0, ground := Ground.phase }, { on := 1, ground := Ground.phase }, { on := 2, ground := Ground.phase }, { on := 3, ground := Ground.phase }, { on := 4, ground := Ground.phase }, { on := 5, ground := Ground.phase }, { on := 6, ground := Ground.phase }, { on := 7, ground := Ground.phase }, { on := 8, ground := Ground.phase }, { on := 9, ground := Ground.phase }, { on := 10, ground := Ground.phase }, { on := 11, ground := Ground.phase }, { on := 12, ground := Ground.phase }, { on := 13, ground := Ground.phase }], guard := none }) (v := ?_) rfl (by kernel_rfl) (by kernel_rfl) (by kernel_rfl) (fun _ _ _ h => h) (Or.inl ⟨by rfl, ?_⟩) HHeld.out ?_
            rotate_left
            · intro w hSw; clear hSw; go_simp; try with_reducible rfl
            try simp only [Act.put, List.setIfInBounds_toArray, List.set_cons_zero, List.set_cons_succ]
            refine wpAnyH_ready (rs := [15]) (by kernel_rfl) (by simp) ?_
            refine AllReadyH.cons (o := { dst := none, op := Op.store 3 (Operand.tmp 67) (Operand.tmp 66), type := 0, pos := "measure.go:46", after := #[{ on := 14, ground := Ground.data }, { on := 13, ground := Ground.data }, { on := 12, ground := Ground.chain }, { on := 0, ground := Ground.phase }, { on := 1, ground := Ground.phase }, { on := 2, ground := Ground.phase }, { on := 3, ground := Ground.phase }, { on := 4, ground := Ground.phase }, { on := 5, ground := Ground.phase }, { on := 6, ground := Ground.phase }, { on := 7, ground := Ground.phase }, { on := 8, ground := Ground.phase }, { on := 9, ground := Ground.phase }, { on := 10, ground := Ground.phase }, { on := 11, ground := Ground.phase }, { on := 12, ground := Ground.phase }, { on := 13, ground := Ground.phase }], guard := none }) rfl (fun K hK => ?_) AllReadyH.nil
            have cz := HG5.out; have f0 := fz HC5.out 0
            go_simp
            refine hK.out _ _ ?_ (fun hHeld => ?_)
            · exact HSL.out _ (S5H.out.set5 HC0.out 0 1)
            clear HHeld; have HHeld := Lib.hid hHeld; clear hHeld
            clear hK K
            try simp only [Act.put, List.setIfInBounds_toArray, List.set_cons_zero, List.set_cons_succ]
            refine wpAnyH_done (by kernel_rfl) ?_ _
            go_wp2
            exact ⟨.inr (.inl ⟨_, _, _, _, _, by omega, rfl, rfl, by simp [upd], S5H.out.set5 HC0.out 0 1⟩), by simp [intOf]⟩
    · have HS2 := Lib.hid h2
      have HM5 := Lib.hid hm
      obtain ⟨ba, offa, rfl, _, p0⟩ := ei_at (i := 1) (x := 2) (RNW.out _ hs.ch) rfl
      have p1 : wr.cell? ⟨ba, offa + 1, none⟩ = some (.int .i64 2) := p0
      obtain ⟨_, ⟨c0, c1, c2, c3, c4⟩, _, cb⟩ := TFW.out _ hs.ch
      have SH := Lib.hid hs
      have RL := Lib.hid (RE.Rd.lit (E := EI) wr 3 [0] #[.int .i64 0] rfl)
      have SHA := Lib.hid (hs.later (alb wr (.cells #[.int .i64 0] 3)))
      have HWS : Hid (wn.heap.size ≤ (wr.alloc (.cells #[.int .i64 0] 3)).heap.size) := Lib.hid SHA.out.ch.size
      clear h2 hs p0
      go_wp2_with (first
        | (at_lookup; refine im_look _ rfl (.tmp 44) (.tmp 45) rfl SH.out.mp rfl 2 rfl (by decide) 1 HS2.out ?_)
        | (at_builtin; refine RE.wpList_put EI _ rfl (.tmp 50) (.tmp 51) rfl (base := wn.heap.size) A5 1 c5 [x] (some ⟨wr.heap.size, 0, none⟩) 1 1 [0] rfl rfl SHA.out.r5 rfl (by omega) HWS.out rfl (by omega) RL.out ?_; intro A6 c6 w4 r1 r2 r3; have S3H := Lib.hid (SHA.out.put5 r2 r1); clear r1 r2 r3 c0 c1 c2 c3 c4 cb p1)
        | fail)
      obtain ⟨g5, cur5, rfl, hc0, hh5, hg5⟩ := row_form S3H.out.r5 (by simp)
      have S4H := Lib.hid (S3H.out.later (drew_bel w4))
      have HC4 : Hid (w4.drew.heap[g5]? = some (.cells cur5 3 (0, 0))) := Lib.hid hh5
      have HC0 := Lib.hid hc0
      have HG4 : Hid (w4.drew.cell? ⟨g5, 1, none⟩ = some (.int .i64 0)) := Lib.hid (hg5 1 0 rfl)
      have HSI : Hid (S 2 = 1) := Lib.hid (by exact HS2.out)
      have HSL : Hid (∀ V {A l c}, LB wn (w.heap.size + 1) A l c m S V → (fun V : World => V.cell? ⟨w.heap.size, 0, none⟩ = some (TS b) ∧ V.cell? ⟨b, 10, none⟩ = some (.int .u8 1) ∧ V.cell? ⟨b, 11, none⟩ = some (S0) ∧ V.cell? ⟨b, 12, none⟩ = some (S0) ∧ V.cell? ⟨b, 13, none⟩ = some (S0) ∧ V.cell? ⟨b, 14, none⟩ = some (S0) ∧ IM V (w.heap.size + 1) m S) V) := Lib.hid (fun V A l c h => (by
        obtain ⟨⟨q0, q1, q2, q3, q4⟩, ⟨r0, r1, r2, r3, r4⟩, _, cb⟩ := TFW.out _ h.ch
        exact ⟨cb, r0, r1, r2, r3, r4, h.mp⟩))
      clear hc0 hh5 hg5
      refine wp_region_held_drew (S := (fun V : World => V.cell? ⟨w.heap.size, 0, none⟩ = some (TS b) ∧ V.cell? ⟨b, 10, none⟩ = some (.int .u8 1) ∧ V.cell? ⟨b, 11, none⟩ = some (S0) ∧ V.cell? ⟨b, 12, none⟩ = some (S0) ∧ V.cell? ⟨b, 13, none⟩ = some (S0) ∧ V.cell? ⟨b, 14, none⟩ = some (S0) ∧ IM V (w.heap.size + 1) m S)) (by kernel_rfl) ?_ (fun hHeld => ?_)
      · exact HSL.out _ S4H.out
      have HHeld := Lib.hid hHeld; clear hHeld
      refine wpAnyH_take (i := 0) (oi := { dst := some 53, op := Op.move (Operand.tmp 5), type := 26, pos := "measure.go:46", after := #[], guard := none }) (v := ?_) rfl (by kernel_rfl) (by kernel_rfl) (by kernel_rfl) (fun _ _ _ h => h) (Or.inl ⟨by rfl, ?_⟩) HHeld.out ?_
      rotate_left
      · intro w hSw; clear hSw; go_simp; try with_reducible rfl
      try simp only [Act.put, List.setIfInBounds_toArray, List.set_cons_zero, List.set_cons_succ]
      refine wpAnyH_take (i := 1) (oi := { dst := some 54, op := Op.move (Operand.tmp 6), type := 71, pos := "measure.go:46", after := #[], guard := none }) (v := ?_) rfl (by kernel_rfl) (by kernel_rfl) (by kernel_rfl) (fun _ _ _ h => h) (Or.inl ⟨by rfl, ?_⟩) HHeld.out ?_
      rotate_left
      · intro w hSw; clear hSw; go_simp; try with_reducible rfl
      try simp only [Act.put, List.setIfInBounds_toArray, List.set_cons_zero, List.set_cons_succ]
      refine wpAnyH_take (i := 2) (oi := { dst := some 55, op := Op.move (Operand.tmp 8), type := 3, pos := "measure.go:46", after := #[], guard := none }) (v := ?_) rfl (by kernel_rfl) (by kernel_rfl) (by kernel_rfl) (fun _ _ _ h => h) (Or.inl ⟨by rfl, ?_⟩) HHeld.out ?_
      rotate_left
      · intro w hSw; clear hSw; go_simp; try with_reducible rfl
      try simp only [Act.put, List.setIfInBounds_toArray, List.set_cons_zero, List.set_cons_succ]
      refine wpAnyH_take (i := 3) (oi := { dst := some 56, op := Op.lookup 71 (Operand.tmp 54) (Operand.tmp 55) false, type := 3, pos := "measure.go:46", after := #[{ on := 1, ground := Ground.data }, { on := 2, ground := Ground.data }], guard := none }) (v := Value.int .i64 1) rfl (by kernel_rfl) (by kernel_rfl) (by kernel_rfl) (fun _ _ _ h => h) (Or.inl ⟨by rfl, fun V hV => im_exec (.tmp 54) (.tmp 55) rfl hV.2.2.2.2.2.2 rfl 2 rfl (by decide) 1 HSI.out⟩) HHeld.out ?_
      try simp only [Act.put, List.setIfInBounds_toArray, List.set_cons_zero, List.set_cons_succ]
      refine wpAnyH_take (i := 4) (oi := { dst := some 57, op := Op.indexAddr 26 (Operand.tmp 53) (Operand.tmp 56), type := 0, pos := "measure.go:46", after := #[{ on := 0, ground := Ground.data }, { on := 3, ground := Ground.data }], guard := none }) (v := ?_) rfl (by kernel_rfl) (by kernel_rfl) (by kernel_rfl) (fun _ _ _ h => h) (Or.inl ⟨by rfl, ?_⟩) HHeld.out ?_
      rotate_left
      · intro w hSw; clear hSw; go_simp; try with_reducible rfl
      try simp only [Act.put, List.setIfInBounds_toArray, List.set_cons_zero, List.set_cons_succ]
      refine wpAnyH_take (i := 6) (oi := { dst := some 59, op := Op.move (Operand.tmp 1), type := 63, pos := "measure.go:46", after := #[], guard := none }) (v := ?_) rfl (by kernel_rfl) (by kernel_rfl) (by kernel_rfl) (fun _ _ _ h => h) (Or.inl ⟨by rfl, ?_⟩) HHeld.out ?_
      rotate_left
      · intro w hSw; clear hSw; go_simp; try with_reducible rfl
      try simp only [Act.put, List.setIfInBounds_toArray, List.set_cons_zero, List.set_cons_succ]
      refine wpAnyH_take (i := 7) (oi := { dst := some 60, op := Op.fieldAddr 46 (Operand.tmp 2) 0, type := 0, pos := "measure.go:46", after := #[], guard := none }) (v := ?_) rfl (by kernel_rfl) (by kernel_rfl) (by kernel_rfl) (fun _ _ _ h => h) (Or.inl ⟨by rfl, ?_⟩) HHeld.out ?_
      rotate_left
      · intro w hSw; clear hSw; go_simp; try with_reducible rfl
      try simp only [Act.put, List.setIfInBounds_toArray, List.set_cons_zero, List.set_cons_succ]
      refine wpAnyH_take (i := 8) (oi := { dst := some 61, op := Op.load 44 (Operand.tmp 60), type := 44, pos := "measure.go:46", after := #[{ on := 7, ground := Ground.data }], guard := none }) (v := TS b) rfl (by kernel_rfl) (by kernel_rfl) (by kernel_rfl) (fun _ _ _ h => h) (Or.inl ⟨by rfl, ?_⟩) HHeld.out ?_
      · intro V hV; have hc0 := hV.1; clear hV; go_simp
      try simp only [Act.put, List.setIfInBounds_toArray, List.set_cons_zero, List.set_cons_succ]
      refine wpAnyH_take (i := 9) (oi := { dst := some 62, op := Op.move (Operand.tmp 8), type := 3, pos := "measure.go:46", after := #[], guard := none }) (v := ?_) rfl (by kernel_rfl) (by kernel_rfl) (by kernel_rfl) (fun _ _ _ h => h) (Or.inl ⟨by rfl, ?_⟩) HHeld.out ?_
      rotate_left
      · intro w hSw; clear hSw; go_simp; try with_reducible rfl
      try simp only [Act.put, List.setIfInBounds_toArray, List.set_cons_zero, List.set_cons_succ]
      refine wpAnyH_take (i := 10) (oi := { dst := some 63, op := Op.indexAddr 44 (Operand.tmp 61) (Operand.tmp 62), type := 0, pos := "measure.go:46", after := #[{ on := 8, ground := Ground.data }, { on := 9, ground := Ground.data }], guard := none }) (v := ?_) rfl (by kernel_rfl) (by kernel_rfl) (by kernel_rfl) (fun _ _ _ h => h) (Or.inl ⟨by rfl, ?_⟩) HHeld.out ?_
      rotate_left
      · intro w hSw; clear hSw; go_simp; try with_reducible rfl
      try simp only [Act.put, List.setIfInBounds_toArray, List.set_cons_zero, List.set_cons_succ]
      refine wpAnyH_take (i := 11) (oi := { dst := some 64, op := Op.load 43 (Operand.tmp 63), type := 43, pos := "measure.go:46", after := #[{ on := 10, ground := Ground.data }], guard := none }) (v := Value.agg #[.int .u8 1, S0, S0, S0, S0]) rfl (by kernel_rfl) (by kernel_rfl) (by kernel_rfl) (fun _ _ _ h => h) (Or.inl ⟨by rfl, ?_⟩) HHeld.out ?_
      · intro V hV; have hc0 := hV.2.1; have hc1 := hV.2.2.1; have hc2 := hV.2.2.2.1; have hc3 := hV.2.2.2.2.1; have hc4 := hV.2.2.2.2.2.1; clear hV; go_simp
      try simp only [Act.put, List.setIfInBounds_toArray, List.set_cons_zero, List.set_cons_succ]
      refine wpAnyH_ready (rs := [5, 12]) (by kernel_rfl) (by simp) ?_
      refine AllReadyH.cons (o := { dst := some 58, op := Op.load 3 (Operand.tmp 57), type := 3, pos := "measure.go:46", after := #[{ on := 4, ground := Ground.data }], guard := none }) rfl (fun K hK => ?_) (AllReadyH.cons (o := { dst := some 65, op := Op.call { callee := Callee.value (Operand.tmp 59), args := #[Operand.tmp 64], argTypes := #[43] }, type := 3, pos := "measure.go:46", after := #[{ on := 6, ground := Ground.data }, { on := 11, ground := Ground.data }], guard := none }) rfl (fun K hK => ?_) AllReadyH.nil)
      · have cz := HG4.out
        go_simp
        refine hK.out _ _ ?_ (fun hHeld => ?_)
        · exact HSL.out _ S4H.out
        clear HHeld; have HHeld := Lib.hid hHeld; clear hHeld
        clear hK K
        try simp only [Act.put, List.setIfInBounds_toArray, List.set_cons_zero, List.set_cons_succ]
        refine wpAnyH_ready (rs := [12]) (by kernel_rfl) (by simp) ?_
        refine AllReadyH.cons (o := { dst := some 65, op := Op.call { callee := Callee.value (Operand.tmp 59), args := #[Operand.tmp 64], argTypes := #[43] }, type := 3, pos := "measure.go:46", after := #[{ on := 6, ground := Ground.data }, { on := 11, ground := Ground.data }], guard := none }) rfl (fun K hK => ?_) AllReadyH.nil
        go_simp
        go_at_call 23; ((with_reducible refine (one23 _ _ _ _ _ _ _ _ _ _ _ _ _ _).mono ?_); rintro e w5 ⟨rfl, b5⟩; have S5H := Lib.hid (S4H.out.later b5); have HC5 := Lib.hid (keep_bel b5 HC4.out); have HG5 := Lib.hid ((World.cell?_of_block (a := ⟨g5, 1, none⟩) (b5.block g5 (Array.getElem?_eq_some_iff.1 HC4.out).1)).trans HG4.out); clear b5)
        refine hK.out _ _ ?_ (fun hHeld => ?_)
        · exact HSL.out _ S5H.out
        clear HHeld; have HHeld := Lib.hid hHeld; clear hHeld
        clear hK K
        try simp only [Act.put, List.setIfInBounds_toArray, List.set_cons_zero, List.set_cons_succ]
        refine wpAnyH_take (i := 13) (oi := { dst := some 66, op := Op.binOp BinOp.add 3 (Operand.tmp 58) (Operand.tmp 65) 3, type := 3, pos := "measure.go:46", after := #[{ on := 5, ground := Ground.data }, { on := 12, ground := Ground.data }], guard := none }) (v := ?_) rfl (by kernel_rfl) (by kernel_rfl) (by kernel_rfl) (fun _ _ _ h => h) (Or.inl ⟨by rfl, ?_⟩) HHeld.out ?_
        rotate_left
        · intro w hSw; clear hSw; go_simp; try with_reducible rfl
        try simp only [Act.put, List.setIfInBounds_toArray, List.set_cons_zero, List.set_cons_succ]
        refine wpAnyH_take (i := 14) (oi := { dst := some 67, op := Op.indexAddr 26 (Operand.tmp 53) (Operand.tmp 56), type := 0, pos := "measure.go:46", after := #[{ on := 0, ground := Ground.data }, { on := 3, ground := Ground.data }, { on := 0, ground := Ground.phase }, { on := 1, ground := Ground.phase }, { on := 2, ground := Ground.phase }, { on := 3, ground := Ground.phase }, { on := 4, ground := Ground.phase }, { on := 5, ground := Ground.phase }, { on := 6, ground := Ground.phase }, { on := 7, ground := Ground.phase }, { on := 8, ground := Ground.phase }, { on := 9, ground := Ground.phase }, { on := 10, ground := Ground.phase }, { on := 11, ground := Ground.phase }, { on := 12, ground := Ground.phase }, { on := 13, ground := Ground.phase }], guard := none }) (v := ?_) rfl (by kernel_rfl) (by kernel_rfl) (by kernel_rfl) (fun _ _ _ h => h) (Or.inl ⟨by rfl, ?_⟩) HHeld.out ?_
        rotate_left
        · intro w hSw; clear hSw; go_simp; try with_reducible rfl
        try simp only [Act.put, List.setIfInBounds_toArray, List.set_cons_zero, List.set_cons_succ]
        refine wpAnyH_ready (rs := [15]) (by kernel_rfl) (by simp) ?_
        refine AllReadyH.cons (o := { dst := none, op := Op.store 3 (Operand.tmp 67) (Operand.tmp 66), type := 0, pos := "measure.go:46", after := #[{ on := 14, ground := Ground.data }, { on := 13, ground := Ground.data }, { on := 12, ground := Ground.chain }, { on := 0, ground := Ground.phase }, { on := 1, ground := Ground.phase }, { on := 2, ground := Ground.phase }, { on := 3, ground := Ground.phase }, { on := 4, ground := Ground.phase }, { on := 5, ground := Ground.phase }, { on := 6, ground := Ground.phase }, { on := 7, ground := Ground.phase }, { on := 8, ground := Ground.phase }, { on := 9, ground := Ground.phase }, { on := 10, ground := Ground.phase }, { on := 11, ground := Ground.phase }, { on := 12, ground := Ground.phase }, { on := 13, ground := Ground.phase }], guard := none }) rfl (fun K hK => ?_) AllReadyH.nil
        have cz := HG5.out; have f0 := fz HC5.out 1
        go_simp
        refine hK.out _ _ ?_ (fun hHeld => ?_)
        · exact HSL.out _ (S5H.out.set5 HC0.out 1 1)
        clear HHeld; have HHeld := Lib.hid hHeld; clear hHeld
        clear hK K
        try simp only [Act.put, List.setIfInBounds_toArray, List.set_cons_zero, List.set_cons_succ]
        refine wpAnyH_done (by kernel_rfl) ?_ _
        go_wp2
        exact ⟨.inr (.inr ⟨_, _, _, _, _, rfl, rfl, S5H.out.set5 HC0.out 1 1⟩), by simp [intOf]⟩
      · go_simp
        go_at_call 23; ((with_reducible refine (one23 _ _ _ _ _ _ _ _ _ _ _ _ _ _).mono ?_); rintro e w5 ⟨rfl, b5⟩; have S5H := Lib.hid (S4H.out.later b5); have HC5 := Lib.hid (keep_bel b5 HC4.out); have HG5 := Lib.hid ((World.cell?_of_block (a := ⟨g5, 1, none⟩) (b5.block g5 (Array.getElem?_eq_some_iff.1 HC4.out).1)).trans HG4.out); clear b5)
        refine hK.out _ _ ?_ (fun hHeld => ?_)
        · exact HSL.out _ S5H.out
        clear HHeld; have HHeld := Lib.hid hHeld; clear hHeld
        clear hK K
        try simp only [Act.put, List.setIfInBounds_toArray, List.set_cons_zero, List.set_cons_succ]
        refine wpAnyH_ready (rs := [5]) (by kernel_rfl) (by simp) ?_
        refine AllReadyH.cons (o := { dst := some 58, op := Op.load 3 (Operand.tmp 57), type := 3, pos := "measure.go:46", after := #[{ on := 4, ground := Ground.data }], guard := none }) rfl (fun K hK => ?_) AllReadyH.nil
        have cz := HG5.out
        go_simp
        refine hK.out _ _ ?_ (fun hHeld => ?_)
        · exact HSL.out _ S5H.out
        clear HHeld; have HHeld := Lib.hid hHeld; clear hHeld
        clear hK K
        try simp only [Act.put, List.setIfInBounds_toArray, List.set_cons_zero, List.set_cons_succ]
        refine wpAnyH_take (i := 13) (oi := { dst := some 66, op := Op.binOp BinOp.add 3 (Operand.tmp 58) (Operand.tmp 65) 3, type := 3, pos := "measure.go:46", after := #[{ on := 5, ground := Ground.data }, { on := 12, ground := Ground.data }], guard := none }) (v := ?_) rfl (by kernel_rfl) (by kernel_rfl) (by kernel_rfl) (fun _ _ _ h => h) (Or.inl ⟨by rfl, ?_⟩) HHeld.out ?_
        rotate_left
        · intro w hSw; clear hSw; go_simp; try with_reducible rfl
        try simp only [Act.put, List.setIfInBounds_toArray, List.set_cons_zero, List.set_cons_succ]
        refine wpAnyH_take (i := 14) (oi := { dst := some 67, op := Op.indexAddr 26 (Operand.tmp 53) (Operand.tmp 56), type := 0, pos := "measure.go:46", after := #[{ on := 0, ground := Ground.data }, { on := 3, ground := Ground.data }, { on := 0, ground := Ground.phase }, { on := 1, ground := Ground.phase }, { on := 2, ground := Ground.phase }, { on := 3, ground := Ground.phase }, { on := 4, ground := Ground.phase }, { on := 5, ground := Ground.phase }, { on := 6, ground := Ground.phase }, { on := 7, ground := Ground.phase }, { on := 8, ground := Ground.phase }, { on := 9, ground := Ground.phase }, { on := 10, ground := Ground.phase }, { on := 11, ground := Ground.phase }, { on := 12, ground := Ground.phase }, { on := 13, ground := Ground.phase }], guard := none }) (v := ?_) rfl (by kernel_rfl) (by kernel_rfl) (by kernel_rfl) (fun _ _ _ h => h) (Or.inl ⟨by rfl, ?_⟩) HHeld.out ?_
        rotate_left
        · intro w hSw; clear hSw; go_simp; try with_reducible rfl
        try simp only [Act.put, List.setIfInBounds_toArray, List.set_cons_zero, List.set_cons_succ]
        refine wpAnyH_ready (rs := [15]) (by kernel_rfl) (by simp) ?_
        refine AllReadyH.cons (o := { dst := none, op := Op.store 3 (Operand.tmp 67) (Operand.tmp 66), type := 0, pos := "measure.go:46", after := #[{ on := 14, ground := Ground.data }, { on := 13, ground := Ground.data }, { on := 12, ground := Ground.chain }, { on := 0, ground := Ground.phase }, { on := 1, ground := Ground.phase }, { on := 2, ground := Ground.phase }, { on := 3, ground := Ground.phase }, { on := 4, ground := Ground.phase }, { on := 5, ground := Ground.phase }, { on := 6, ground := Ground.phase }, { on := 7, ground := Ground.phase }, { on := 8, ground := Ground.phase }, { on := 9, ground := Ground.phase }, { on := 10, ground := Ground.phase }, { on := 11, ground := Ground.phase }, { on := 12, ground := Ground.phase }, { on := 13, ground := Ground.phase }], guard := none }) rfl (fun K hK => ?_) AllReadyH.nil
        have cz := HG5.out; have f0 := fz HC5.out 1
        go_simp
        refine hK.out _ _ ?_ (fun hHeld => ?_)
        · exact HSL.out _ (S5H.out.set5 HC0.out 1 1)
        clear HHeld; have HHeld := Lib.hid hHeld; clear hHeld
        clear hK K
        try simp only [Act.put, List.setIfInBounds_toArray, List.set_cons_zero, List.set_cons_succ]
        refine wpAnyH_done (by kernel_rfl) ?_ _
        go_wp2
        exact ⟨.inr (.inr ⟨_, _, _, _, _, rfl, rfl, S5H.out.set5 HC0.out 1 1⟩), by simp [intOf]⟩
    · have HS := Lib.hid hs
      clear hs
      go_wp2
      go_ret
      exact ⟨⟨_, _, rfl⟩, BN.out.trans (HS.out.ch.below (fun g e => by omega) BN.out.size)⟩
end Go.Proofs.Ytniffjjkjgfacaa
