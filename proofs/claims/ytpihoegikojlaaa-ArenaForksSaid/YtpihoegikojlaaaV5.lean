/- The law ArenaForks. -/
import Derived.Test.YtpihoegikojlaaaT7
namespace Go.Proofs.Ytpihoegikojlaaa
set_option linter.unusedSimpArgs false
open Go.RowKit Go.Maps
set_option linter.unusedVariables false
variable {F : Nat → Prop}

set_option maxRecDepth 4000 in
set_option maxHeartbeats 4000000 in
theorem forks_walk (A : Option Addr) (n cap : Nat) (d0 d1 d2 : Nat → Int) (A' : Option Addr) (n' cap' : Nat) (e0 e1 e2 : Nat → Int) (w : World) (hD : Deeds w A n d0 d1 d2) (hn : n ≤ maxLen) (hE : Deeds w A' n' e0 e1 e2) (hn' : n' ≤ maxLen) :
    Calls Try.prog 5 #[.slice A n cap, .slice A' n' cap'] w fun e w' => e = .returned (.bool true) ∧ Below w.heap.size w w' := by
  have hal := run_zb
  obtain ⟨b0, hb0⟩ : ∃ b, b = playR d0 d1 d2 (newB 12) (min n 60) := ⟨_, rfl⟩
  have PL := Lib.hid (played_any A n cap d0 d1 d2 w hD hn)
  rw [← hb0] at PL
  have HE := Lib.hid hE
  clear hD hE hb0
  go_enter Try.func5, Try.ntmps5
  go_wp2_with (first
    | (go_at_call 12; ((with_reducible refine PL.out.mono ?_); rintro e w1 ⟨cs1, rfl, h1, b1⟩; have H1 := Lib.hid h1; have B1 := Lib.hid b1; have Z1 := Lib.hid (heap_alloc_new w1 (.cells zb 33)); clear h1 b1))
    | (refine wpList_store_row rfl 33 _ _ rfl w1.heap.size cs1 rfl rfl 33 zb Z1.out (by rw [H1.out.size]; exact info33) (by rw [H1.out.size]; exact zb_size) H1.out.one ?_)
    | fail)
  change Code.wp _ _ _ _ (W2 w1 cs1)
  have hN : w.heap.size + 1 < w1.heap.size := by
    obtain ⟨_, _, _, _, h, _⟩ := H1.out
    exact h.hN.2
  have HB : Hid (Below w.heap.size w (W2 w1 cs1)) := Lib.hid (B1.out.trans ((W2.bel w1 cs1).mono B1.out.size))
  have H2 : Hid (SR (w.heap.size + 1) (w.heap.size + 1) (fun g => g = w1.heap.size) (fun _ => False) b0 b0 (W2 w1 cs1) cs1) := Lib.hid ((SR.of H1.out).wide (W2.bel w1 cs1) _ (fun g hg => .inr ⟨by omega, by rw [W2.size]; omega⟩))
  have Y2 := Lib.hid (W2.x w1 cs1)
  have ZS := Lib.hid H1.out.size
  have ZO := Lib.hid H1.out.one
  have NB : Hid (w.heap.size + 1 < w1.heap.size ∧ w1.heap.size < (W2 w1 cs1).heap.size) := Lib.hid ⟨hN, by rw [W2.size]; omega⟩
  clear B1 Z1 H1 PL hN
  generalize W2 w1 cs1 = W at *
  obtain ⟨gx, hgx⟩ : ∃ g, g = w1.heap.size := ⟨_, rfl⟩
  rw [← hgx] at H2 Y2 NB ⊢
  clear hgx
  have BA : Hid (Below W.heap.size W ((W.alloc (.cells zb 33)).drew)) := Lib.hid (by go_grown)
  have CF := Lib.hid (H2.out.later (drew_bel W)).pfork
  have CG := Lib.hid (H2.out.later BA.out).pfork
  have ZA : Hid (((W.alloc (.cells zb 33)).drew).heap[W.heap.size]? = some (.cells zb 33 (0, 0))) := Lib.hid (heap_alloc_new W _)
  have SA : Hid ((W.alloc (.cells zb 33)).drew.heap.size = W.heap.size + 1) := Lib.hid (by simp)
  refine wp_region_held_drew (S := (fun V => V.heap[gx]? = some (.cells cs1 33 (0, 0)))) (by kernel_rfl) ?_ (fun hHeld => ?_)
  · exact Y2.out
  have HHeld := Lib.hid hHeld; clear hHeld
  refine wpAnyH_take (i := 0) (oi := { dst := some 24, op := Op.move (Operand.tmp 5), type := 23, pos := "law.go:151", after := #[], guard := none }) (v := ?_) rfl (by kernel_rfl) (by kernel_rfl) (by kernel_rfl) (fun _ _ _ h => h) (Or.inl ⟨by rfl, ?_⟩) HHeld.out ?_
  rotate_left
  · intro w hSw; clear hSw; go_simp; try with_reducible rfl
  try simp only [Act.put, List.setIfInBounds_toArray, List.set_cons_zero, List.set_cons_succ]
  refine wpAnyH_take (i := 2) (oi := { dst := some 26, op := Op.load 33 (Operand.tmp 6), type := 33, pos := "law.go:151", after := #[{ on := 4, ground := Ground.gcOnly Departure.lateStores }], guard := none }) (v := Value.agg cs1) rfl (by kernel_rfl) (by kernel_rfl) (by kernel_rfl) (fun _ _ _ h => h) (Or.inl ⟨by rfl, fun V hV => ex_load_row (.tmp 6) rfl gx rfl cs1 hV ZS.out⟩) HHeld.out ?_
  try simp only [Act.put, List.setIfInBounds_toArray, List.set_cons_zero, List.set_cons_succ]
  refine wpAnyH_ready (rs := [1, 3]) (by kernel_rfl) (by simp) ?_
  refine AllReadyH.cons (o := { dst := some 25, op := Op.call { callee := Callee.value (Operand.func 16), args := #[Operand.tmp 24], argTypes := #[23] }, type := 23, pos := "law.go:151", after := #[{ on := 0, ground := Ground.data }], guard := none }) rfl (fun K hK => ?_) (AllReadyH.cons (o := { dst := some 9, op := Op.alloc 33, type := 0, pos := "law.go:151", after := #[], guard := none }) rfl (fun K hK => ?_) AllReadyH.nil)
  go_simp
  (go_at_call 16; ((with_reducible refine CF.out.mono ?_); rintro e w2 ⟨N', A3, G3, c3, d3, rfl, p3, b3⟩; have P3 : Hid (PA w2 W.heap.size N' A3 G3 c3 d3 b0) := Lib.hid p3; have B3 : Hid (Below W.heap.size W w2) := Lib.hid ((drew_bel W).trans b3); clear p3 b3))
  refine hK.out _ _ ?_ (fun hHeld => ?_)
  · exact blk_bel B3.out Y2.out
  clear HHeld; have HHeld := Lib.hid hHeld; clear hHeld
  clear hK K
  try simp only [Act.put, List.setIfInBounds_toArray, List.set_cons_zero, List.set_cons_succ]
  refine wpAnyH_ready (rs := [3]) (by kernel_rfl) (by simp) ?_
  refine AllReadyH.cons (o := { dst := some 9, op := Op.alloc 33, type := 0, pos := "law.go:151", after := #[], guard := none }) rfl (fun K hK => ?_) AllReadyH.nil
  go_simp
  refine hK.out _ _ ?_ (fun hHeld => ?_)
  · exact blk_bel (B3.out.trans (Below.mono (by go_grown : Below w2.heap.size w2 (w2.alloc (.cells zb 33))) B3.out.size)) Y2.out
  clear HHeld; have HHeld := Lib.hid hHeld; clear hHeld
  clear hK K
  try simp only [Act.put, List.setIfInBounds_toArray, List.set_cons_zero, List.set_cons_succ]
  refine wpAnyH_take (i := 4) (oi := { dst := some 8, op := Op.assign (Operand.tmp 25), type := 23, pos := "law.go:151", after := #[{ on := 1, ground := Ground.data }, { on := 1, ground := Ground.chain }, { on := 0, ground := Ground.phase }, { on := 1, ground := Ground.phase }, { on := 2, ground := Ground.textOnly Departure.lateStores }, { on := 3, ground := Ground.phase }], guard := none }) (v := ?_) rfl (by kernel_rfl) (by kernel_rfl) (by kernel_rfl) (fun _ _ _ h => h) (Or.inl ⟨by rfl, ?_⟩) HHeld.out ?_
  rotate_left
  · intro w hSw; clear hSw; go_simp; try with_reducible rfl
  try simp only [Act.put, List.setIfInBounds_toArray, List.set_cons_zero, List.set_cons_succ]
  refine wpAnyH_ready (rs := [5]) (by kernel_rfl) (by simp) ?_
  refine AllReadyH.cons (o := { dst := none, op := Op.store 33 (Operand.tmp 9) (Operand.tmp 26), type := 0, pos := "law.go:151", after := #[{ on := 3, ground := Ground.data }, { on := 2, ground := Ground.data }, { on := 4, ground := Ground.chain }, { on := 0, ground := Ground.phase }, { on := 1, ground := Ground.phase }, { on := 2, ground := Ground.phase }, { on := 3, ground := Ground.phase }, { on := 4, ground := Ground.phase }], guard := none }) rfl (fun K hK => ?_) AllReadyH.nil
  rw [if_pos (by rfl)]
  refine wp_store_row 33 (.tmp 9) (.tmp 26) rfl w2.heap.size cs1 rfl rfl 33 zb (heap_alloc_new w2 _) (by rw [ZS.out]; exact info33) (by rw [ZS.out]; exact zb_size) ZO.out ?_
  refine hK.out _ _ ?_ (fun hHeld => ?_)
  · exact (setRow_other _ _ _ _ (by have h1 := B3.out.size; have h2 := NB.out; omega)).trans HHeld.out
  clear HHeld; have HHeld := Lib.hid hHeld; clear hHeld
  clear hK K
  try simp only [Act.put, List.setIfInBounds_toArray, List.set_cons_zero, List.set_cons_succ]
  refine wpAnyH_done (by kernel_rfl) ?_ _
  have B5 : Hid (Below W.heap.size W (W2 w2 cs1)) := Lib.hid (B3.out.trans ((W2.bel w2 cs1).mono B3.out.size))
  have G5 : Hid (W.heap.size ≤ w2.heap.size) := Lib.hid B3.out.size
  have Y5 := Lib.hid (W2.x w2 cs1)
  obtain ⟨F, hF, h5, hback⟩ := SR.fork (yb := w2.heap.size) H2.out (P3.out.later (W2.bel w2 cs1)) B5.out (Nat.le_refl _) ⟨B3.out.size, by rw [W2.size]; omega, P3.out.high (Nat.le_refl _)⟩
  obtain ⟨lo2, h5, hl⟩ : ∃ lo2, SR lo2 N' (fun g => g = w2.heap.size ∨ F g ∨ g = gx) (fun _ => False) b0 b0 (W2 w2 cs1) cs1 ∧ W.heap.size ≤ lo2 ∧ lo2 ≤ (W2 w2 cs1).heap.size := ⟨_, h5, Nat.le_refl _, B5.out.size⟩
  have H5 := Lib.hid h5
  have HF := Lib.hid hF
  have HK := Lib.hid hback
  have L5 := Lib.hid hl
  clear h5 hF hback hl HHeld CF CG ZA SA BA
  change Exit.then _ _ _ _ (W2 w2 cs1)
  generalize W2 w2 cs1 = V at *
  obtain ⟨gy, hgy⟩ : ∃ g, g = w2.heap.size := ⟨_, rfl⟩
  rw [← hgy] at H5 Y5 G5 ⊢
  clear hgy P3 B3
  rotate_left
  go_simp
  refine hK.out _ _ ?_ (fun hHeld => ?_)
  · exact blk_bel BA.out Y2.out
  clear HHeld; have HHeld := Lib.hid hHeld; clear hHeld
  clear hK K
  try simp only [Act.put, List.setIfInBounds_toArray, List.set_cons_zero, List.set_cons_succ]
  refine wpAnyH_ready (rs := [1]) (by kernel_rfl) (by simp) ?_
  refine AllReadyH.cons (o := { dst := some 25, op := Op.call { callee := Callee.value (Operand.func 16), args := #[Operand.tmp 24], argTypes := #[23] }, type := 23, pos := "law.go:151", after := #[{ on := 0, ground := Ground.data }], guard := none }) rfl (fun K hK => ?_) AllReadyH.nil
  go_simp
  (go_at_call 16; ((with_reducible refine CG.out.mono ?_); rintro e w2 ⟨N', A3, G3, c3, d3, rfl, p3, b3⟩; have B3 : Hid (Below W.heap.size W w2) := Lib.hid (BA.out.trans (b3.mono BA.out.size)); have Z3 := Lib.hid (blk_bel b3 ZA.out); rw [SA.out] at p3; have P3 : Hid (PA w2 (W.heap.size + 1) N' A3 G3 c3 d3 b0) := Lib.hid p3; clear p3 b3))
  refine hK.out _ _ ?_ (fun hHeld => ?_)
  · exact blk_bel B3.out Y2.out
  clear HHeld; have HHeld := Lib.hid hHeld; clear hHeld
  clear hK K
  try simp only [Act.put, List.setIfInBounds_toArray, List.set_cons_zero, List.set_cons_succ]
  refine wpAnyH_take (i := 4) (oi := { dst := some 8, op := Op.assign (Operand.tmp 25), type := 23, pos := "law.go:151", after := #[{ on := 1, ground := Ground.data }, { on := 1, ground := Ground.chain }, { on := 0, ground := Ground.phase }, { on := 1, ground := Ground.phase }, { on := 2, ground := Ground.textOnly Departure.lateStores }, { on := 3, ground := Ground.phase }], guard := none }) (v := ?_) rfl (by kernel_rfl) (by kernel_rfl) (by kernel_rfl) (fun _ _ _ h => h) (Or.inl ⟨by rfl, ?_⟩) HHeld.out ?_
  rotate_left
  · intro w hSw; clear hSw; go_simp; try with_reducible rfl
  try simp only [Act.put, List.setIfInBounds_toArray, List.set_cons_zero, List.set_cons_succ]
  refine wpAnyH_ready (rs := [5]) (by kernel_rfl) (by simp) ?_
  refine AllReadyH.cons (o := { dst := none, op := Op.store 33 (Operand.tmp 9) (Operand.tmp 26), type := 0, pos := "law.go:151", after := #[{ on := 3, ground := Ground.data }, { on := 2, ground := Ground.data }, { on := 4, ground := Ground.chain }, { on := 0, ground := Ground.phase }, { on := 1, ground := Ground.phase }, { on := 2, ground := Ground.phase }, { on := 3, ground := Ground.phase }, { on := 4, ground := Ground.phase }], guard := none }) rfl (fun K hK => ?_) AllReadyH.nil
  rw [if_pos (by rfl)]
  refine wp_store_row 33 (.tmp 9) (.tmp 26) rfl W.heap.size cs1 rfl rfl 33 zb Z3.out (by rw [ZS.out]; exact info33) (by rw [ZS.out]; exact zb_size) ZO.out ?_
  refine hK.out _ _ ?_ (fun hHeld => ?_)
  · exact (setRow_other _ _ _ _ (by have h2 := NB.out; omega)).trans HHeld.out
  clear HHeld; have HHeld := Lib.hid hHeld; clear hHeld
  clear hK K
  try simp only [Act.put, List.setIfInBounds_toArray, List.set_cons_zero, List.set_cons_succ]
  refine wpAnyH_done (by kernel_rfl) ?_ _
  have B5 : Hid (Below W.heap.size W (w2.setRow W.heap.size cs1)) := Lib.hid (below_setRow B3.out (Nat.le_refl _) _)
  have Y5 : Hid ((w2.setRow W.heap.size cs1).heap[W.heap.size]? = some (.cells cs1 33 (0, 0))) := Lib.hid (setRow_heap _ _ _ _ _ _ Z3.out)
  obtain ⟨F, hF, h5, hback⟩ := SR.fork (yb := W.heap.size) H2.out (P3.out.row (P3.out.low' (Nat.lt_succ_self _)) cs1) B5.out (Nat.le_succ _) ⟨Nat.le_refl _, Nat.lt_of_lt_of_le (by have := P3.out.hN; omega) (grown_row (w := w2) (N := W.heap.size) (cs := cs1)).size, P3.out.low' (Nat.lt_succ_self _)⟩
  obtain ⟨lo2, h5, hl⟩ : ∃ lo2, SR lo2 N' (fun g => g = W.heap.size ∨ F g ∨ g = gx) (fun _ => False) b0 b0 (w2.setRow W.heap.size cs1) cs1 ∧ W.heap.size ≤ lo2 ∧ lo2 ≤ (w2.setRow W.heap.size cs1).heap.size := ⟨_, h5, Nat.le_succ _, Nat.le_trans (by have := P3.out.hN; omega) (grown_row (w := w2) (N := W.heap.size) (cs := cs1)).size⟩
  have H5 := Lib.hid h5
  have HF := Lib.hid hF
  have HK := Lib.hid hback
  have L5 := Lib.hid hl
  clear h5 hF hback hl HHeld CF CG ZA SA BA
  generalize w2.setRow W.heap.size cs1 = V at *
  obtain ⟨gy, hgy⟩ : ∃ g, g = W.heap.size := ⟨_, rfl⟩
  rw [← hgy] at H5 Y5 ⊢
  have G5 : Hid (W.heap.size ≤ gy) := Lib.hid (Nat.le_of_eq hgy.symm)
  clear hgy P3 B3 Z3
  rotate_left
  all_goals
    have KB := Lib.hid (fun X (hb : Below W.heap.size W X) => And.intro (HK.out X (fun _ => False) hb (fun _ h => h.elim) (fun _ h => h.elim)).to (blk_bel hb Y2.out))
    clear H2
    go_wp2_with fail
    rename_i KK2 aa2
    go_loopw [10, 11, 12] (fun iv _ _ wr => ∃ (k : Nat) (cs : Array Value), k ≤ min n' 60 ∧ iv = .int .i64 k ∧ SR lo2 N' (fun g => g = gy ∨ F g ∨ g = gx) (fun _ => False) (playR e0 e1 e2 b0 k) (playR e0 e1 e2 b0 k) wr cs ∧ wr.heap[gy]? = some (.cells cs 33 (0, 0)) ∧ Below W.heap.size W wr ∧ lo2 ≤ wr.heap.size) (fun i _ _ _ => 60 - (intOf i).toNat)
    case atStart => exact ⟨0, cs1, by omega, rfl, H5.out, Y5.out, B5.out, L5.out.2⟩
    case round =>
      obtain ⟨k, cs2, hk, rfl, hst, hy, hb, hlo⟩ := hrel
      have HST := Lib.hid hst
      have HY := Lib.hid hy
      have HBR := Lib.hid hb
      have HLO := Lib.hid hlo
      have HBW : Hid (Below w.heap.size w wr) := Lib.hid (HB.out.trans (HBR.out.mono HB.out.size))
      clear hst hy hb hlo H5 Y5 B5
      by_cases h89 : k < n' ∧ k < 60
      · obtain ⟨h8, h9⟩ := h89
        have hk1 : (k : Int) < (n' : Int) := by omega
        have hk0 : (0 : Int) ≤ (k : Int) := by omega
        have hk2 : (k : Int) < 60 := by omega
        obtain ⟨b, off, rfl, hlt, ⟨c0, c1, c2⟩, _, w1f, w2f⟩ := (HE.out.low HBW.out).at_ h8
        obtain ⟨x0, hx0⟩ : ∃ x, x = e0 k := ⟨_, rfl⟩
        obtain ⟨x1, hx1⟩ : ∃ x, x = e1 k := ⟨_, rfl⟩
        obtain ⟨x2, hx2⟩ : ∃ x, x = e2 k := ⟨_, rfl⟩
        rw [← hx0] at c0
        rw [← hx1] at c1 w1f
        rw [← hx2] at c2 w2f
        have HPL : Hid (playR e0 e1 e2 b0 (k + 1) = stepA (playR e0 e1 e2 b0 k) x0 x1 x2) := Lib.hid (by rw [hx0, hx1, hx2]; rfl)
        clear hx0 hx1 hx2
        have C0 := Lib.hid c0
        have C1 := Lib.hid c1
        have C2 := Lib.hid c2
        clear aa2
        have hbb : b < w.heap.size := by
          rcases HE.out with h | ⟨b', off', e, h, _⟩
          · omega
          · cases e; exact h
        have HLT : Hid (b < w.heap.size ∧ b < lo2 ∧ w.heap.size ≤ wr.heap.size) := Lib.hid ⟨hbb, by have := HB.out.size; have := L5.out.1; omega, HBW.out.size⟩
        have ZSb := Lib.hid HST.out.size
        have NR := Lib.hid (HST.out.kept gy (.inl (.inl rfl)))
        have BL : Hid (Below wr.heap.size wr (wr.alloc (.cells zb 33)).drew) := Lib.hid (by go_grown)
        have CS := Lib.hid (stepr_any (HST.out.later (drew_bel wr)) (by show lo2 ≤ wr.heap.size; exact HLO.out) x0 x1 x2)
        have CT := Lib.hid (stepr_any (HST.out.wide BL.out (fun g => (g = gy ∨ F g ∨ g = gx) ∨ g = wr.heap.size) (by rintro g (h | h); exact .inl h; exact .inr ⟨by omega, by simp; omega⟩)) (Nat.le_trans (by show lo2 ≤ wr.heap.size; exact HLO.out) BL.out.size) x0 x1 x2)
        have ZL : Hid ((wr.alloc (.cells zb 33)).drew.heap[wr.heap.size]? = some (.cells zb 33 (0, 0))) := Lib.hid (heap_alloc_new wr _)
        have SL : Hid ((wr.alloc (.cells zb 33)).drew.heap.size = wr.heap.size + 1) := Lib.hid (by simp)
        clear c0 c1 c2 hlt w1f w2f hbb
        go_wp2_with fail
        refine wp_region_held_drew (S := (fun V => V.heap[gy]? = some (.cells cs2 33 (0, 0)) ∧ V.cell? ⟨b, off + k * 3, none⟩ = some (.int .i64 x0) ∧ V.cell? ⟨b, off + k * 3 + 1, none⟩ = some (.int .i64 x1) ∧ V.cell? ⟨b, off + k * 3 + 2, none⟩ = some (.int .i64 x2))) (by kernel_rfl) ?_ (fun hHeld => ?_)
        · exact ⟨HY.out, C0.out, C1.out, C2.out⟩
        have HHeld := Lib.hid hHeld; clear hHeld
        refine wpAnyH_take (i := 0) (oi := { dst := some 40, op := Op.move (Operand.tmp 8), type := 23, pos := "law.go:156", after := #[], guard := none }) (v := ?_) rfl (by kernel_rfl) (by kernel_rfl) (by kernel_rfl) (fun _ _ _ h => h) (Or.inl ⟨by rfl, ?_⟩) HHeld.out ?_
        rotate_left
        · intro w hSw; clear hSw; go_simp; try with_reducible rfl
        try simp only [Act.put, List.setIfInBounds_toArray, List.set_cons_zero, List.set_cons_succ]
        refine wpAnyH_take (i := 1) (oi := { dst := some 41, op := Op.load 33 (Operand.tmp 9), type := 33, pos := "law.go:156", after := #[], guard := none }) (v := Value.agg cs2) rfl (by kernel_rfl) (by kernel_rfl) (by kernel_rfl) (fun _ _ _ h => h) (Or.inl ⟨by rfl, fun V hV => ex_load_row (.tmp 9) rfl gy rfl cs2 hV.1 ZSb.out⟩) HHeld.out ?_
        try simp only [Act.put, List.setIfInBounds_toArray, List.set_cons_zero, List.set_cons_succ]
        refine wpAnyH_take (i := 2) (oi := { dst := some 42, op := Op.move (Operand.tmp 1), type := 22, pos := "law.go:156", after := #[], guard := none }) (v := ?_) rfl (by kernel_rfl) (by kernel_rfl) (by kernel_rfl) (fun _ _ _ h => h) (Or.inl ⟨by rfl, ?_⟩) HHeld.out ?_
        rotate_left
        · intro w hSw; clear hSw; go_simp; try with_reducible rfl
        try simp only [Act.put, List.setIfInBounds_toArray, List.set_cons_zero, List.set_cons_succ]
        refine wpAnyH_take (i := 3) (oi := { dst := some 43, op := Op.move (Operand.tmp 10), type := 3, pos := "law.go:156", after := #[], guard := none }) (v := ?_) rfl (by kernel_rfl) (by kernel_rfl) (by kernel_rfl) (fun _ _ _ h => h) (Or.inl ⟨by rfl, ?_⟩) HHeld.out ?_
        rotate_left
        · intro w hSw; clear hSw; go_simp; try with_reducible rfl
        try simp only [Act.put, List.setIfInBounds_toArray, List.set_cons_zero, List.set_cons_succ]
        refine wpAnyH_take (i := 4) (oi := { dst := some 44, op := Op.indexAddr 22 (Operand.tmp 42) (Operand.tmp 43), type := 0, pos := "law.go:156", after := #[{ on := 2, ground := Ground.data }, { on := 3, ground := Ground.data }], guard := none }) (v := ?_) rfl (by kernel_rfl) (by kernel_rfl) (by kernel_rfl) (fun _ _ _ h => h) (Or.inl ⟨by rfl, ?_⟩) HHeld.out ?_
        rotate_left
        · intro w hSw; clear hSw; go_simp; try with_reducible rfl
        try simp only [Act.put, List.setIfInBounds_toArray, List.set_cons_zero, List.set_cons_succ]
        refine wpAnyH_take (i := 5) (oi := { dst := some 45, op := Op.load 37 (Operand.tmp 44), type := 37, pos := "law.go:156", after := #[{ on := 4, ground := Ground.data }], guard := none }) (v := Value.agg #[.int .i64 x0, .int .i64 x1, .int .i64 x2]) rfl (by kernel_rfl) (by kernel_rfl) (by kernel_rfl) (fun _ _ _ h => h) (Or.inl ⟨by rfl, ?_⟩) HHeld.out ?_
        · intro V hV; have hc0 := hV.2.1; have hc1 := hV.2.2.1; have hc2 := hV.2.2.2; clear hV; go_simp
        try simp only [Act.put, List.setIfInBounds_toArray, List.set_cons_zero, List.set_cons_succ]
        refine wpAnyH_ready (rs := [6, 10]) (by kernel_rfl) (by simp) ?_
        refine AllReadyH.cons (o := { dst := some 46, op := Op.call { callee := Callee.value (Operand.func 10), args := #[Operand.tmp 40, Operand.tmp 41, Operand.tmp 45], argTypes := #[23, 33, 37] }, type := 34, pos := "law.go:156", after := #[{ on := 0, ground := Ground.data }, { on := 1, ground := Ground.data }, { on := 5, ground := Ground.data }], guard := none }) rfl (fun K hK => ?_) (AllReadyH.cons (o := { dst := some 11, op := Op.alloc 33, type := 0, pos := "law.go:156", after := #[], guard := none }) rfl (fun K hK => ?_) AllReadyH.nil)
        go_simp
        (go_at_call 10; ((with_reducible refine (CS.out).mono ?_); rintro e w3 ⟨cs3, rfl, h2, b2, k2⟩; have H6 := Lib.hid h2; have B6 : Hid (Below W.heap.size W w3) := Lib.hid ((HBR.out.trans ((drew_bel wr).mono HBR.out.size)).trans (b2.mono L5.out.1)); have L6 : Hid (lo2 ≤ w3.heap.size) := Lib.hid (Nat.le_trans HLO.out b2.size); have YB := Lib.hid ((k2 _ (.inl (.inl rfl))).trans HY.out); have ZS3 := Lib.hid h2.size; have ZO3 := Lib.hid h2.one; have CC := Lib.hid (And.intro YB.out (And.intro ((bel_cell b2 HLT.out.2.1).trans (HHeld.out.2.1)) (And.intro ((bel_cell b2 HLT.out.2.1).trans (HHeld.out.2.2.1)) ((bel_cell b2 HLT.out.2.1).trans (HHeld.out.2.2.2))))); have N3 : Hid (wr.heap.size ≤ w3.heap.size) := Lib.hid b2.size; clear h2 b2 k2))
        refine hK.out _ _ ?_ (fun hHeld => ?_)
        · exact CC.out
        clear HHeld; have HHeld := Lib.hid hHeld; clear hHeld
        clear hK K
        try simp only [Act.put, List.setIfInBounds_toArray, List.set_cons_zero, List.set_cons_succ]
        refine wpAnyH_take (i := 7) (oi := { dst := some 39, op := Op.move (Operand.tmp 46), type := 34, pos := "law.go:156", after := #[{ on := 6, ground := Ground.data }], guard := none }) (v := ?_) rfl (by kernel_rfl) (by kernel_rfl) (by kernel_rfl) (fun _ _ _ h => h) (Or.inl ⟨by rfl, ?_⟩) HHeld.out ?_
        rotate_left
        · intro w hSw; clear hSw; go_simp; try with_reducible rfl
        try simp only [Act.put, List.setIfInBounds_toArray, List.set_cons_zero, List.set_cons_succ]
        refine wpAnyH_take (i := 8) (oi := { dst := some 47, op := Op.extract (Operand.tmp 39) 0, type := 33, pos := "law.go:156", after := #[{ on := 7, ground := Ground.data }], guard := none }) (v := ?_) rfl (by kernel_rfl) (by kernel_rfl) (by kernel_rfl) (fun _ _ _ h => h) (Or.inl ⟨by rfl, ?_⟩) HHeld.out ?_
        rotate_left
        · intro w hSw; clear hSw; go_simp; try with_reducible rfl
        try simp only [Act.put, List.setIfInBounds_toArray, List.set_cons_zero, List.set_cons_succ]
        refine wpAnyH_take (i := 9) (oi := { dst := some 48, op := Op.extract (Operand.tmp 39) 1, type := 4, pos := "law.go:156", after := #[{ on := 7, ground := Ground.data }, { on := 11, ground := Ground.gcOnly Departure.lateStores }], guard := none }) (v := ?_) rfl (by kernel_rfl) (by kernel_rfl) (by kernel_rfl) (fun _ _ _ h => h) (Or.inl ⟨by rfl, ?_⟩) HHeld.out ?_
        rotate_left
        · intro w hSw; clear hSw; go_simp; try with_reducible rfl
        try simp only [Act.put, List.setIfInBounds_toArray, List.set_cons_zero, List.set_cons_succ]
        refine wpAnyH_ready (rs := [10]) (by kernel_rfl) (by simp) ?_
        refine AllReadyH.cons (o := { dst := some 11, op := Op.alloc 33, type := 0, pos := "law.go:156", after := #[], guard := none }) rfl (fun K hK => ?_) AllReadyH.nil
        go_simp
        have BX : Hid (Below w3.heap.size w3 (w3.alloc (.cells zb 33))) := Lib.hid (by go_grown)
        refine hK.out _ _ ?_ (fun hHeld => ?_)
        · exact ⟨blk_bel BX.out HHeld.out.1, bel_later BX.out HHeld.out.2.1, bel_later BX.out HHeld.out.2.2.1, bel_later BX.out HHeld.out.2.2.2⟩
        clear HHeld; have HHeld := Lib.hid hHeld; clear hHeld
        clear hK K
        try simp only [Act.put, List.setIfInBounds_toArray, List.set_cons_zero, List.set_cons_succ]
        refine wpAnyH_ready (rs := [11]) (by kernel_rfl) (by simp) ?_
        refine AllReadyH.cons (o := { dst := none, op := Op.store 33 (Operand.tmp 11) (Operand.tmp 47), type := 0, pos := "law.go:156", after := #[{ on := 10, ground := Ground.data }, { on := 8, ground := Ground.data }, { on := 6, ground := Ground.chain }, { on := 0, ground := Ground.phase }, { on := 1, ground := Ground.phase }, { on := 2, ground := Ground.phase }, { on := 3, ground := Ground.phase }, { on := 4, ground := Ground.phase }, { on := 5, ground := Ground.phase }, { on := 6, ground := Ground.phase }, { on := 7, ground := Ground.phase }, { on := 8, ground := Ground.phase }, { on := 9, ground := Ground.textOnly Departure.lateStores }, { on := 10, ground := Ground.phase }], guard := none }) rfl (fun K hK => ?_) AllReadyH.nil
        rw [if_pos (by rfl)]
        refine wp_store_row 33 (.tmp 11) (.tmp 47) rfl w3.heap.size cs3 rfl rfl 33 zb (heap_alloc_new w3 _) (by rw [ZS3.out]; exact info33) (by rw [ZS3.out]; exact zb_size) ZO3.out ?_
        refine hK.out _ _ ?_ (fun hHeld => ?_)
        · exact ⟨(setRow_other _ _ _ _ (by have h1 := NR.out; have h2 := N3.out; omega)).trans HHeld.out.1, (cell_setRow (by have h1 := HLT.out; have h2 := N3.out; omega)).trans HHeld.out.2.1, (cell_setRow (by have h1 := HLT.out; have h2 := N3.out; omega)).trans HHeld.out.2.2.1, (cell_setRow (by have h1 := HLT.out; have h2 := N3.out; omega)).trans HHeld.out.2.2.2⟩
        clear HHeld; have HHeld := Lib.hid hHeld; clear hHeld
        clear hK K
        try simp only [Act.put, List.setIfInBounds_toArray, List.set_cons_zero, List.set_cons_succ]
        refine wpAnyH_take (i := 12) (oi := { dst := some 12, op := Op.assign (Operand.tmp 48), type := 4, pos := "law.go:156", after := #[{ on := 9, ground := Ground.data }, { on := 11, ground := Ground.chain }, { on := 0, ground := Ground.phase }, { on := 1, ground := Ground.phase }, { on := 2, ground := Ground.phase }, { on := 3, ground := Ground.phase }, { on := 4, ground := Ground.phase }, { on := 5, ground := Ground.phase }, { on := 6, ground := Ground.phase }, { on := 7, ground := Ground.phase }, { on := 8, ground := Ground.phase }, { on := 9, ground := Ground.phase }, { on := 10, ground := Ground.phase }, { on := 11, ground := Ground.phase }], guard := none }) (v := ?_) rfl (by kernel_rfl) (by kernel_rfl) (by kernel_rfl) (fun _ _ _ h => h) (Or.inl ⟨by rfl, ?_⟩) HHeld.out ?_
        rotate_left
        · intro w hSw; clear hSw; go_simp; try with_reducible rfl
        try simp only [Act.put, List.setIfInBounds_toArray, List.set_cons_zero, List.set_cons_succ]
        refine wpAnyH_done (by kernel_rfl) ?_ _
        have H7 : Hid (SR lo2 N' (fun g => g = gy ∨ F g ∨ g = gx) (fun _ => False) (stepA (playR e0 e1 e2 b0 k) x0 x1 x2) (stepA (playR e0 e1 e2 b0 k) x0 x1 x2) (W2 w3 cs3) cs3) := Lib.hid (H6.out.later (W2.bel w3 cs3))
        have Y7 : Hid ((W2 w3 cs3).heap[gy]? = some (.cells cs2 33 (0, 0))) := Lib.hid HHeld.out.1
        have X7 := Lib.hid (W2.x w3 cs3)
        have B7 : Hid (Below W.heap.size W (W2 w3 cs3)) := Lib.hid (B6.out.trans ((W2.bel w3 cs3).mono B6.out.size))
        have L7 : Hid (lo2 ≤ (W2 w3 cs3).heap.size) := Lib.hid (Nat.le_trans L6.out (W2.bel w3 cs3).size)
        have G7 : Hid (¬ gy = w3.heap.size) := Lib.hid (by have := NR.out; have := N3.out; omega)
        change Exit.then _ _ _ _ (W2 w3 cs3)
        clear CC YB H6 N3 HHeld B6 L6
        generalize W2 w3 cs3 = V2 at *
        obtain ⟨gz, hgz⟩ : ∃ g, g = w3.heap.size := ⟨_, rfl⟩
        rw [← hgz] at X7 G7 ⊢
        clear hgz
        rotate_left
        go_simp
        refine hK.out _ _ ?_ (fun hHeld => ?_)
        · exact ⟨blk_bel BL.out HHeld.out.1, bel_later BL.out HHeld.out.2.1, bel_later BL.out HHeld.out.2.2.1, bel_later BL.out HHeld.out.2.2.2⟩
        clear HHeld; have HHeld := Lib.hid hHeld; clear hHeld
        clear hK K
        try simp only [Act.put, List.setIfInBounds_toArray, List.set_cons_zero, List.set_cons_succ]
        refine wpAnyH_ready (rs := [6]) (by kernel_rfl) (by simp) ?_
        refine AllReadyH.cons (o := { dst := some 46, op := Op.call { callee := Callee.value (Operand.func 10), args := #[Operand.tmp 40, Operand.tmp 41, Operand.tmp 45], argTypes := #[23, 33, 37] }, type := 34, pos := "law.go:156", after := #[{ on := 0, ground := Ground.data }, { on := 1, ground := Ground.data }, { on := 5, ground := Ground.data }], guard := none }) rfl (fun K hK => ?_) AllReadyH.nil
        go_simp
        (go_at_call 10; ((with_reducible refine (CT.out).mono ?_); rintro e w3 ⟨cs3, rfl, h2, b2, k2⟩; have H6 := Lib.hid h2; have B6 : Hid (Below W.heap.size W w3) := Lib.hid ((HBR.out.trans (BL.out.mono HBR.out.size)).trans (b2.mono L5.out.1)); have L6 : Hid (lo2 ≤ w3.heap.size) := Lib.hid (Nat.le_trans HLO.out (Nat.le_trans BL.out.size b2.size)); have YB := Lib.hid ((k2 gy (.inl (.inl (.inl rfl)))).trans HHeld.out.1); have ZB := Lib.hid ((k2 wr.heap.size (.inl (.inr rfl))).trans ZL.out); have ZS3 := Lib.hid h2.size; have ZO3 := Lib.hid h2.one; have CC := Lib.hid (And.intro YB.out (And.intro ((bel_cell b2 HLT.out.2.1).trans (HHeld.out.2.1)) (And.intro ((bel_cell b2 HLT.out.2.1).trans (HHeld.out.2.2.1)) ((bel_cell b2 HLT.out.2.1).trans (HHeld.out.2.2.2))))); have N3 : Hid (wr.heap.size ≤ w3.heap.size) := Lib.hid (Nat.le_trans BL.out.size b2.size); clear h2 b2 k2))
        refine hK.out _ _ ?_ (fun hHeld => ?_)
        · exact CC.out
        clear HHeld; have HHeld := Lib.hid hHeld; clear hHeld
        clear hK K
        try simp only [Act.put, List.setIfInBounds_toArray, List.set_cons_zero, List.set_cons_succ]
        refine wpAnyH_take (i := 7) (oi := { dst := some 39, op := Op.move (Operand.tmp 46), type := 34, pos := "law.go:156", after := #[{ on := 6, ground := Ground.data }], guard := none }) (v := ?_) rfl (by kernel_rfl) (by kernel_rfl) (by kernel_rfl) (fun _ _ _ h => h) (Or.inl ⟨by rfl, ?_⟩) HHeld.out ?_
        rotate_left
        · intro w hSw; clear hSw; go_simp; try with_reducible rfl
        try simp only [Act.put, List.setIfInBounds_toArray, List.set_cons_zero, List.set_cons_succ]
        refine wpAnyH_take (i := 8) (oi := { dst := some 47, op := Op.extract (Operand.tmp 39) 0, type := 33, pos := "law.go:156", after := #[{ on := 7, ground := Ground.data }], guard := none }) (v := ?_) rfl (by kernel_rfl) (by kernel_rfl) (by kernel_rfl) (fun _ _ _ h => h) (Or.inl ⟨by rfl, ?_⟩) HHeld.out ?_
        rotate_left
        · intro w hSw; clear hSw; go_simp; try with_reducible rfl
        try simp only [Act.put, List.setIfInBounds_toArray, List.set_cons_zero, List.set_cons_succ]
        refine wpAnyH_take (i := 9) (oi := { dst := some 48, op := Op.extract (Operand.tmp 39) 1, type := 4, pos := "law.go:156", after := #[{ on := 7, ground := Ground.data }, { on := 11, ground := Ground.gcOnly Departure.lateStores }], guard := none }) (v := ?_) rfl (by kernel_rfl) (by kernel_rfl) (by kernel_rfl) (fun _ _ _ h => h) (Or.inl ⟨by rfl, ?_⟩) HHeld.out ?_
        rotate_left
        · intro w hSw; clear hSw; go_simp; try with_reducible rfl
        try simp only [Act.put, List.setIfInBounds_toArray, List.set_cons_zero, List.set_cons_succ]
        refine wpAnyH_ready (rs := [11]) (by kernel_rfl) (by simp) ?_
        refine AllReadyH.cons (o := { dst := none, op := Op.store 33 (Operand.tmp 11) (Operand.tmp 47), type := 0, pos := "law.go:156", after := #[{ on := 10, ground := Ground.data }, { on := 8, ground := Ground.data }, { on := 6, ground := Ground.chain }, { on := 0, ground := Ground.phase }, { on := 1, ground := Ground.phase }, { on := 2, ground := Ground.phase }, { on := 3, ground := Ground.phase }, { on := 4, ground := Ground.phase }, { on := 5, ground := Ground.phase }, { on := 6, ground := Ground.phase }, { on := 7, ground := Ground.phase }, { on := 8, ground := Ground.phase }, { on := 9, ground := Ground.textOnly Departure.lateStores }, { on := 10, ground := Ground.phase }], guard := none }) rfl (fun K hK => ?_) AllReadyH.nil
        rw [if_pos (by rfl)]
        refine wp_store_row 33 (.tmp 11) (.tmp 47) rfl wr.heap.size cs3 rfl rfl 33 zb ZB.out (by rw [ZS3.out]; exact info33) (by rw [ZS3.out]; exact zb_size) ZO3.out ?_
        refine hK.out _ _ ?_ (fun hHeld => ?_)
        · exact ⟨(setRow_other _ _ _ _ (by have h1 := NR.out; have h2 := N3.out; omega)).trans HHeld.out.1, (cell_setRow (by have h1 := HLT.out; have h2 := N3.out; omega)).trans HHeld.out.2.1, (cell_setRow (by have h1 := HLT.out; have h2 := N3.out; omega)).trans HHeld.out.2.2.1, (cell_setRow (by have h1 := HLT.out; have h2 := N3.out; omega)).trans HHeld.out.2.2.2⟩
        clear HHeld; have HHeld := Lib.hid hHeld; clear hHeld
        clear hK K
        try simp only [Act.put, List.setIfInBounds_toArray, List.set_cons_zero, List.set_cons_succ]
        refine wpAnyH_take (i := 12) (oi := { dst := some 12, op := Op.assign (Operand.tmp 48), type := 4, pos := "law.go:156", after := #[{ on := 9, ground := Ground.data }, { on := 11, ground := Ground.chain }, { on := 0, ground := Ground.phase }, { on := 1, ground := Ground.phase }, { on := 2, ground := Ground.phase }, { on := 3, ground := Ground.phase }, { on := 4, ground := Ground.phase }, { on := 5, ground := Ground.phase }, { on := 6, ground := Ground.phase }, { on := 7, ground := Ground.phase }, { on := 8, ground := Ground.phase }, { on := 9, ground := Ground.phase }, { on := 10, ground := Ground.phase }, { on := 11, ground := Ground.phase }], guard := none }) (v := ?_) rfl (by kernel_rfl) (by kernel_rfl) (by kernel_rfl) (fun _ _ _ h => h) (Or.inl ⟨by rfl, ?_⟩) HHeld.out ?_
        rotate_left
        · intro w hSw; clear hSw; go_simp; try with_reducible rfl
        try simp only [Act.put, List.setIfInBounds_toArray, List.set_cons_zero, List.set_cons_succ]
        refine wpAnyH_done (by kernel_rfl) ?_ _
        have H7 : Hid (SR lo2 N' (fun g => g = gy ∨ F g ∨ g = gx) (fun _ => False) (stepA (playR e0 e1 e2 b0 k) x0 x1 x2) (stepA (playR e0 e1 e2 b0 k) x0 x1 x2) (w3.setRow wr.heap.size cs3) cs3) := Lib.hid ((H6.out.apart (grown_row (N := wr.heap.size) (cs := cs3)) (.inr rfl)).less (fun g h => .inl h))
        have Y7 : Hid ((w3.setRow wr.heap.size cs3).heap[gy]? = some (.cells cs2 33 (0, 0))) := Lib.hid HHeld.out.1
        have X7 : Hid ((w3.setRow wr.heap.size cs3).heap[wr.heap.size]? = some (.cells cs3 33 (0, 0))) := Lib.hid (setRow_heap _ _ _ _ _ _ ZB.out)
        have B7 : Hid (Below W.heap.size W (w3.setRow wr.heap.size cs3)) := Lib.hid (below_setRow B6.out HBR.out.size _)
        have L7 : Hid (lo2 ≤ (w3.setRow wr.heap.size cs3).heap.size) := Lib.hid (Nat.le_trans L6.out (grown_row (w := w3) (N := wr.heap.size) (cs := cs3)).size)
        have G7 : Hid (¬ gy = wr.heap.size) := Lib.hid (by have := NR.out; omega)
        clear CC YB H6 N3 HHeld ZB B6 L6
        generalize w3.setRow wr.heap.size cs3 = V2 at *
        obtain ⟨gz, hgz⟩ : ∃ g, g = wr.heap.size := ⟨_, rfl⟩
        rw [← hgz] at X7 G7 ⊢
        clear hgz
        rotate_left
        all_goals
          go_wp2_with (first
            | (refine wpList_load_row rfl 33 (.tmp 11) rfl gz rfl 33 cs3 (0, 0) _ X7.out Try.underlying33 rfl (by rw [ZS3.out]; exact info33) ?_)
            | (refine wpList_store_row rfl 33 (.tmp 9) _ rfl gy cs3 rfl rfl 33 cs2 Y7.out (by rw [ZS3.out]; exact info33) (by rw [ZS3.out]; exact ZSb.out) ZO3.out ?_)
            | fail)
          refine ⟨⟨k + 1, cs3, by omega, by simp, ?_, setRow_heap _ _ _ _ _ _ Y7.out, below_setRow B7.out G5.out _, Nat.le_trans L7.out (grown_row (w := V2) (N := gy) (cs := cs3)).size⟩, by simp [intOf]; omega⟩
          rw [HPL.out]
          exact H7.out.apart (grown_row (N := gy) (cs := cs3)) (.inl rfl)
      · by_cases h8 : k < n'
        · have hk1 : (k : Int) < (n' : Int) := by omega
          have hk2 : ¬ (k : Int) < 60 := by omega
          obtain ⟨bf, hbf⟩ : ∃ b, b = playR e0 e1 e2 b0 k := ⟨_, rfl⟩
          rw [← hbf] at HST
          have ZS2 := Lib.hid HST.out.size
          have GYL : Hid (gy < wr.heap.size) := Lib.hid (HST.out.kept gy (.inl (.inl rfl)))
          have KBR := Lib.hid (KB.out wr HBR.out)
          have AL1 := Lib.hid (alike_any KBR.out.1)
          clear hbf
          go_wp2_with (first
            | (refine wpList_gload_row (by rfl) (.tmp 6) rfl gx rfl cs1 KBR.out.2 ZS.out ?_)
            | (go_at_call 11; ((with_reducible refine AL1.out.mono ?_); rintro e w21 ⟨rfl, b21⟩; have B21 := Lib.hid b21; have Y21 := Lib.hid (blk_bel b21 HY.out); have AL2 := Lib.hid (alike_any (HST.out.later b21).to); clear b21 AL1))
            | (refine wpList_gload_row (by rfl) (.tmp 9) rfl gy rfl cs2 Y21.out ZS2.out ?_)
            | (go_at_call 11; ((with_reducible refine AL2.out.mono ?_); rintro e w22 ⟨rfl, b22⟩; have B22 := Lib.hid (B21.out.trans (b22.mono B21.out.size)); clear b22))
            | fail)
          have HF22 := Lib.hid (HST.out.later B22.out)
          have Y22 := Lib.hid (blk_bel B22.out HY.out)
          have BW22 : Hid (Below W.heap.size W w22) := Lib.hid (HBR.out.trans (B22.out.mono HBR.out.size))
          obtain ⟨S, hS1, hS2, hS3⟩ := HF22.out.lock
          obtain ⟨R2, hR2⟩ : ∃ R : Nat → Prop, R = fun g => S g ∨ g = gy := ⟨_, rfl⟩
          have G22 : gy < w22.heap.size := Nat.lt_of_lt_of_le GYL.out B22.out.size
          have HX22 : Hid (SR (w.heap.size + 1) (w.heap.size + 1) (fun g => g = gx) R2 b0 b0 w22 cs1) := Lib.hid (HK.out w22 R2 BW22.out (by rw [hR2]; rintro g (h | h); exact hS1 g h; rw [h]; exact G22) (by
            rw [hR2]; rintro g (h | h) hf
            · exact hS2 g h (.inr (.inl hf))
            · have h1 := HF.out g hf; have h2 := G5.out; omega))
          have X22 := Lib.hid (blk_bel BW22.out Y2.out)
          have NRX : Hid (¬ R2 gx) := Lib.hid (by
            rw [hR2]; rintro (h | h)
            · exact hS2 gx h (.inr (.inr rfl))
            · have h1 := NB.out; have h2 := G5.out; omega)
          have HL2 : Hid (∀ w', Chg (fun g => ¬ R2 g) w22 w' → SR lo2 N' (fun _ => False) (fun _ => False) bf bf w' cs2) := Lib.hid (fun w' hc => hS3 w' (hc.more (fun g hg => .inl (fun hs => hg (by rw [hR2]; exact .inl hs)))))
          have HGY : Hid (∀ w', Chg (fun g => ¬ R2 g) w22 w' → w'.heap[gy]? = some (.cells cs2 33 (0, 0))) := Lib.hid (fun w' hc => (hc.block gy G22 (fun hn => hn (by rw [hR2]; exact .inr rfl))).trans Y22.out)
          have BWW : Hid (Below w.heap.size w w22) := Lib.hid (HB.out.trans (BW22.out.mono HB.out.size))
          have LW : Hid (w.heap.size + 1 ≤ w22.heap.size) := Lib.hid (by have h1 := NB.out; have h2 := BW22.out.size; omega)
          clear hS1 hS2 hS3 hR2 HF22 Y22 HST HY HBR HLO HBW B21 B22 KB KBR HK HF GYL G22
          rename_i KK3 aa3
          go_loopw [13, 14, 15] (fun iv _ _ wr => ∃ (k : Nat) (cs : Array Value), k ≤ min n' 60 ∧ iv = .int .i64 k ∧ SR (w.heap.size + 1) (w.heap.size + 1) (fun g => g = gx) R2 (playR e0 e1 e2 b0 k) (playR e0 e1 e2 b0 k) wr cs ∧ wr.heap[gx]? = some (.cells cs 33 (0, 0)) ∧ Chg (fun g => ¬ R2 g) w22 wr ∧ Below w.heap.size w wr ∧ w.heap.size + 1 ≤ wr.heap.size) (fun i _ _ _ => 60 - (intOf i).toNat)
          case atStart => exact ⟨0, cs1, by omega, rfl, HX22.out, X22.out, Chg.refl _ _, BWW.out, LW.out⟩
          case round =>
            clear hk
            obtain ⟨k, cs4, hk, rfl, hst, hy, hc, hb, hlo⟩ := hrel
            have HST := Lib.hid hst
            have HY := Lib.hid hy
            have HCR := Lib.hid hc
            have HBW := Lib.hid hb
            have HLO := Lib.hid hlo
            clear hst hy hc hb hlo HX22 X22 BWW LW
            by_cases h89 : k < n' ∧ k < 60
            · obtain ⟨h8, h9⟩ := h89
              have hk1 : (k : Int) < (n' : Int) := by omega
              have hk0 : (0 : Int) ≤ (k : Int) := by omega
              have hk2 : (k : Int) < 60 := by omega
              obtain ⟨b, off, rfl, hlt, ⟨c0, c1, c2⟩, _, w1f, w2f⟩ := (HE.out.low HBW.out).at_ h8
              obtain ⟨x0, hx0⟩ : ∃ x, x = e0 k := ⟨_, rfl⟩
              obtain ⟨x1, hx1⟩ : ∃ x, x = e1 k := ⟨_, rfl⟩
              obtain ⟨x2, hx2⟩ : ∃ x, x = e2 k := ⟨_, rfl⟩
              rw [← hx0] at c0
              rw [← hx1] at c1 w1f
              rw [← hx2] at c2 w2f
              have HPL : Hid (playR e0 e1 e2 b0 (k + 1) = stepA (playR e0 e1 e2 b0 k) x0 x1 x2) := Lib.hid (by rw [hx0, hx1, hx2]; rfl)
              clear hx0 hx1 hx2
              have C0 := Lib.hid c0
              have C1 := Lib.hid c1
              have C2 := Lib.hid c2
              clear aa3
              have hbb : b < w.heap.size := by
                rcases HE.out with h | ⟨b', off', e, h, _⟩
                · omega
                · cases e; exact h
              have HLT : Hid (b < w.heap.size ∧ b < (w.heap.size + 1) ∧ w.heap.size ≤ wr.heap.size) := Lib.hid ⟨hbb, by omega, HBW.out.size⟩
              have ZSb := Lib.hid HST.out.size
              have NR := Lib.hid (HST.out.kept gx (.inl rfl))
              have NRZ : Hid (¬ R2 wr.heap.size) := Lib.hid (fun h => Nat.lt_irrefl _ (HST.out.kept _ (.inr h)))
              have BL : Hid (Below wr.heap.size wr (wr.alloc (.cells zb 33)).drew) := Lib.hid (by go_grown)
              have CS := Lib.hid (stepr_any (HST.out.later (drew_bel wr)) (by show w.heap.size + 1 ≤ wr.heap.size; exact HLO.out) x0 x1 x2)
              have CT := Lib.hid (stepr_any (HST.out.wide BL.out (fun g => (g = gx) ∨ g = wr.heap.size) (by rintro g (h | h); exact .inl h; exact .inr ⟨by omega, by simp; omega⟩)) (Nat.le_trans (by show w.heap.size + 1 ≤ wr.heap.size; exact HLO.out) BL.out.size) x0 x1 x2)
              have ZL : Hid ((wr.alloc (.cells zb 33)).drew.heap[wr.heap.size]? = some (.cells zb 33 (0, 0))) := Lib.hid (heap_alloc_new wr _)
              have SL : Hid ((wr.alloc (.cells zb 33)).drew.heap.size = wr.heap.size + 1) := Lib.hid (by simp)
              clear c0 c1 c2 hlt w1f w2f hbb
              go_wp2_with fail
              refine wp_region_held_drew (S := (fun V => V.heap[gx]? = some (.cells cs4 33 (0, 0)) ∧ V.cell? ⟨b, off + k * 3, none⟩ = some (.int .i64 x0) ∧ V.cell? ⟨b, off + k * 3 + 1, none⟩ = some (.int .i64 x1) ∧ V.cell? ⟨b, off + k * 3 + 2, none⟩ = some (.int .i64 x2))) (by kernel_rfl) ?_ (fun hHeld => ?_)
              · exact ⟨HY.out, C0.out, C1.out, C2.out⟩
              have HHeld := Lib.hid hHeld; clear hHeld
              refine wpAnyH_take (i := 0) (oi := { dst := some 73, op := Op.move (Operand.tmp 5), type := 23, pos := "law.go:166", after := #[], guard := none }) (v := ?_) rfl (by kernel_rfl) (by kernel_rfl) (by kernel_rfl) (fun _ _ _ h => h) (Or.inl ⟨by rfl, ?_⟩) HHeld.out ?_
              rotate_left
              · intro w hSw; clear hSw; go_simp; try with_reducible rfl
              try simp only [Act.put, List.setIfInBounds_toArray, List.set_cons_zero, List.set_cons_succ]
              refine wpAnyH_take (i := 1) (oi := { dst := some 74, op := Op.load 33 (Operand.tmp 6), type := 33, pos := "law.go:166", after := #[], guard := none }) (v := Value.agg cs4) rfl (by kernel_rfl) (by kernel_rfl) (by kernel_rfl) (fun _ _ _ h => h) (Or.inl ⟨by rfl, fun V hV => ex_load_row (.tmp 6) rfl gx rfl cs4 hV.1 ZSb.out⟩) HHeld.out ?_
              try simp only [Act.put, List.setIfInBounds_toArray, List.set_cons_zero, List.set_cons_succ]
              refine wpAnyH_take (i := 2) (oi := { dst := some 75, op := Op.move (Operand.tmp 1), type := 22, pos := "law.go:166", after := #[], guard := none }) (v := ?_) rfl (by kernel_rfl) (by kernel_rfl) (by kernel_rfl) (fun _ _ _ h => h) (Or.inl ⟨by rfl, ?_⟩) HHeld.out ?_
              rotate_left
              · intro w hSw; clear hSw; go_simp; try with_reducible rfl
              try simp only [Act.put, List.setIfInBounds_toArray, List.set_cons_zero, List.set_cons_succ]
              refine wpAnyH_take (i := 3) (oi := { dst := some 76, op := Op.move (Operand.tmp 13), type := 3, pos := "law.go:166", after := #[], guard := none }) (v := ?_) rfl (by kernel_rfl) (by kernel_rfl) (by kernel_rfl) (fun _ _ _ h => h) (Or.inl ⟨by rfl, ?_⟩) HHeld.out ?_
              rotate_left
              · intro w hSw; clear hSw; go_simp; try with_reducible rfl
              try simp only [Act.put, List.setIfInBounds_toArray, List.set_cons_zero, List.set_cons_succ]
              refine wpAnyH_take (i := 4) (oi := { dst := some 77, op := Op.indexAddr 22 (Operand.tmp 75) (Operand.tmp 76), type := 0, pos := "law.go:166", after := #[{ on := 2, ground := Ground.data }, { on := 3, ground := Ground.data }], guard := none }) (v := ?_) rfl (by kernel_rfl) (by kernel_rfl) (by kernel_rfl) (fun _ _ _ h => h) (Or.inl ⟨by rfl, ?_⟩) HHeld.out ?_
              rotate_left
              · intro w hSw; clear hSw; go_simp; try with_reducible rfl
              try simp only [Act.put, List.setIfInBounds_toArray, List.set_cons_zero, List.set_cons_succ]
              refine wpAnyH_take (i := 5) (oi := { dst := some 78, op := Op.load 37 (Operand.tmp 77), type := 37, pos := "law.go:166", after := #[{ on := 4, ground := Ground.data }], guard := none }) (v := Value.agg #[.int .i64 x0, .int .i64 x1, .int .i64 x2]) rfl (by kernel_rfl) (by kernel_rfl) (by kernel_rfl) (fun _ _ _ h => h) (Or.inl ⟨by rfl, ?_⟩) HHeld.out ?_
              · intro V hV; have hc0 := hV.2.1; have hc1 := hV.2.2.1; have hc2 := hV.2.2.2; clear hV; go_simp
              try simp only [Act.put, List.setIfInBounds_toArray, List.set_cons_zero, List.set_cons_succ]
              refine wpAnyH_ready (rs := [6, 10]) (by kernel_rfl) (by simp) ?_
              refine AllReadyH.cons (o := { dst := some 79, op := Op.call { callee := Callee.value (Operand.func 10), args := #[Operand.tmp 73, Operand.tmp 74, Operand.tmp 78], argTypes := #[23, 33, 37] }, type := 34, pos := "law.go:166", after := #[{ on := 0, ground := Ground.data }, { on := 1, ground := Ground.data }, { on := 5, ground := Ground.data }], guard := none }) rfl (fun K hK => ?_) (AllReadyH.cons (o := { dst := some 14, op := Op.alloc 33, type := 0, pos := "law.go:166", after := #[], guard := none }) rfl (fun K hK => ?_) AllReadyH.nil)
              go_simp
              (go_at_call 10; ((with_reducible refine (CS.out).mono ?_); rintro e w3 ⟨cs3, rfl, h2, b2, k2⟩; have H6 := Lib.hid h2; have B6 : Hid (Below w.heap.size w w3) := Lib.hid ((HBW.out.trans ((drew_bel wr).mono HBW.out.size)).trans (b2.mono (Nat.le_succ _))); have L6 : Hid (w.heap.size + 1 ≤ w3.heap.size) := Lib.hid (Nat.le_trans HLO.out b2.size); have C6 : Hid (Chg (fun g => ¬ R2 g) w22 w3) := Lib.hid ((HCR.out.trans (Chg.of_below (D := fun g => ¬ R2 g) (drew_bel wr)) (fun g h => .inl h)).trans (chg_of b2 (fun g hg => k2 g (.inr hg))) (fun g h => .inl h)); have YB := Lib.hid ((k2 _ (.inl rfl)).trans HY.out); have ZS3 := Lib.hid h2.size; have ZO3 := Lib.hid h2.one; have CC := Lib.hid (And.intro YB.out (And.intro ((bel_cell b2 HLT.out.2.1).trans (HHeld.out.2.1)) (And.intro ((bel_cell b2 HLT.out.2.1).trans (HHeld.out.2.2.1)) ((bel_cell b2 HLT.out.2.1).trans (HHeld.out.2.2.2))))); have N3 : Hid (wr.heap.size ≤ w3.heap.size) := Lib.hid b2.size; clear h2 b2 k2))
              refine hK.out _ _ ?_ (fun hHeld => ?_)
              · exact CC.out
              clear HHeld; have HHeld := Lib.hid hHeld; clear hHeld
              clear hK K
              try simp only [Act.put, List.setIfInBounds_toArray, List.set_cons_zero, List.set_cons_succ]
              refine wpAnyH_take (i := 7) (oi := { dst := some 72, op := Op.move (Operand.tmp 79), type := 34, pos := "law.go:166", after := #[{ on := 6, ground := Ground.data }], guard := none }) (v := ?_) rfl (by kernel_rfl) (by kernel_rfl) (by kernel_rfl) (fun _ _ _ h => h) (Or.inl ⟨by rfl, ?_⟩) HHeld.out ?_
              rotate_left
              · intro w hSw; clear hSw; go_simp; try with_reducible rfl
              try simp only [Act.put, List.setIfInBounds_toArray, List.set_cons_zero, List.set_cons_succ]
              refine wpAnyH_take (i := 8) (oi := { dst := some 80, op := Op.extract (Operand.tmp 72) 0, type := 33, pos := "law.go:166", after := #[{ on := 7, ground := Ground.data }], guard := none }) (v := ?_) rfl (by kernel_rfl) (by kernel_rfl) (by kernel_rfl) (fun _ _ _ h => h) (Or.inl ⟨by rfl, ?_⟩) HHeld.out ?_
              rotate_left
              · intro w hSw; clear hSw; go_simp; try with_reducible rfl
              try simp only [Act.put, List.setIfInBounds_toArray, List.set_cons_zero, List.set_cons_succ]
              refine wpAnyH_take (i := 9) (oi := { dst := some 81, op := Op.extract (Operand.tmp 72) 1, type := 4, pos := "law.go:166", after := #[{ on := 7, ground := Ground.data }, { on := 11, ground := Ground.gcOnly Departure.lateStores }], guard := none }) (v := ?_) rfl (by kernel_rfl) (by kernel_rfl) (by kernel_rfl) (fun _ _ _ h => h) (Or.inl ⟨by rfl, ?_⟩) HHeld.out ?_
              rotate_left
              · intro w hSw; clear hSw; go_simp; try with_reducible rfl
              try simp only [Act.put, List.setIfInBounds_toArray, List.set_cons_zero, List.set_cons_succ]
              refine wpAnyH_ready (rs := [10]) (by kernel_rfl) (by simp) ?_
              refine AllReadyH.cons (o := { dst := some 14, op := Op.alloc 33, type := 0, pos := "law.go:166", after := #[], guard := none }) rfl (fun K hK => ?_) AllReadyH.nil
              go_simp
              have BX : Hid (Below w3.heap.size w3 (w3.alloc (.cells zb 33))) := Lib.hid (by go_grown)
              refine hK.out _ _ ?_ (fun hHeld => ?_)
              · exact ⟨blk_bel BX.out HHeld.out.1, bel_later BX.out HHeld.out.2.1, bel_later BX.out HHeld.out.2.2.1, bel_later BX.out HHeld.out.2.2.2⟩
              clear HHeld; have HHeld := Lib.hid hHeld; clear hHeld
              clear hK K
              try simp only [Act.put, List.setIfInBounds_toArray, List.set_cons_zero, List.set_cons_succ]
              refine wpAnyH_ready (rs := [11]) (by kernel_rfl) (by simp) ?_
              refine AllReadyH.cons (o := { dst := none, op := Op.store 33 (Operand.tmp 14) (Operand.tmp 80), type := 0, pos := "law.go:166", after := #[{ on := 10, ground := Ground.data }, { on := 8, ground := Ground.data }, { on := 6, ground := Ground.chain }, { on := 0, ground := Ground.phase }, { on := 1, ground := Ground.phase }, { on := 2, ground := Ground.phase }, { on := 3, ground := Ground.phase }, { on := 4, ground := Ground.phase }, { on := 5, ground := Ground.phase }, { on := 6, ground := Ground.phase }, { on := 7, ground := Ground.phase }, { on := 8, ground := Ground.phase }, { on := 9, ground := Ground.textOnly Departure.lateStores }, { on := 10, ground := Ground.phase }], guard := none }) rfl (fun K hK => ?_) AllReadyH.nil
              rw [if_pos (by rfl)]
              refine wp_store_row 33 (.tmp 14) (.tmp 80) rfl w3.heap.size cs3 rfl rfl 33 zb (heap_alloc_new w3 _) (by rw [ZS3.out]; exact info33) (by rw [ZS3.out]; exact zb_size) ZO3.out ?_
              refine hK.out _ _ ?_ (fun hHeld => ?_)
              · exact ⟨(setRow_other _ _ _ _ (by have h1 := NR.out; have h2 := N3.out; omega)).trans HHeld.out.1, (cell_setRow (by have h1 := HLT.out; have h2 := N3.out; omega)).trans HHeld.out.2.1, (cell_setRow (by have h1 := HLT.out; have h2 := N3.out; omega)).trans HHeld.out.2.2.1, (cell_setRow (by have h1 := HLT.out; have h2 := N3.out; omega)).trans HHeld.out.2.2.2⟩
              clear HHeld; have HHeld := Lib.hid hHeld; clear hHeld
              clear hK K
              try simp only [Act.put, List.setIfInBounds_toArray, List.set_cons_zero, List.set_cons_succ]
              refine wpAnyH_take (i := 12) (oi := { dst := some 15, op := Op.assign (Operand.tmp 81), type := 4, pos := "law.go:166", after := #[{ on := 9, ground := Ground.data }, { on := 11, ground := Ground.chain }, { on := 0, ground := Ground.phase }, { on := 1, ground := Ground.phase }, { on := 2, ground := Ground.phase }, { on := 3, ground := Ground.phase }, { on := 4, ground := Ground.phase }, { on := 5, ground := Ground.phase }, { on := 6, ground := Ground.phase }, { on := 7, ground := Ground.phase }, { on := 8, ground := Ground.phase }, { on := 9, ground := Ground.phase }, { on := 10, ground := Ground.phase }, { on := 11, ground := Ground.phase }], guard := none }) (v := ?_) rfl (by kernel_rfl) (by kernel_rfl) (by kernel_rfl) (fun _ _ _ h => h) (Or.inl ⟨by rfl, ?_⟩) HHeld.out ?_
              rotate_left
              · intro w hSw; clear hSw; go_simp; try with_reducible rfl
              try simp only [Act.put, List.setIfInBounds_toArray, List.set_cons_zero, List.set_cons_succ]
              refine wpAnyH_done (by kernel_rfl) ?_ _
              have H7 : Hid (SR (w.heap.size + 1) (w.heap.size + 1) (fun g => g = gx) R2 (stepA (playR e0 e1 e2 b0 k) x0 x1 x2) (stepA (playR e0 e1 e2 b0 k) x0 x1 x2) (W2 w3 cs3) cs3) := Lib.hid (H6.out.later (W2.bel w3 cs3))
              have Y7 : Hid ((W2 w3 cs3).heap[gx]? = some (.cells cs4 33 (0, 0))) := Lib.hid HHeld.out.1
              have X7 := Lib.hid (W2.x w3 cs3)
              have B7 : Hid (Below w.heap.size w (W2 w3 cs3)) := Lib.hid (B6.out.trans ((W2.bel w3 cs3).mono B6.out.size))
              have L7 : Hid (w.heap.size + 1 ≤ (W2 w3 cs3).heap.size) := Lib.hid (Nat.le_trans L6.out (W2.bel w3 cs3).size)
              have C7 : Hid (Chg (fun g => ¬ R2 g) w22 (W2 w3 cs3)) := Lib.hid (C6.out.trans (Chg.of_below (D := fun g => ¬ R2 g) (W2.bel w3 cs3)) (fun g h => .inl h))
              have G7 : Hid (¬ gx = w3.heap.size) := Lib.hid (by have := NR.out; have := N3.out; omega)
              change Exit.then _ _ _ _ (W2 w3 cs3)
              clear CC YB H6 N3 HHeld B6 L6 C6
              generalize W2 w3 cs3 = V2 at *
              obtain ⟨gz, hgz⟩ : ∃ g, g = w3.heap.size := ⟨_, rfl⟩
              rw [← hgz] at X7 G7 ⊢
              clear hgz
              rotate_left
              go_simp
              refine hK.out _ _ ?_ (fun hHeld => ?_)
              · exact ⟨blk_bel BL.out HHeld.out.1, bel_later BL.out HHeld.out.2.1, bel_later BL.out HHeld.out.2.2.1, bel_later BL.out HHeld.out.2.2.2⟩
              clear HHeld; have HHeld := Lib.hid hHeld; clear hHeld
              clear hK K
              try simp only [Act.put, List.setIfInBounds_toArray, List.set_cons_zero, List.set_cons_succ]
              refine wpAnyH_ready (rs := [6]) (by kernel_rfl) (by simp) ?_
              refine AllReadyH.cons (o := { dst := some 79, op := Op.call { callee := Callee.value (Operand.func 10), args := #[Operand.tmp 73, Operand.tmp 74, Operand.tmp 78], argTypes := #[23, 33, 37] }, type := 34, pos := "law.go:166", after := #[{ on := 0, ground := Ground.data }, { on := 1, ground := Ground.data }, { on := 5, ground := Ground.data }], guard := none }) rfl (fun K hK => ?_) AllReadyH.nil
              go_simp
              (go_at_call 10; ((with_reducible refine (CT.out).mono ?_); rintro e w3 ⟨cs3, rfl, h2, b2, k2⟩; have H6 := Lib.hid h2; have B6 : Hid (Below w.heap.size w w3) := Lib.hid ((HBW.out.trans (BL.out.mono HBW.out.size)).trans (b2.mono (Nat.le_succ _))); have L6 : Hid (w.heap.size + 1 ≤ w3.heap.size) := Lib.hid (Nat.le_trans HLO.out (Nat.le_trans BL.out.size b2.size)); have C6 : Hid (Chg (fun g => ¬ R2 g) w22 w3) := Lib.hid ((HCR.out.trans (Chg.of_below (D := fun g => ¬ R2 g) BL.out) (fun g h => .inl h)).trans (chg_of b2 (fun g hg => k2 g (.inr hg))) (fun g h => .inl h)); have YB := Lib.hid ((k2 gx (.inl (.inl rfl))).trans HHeld.out.1); have ZB := Lib.hid ((k2 wr.heap.size (.inl (.inr rfl))).trans ZL.out); have ZS3 := Lib.hid h2.size; have ZO3 := Lib.hid h2.one; have CC := Lib.hid (And.intro YB.out (And.intro ((bel_cell b2 HLT.out.2.1).trans (HHeld.out.2.1)) (And.intro ((bel_cell b2 HLT.out.2.1).trans (HHeld.out.2.2.1)) ((bel_cell b2 HLT.out.2.1).trans (HHeld.out.2.2.2))))); have N3 : Hid (wr.heap.size ≤ w3.heap.size) := Lib.hid (Nat.le_trans BL.out.size b2.size); clear h2 b2 k2))
              refine hK.out _ _ ?_ (fun hHeld => ?_)
              · exact CC.out
              clear HHeld; have HHeld := Lib.hid hHeld; clear hHeld
              clear hK K
              try simp only [Act.put, List.setIfInBounds_toArray, List.set_cons_zero, List.set_cons_succ]
              refine wpAnyH_take (i := 7) (oi := { dst := some 72, op := Op.move (Operand.tmp 79), type := 34, pos := "law.go:166", after := #[{ on := 6, ground := Ground.data }], guard := none }) (v := ?_) rfl (by kernel_rfl) (by kernel_rfl) (by kernel_rfl) (fun _ _ _ h => h) (Or.inl ⟨by rfl, ?_⟩) HHeld.out ?_
              rotate_left
              · intro w hSw; clear hSw; go_simp; try with_reducible rfl
              try simp only [Act.put, List.setIfInBounds_toArray, List.set_cons_zero, List.set_cons_succ]
              refine wpAnyH_take (i := 8) (oi := { dst := some 80, op := Op.extract (Operand.tmp 72) 0, type := 33, pos := "law.go:166", after := #[{ on := 7, ground := Ground.data }], guard := none }) (v := ?_) rfl (by kernel_rfl) (by kernel_rfl) (by kernel_rfl) (fun _ _ _ h => h) (Or.inl ⟨by rfl, ?_⟩) HHeld.out ?_
              rotate_left
              · intro w hSw; clear hSw; go_simp; try with_reducible rfl
              try simp only [Act.put, List.setIfInBounds_toArray, List.set_cons_zero, List.set_cons_succ]
              refine wpAnyH_take (i := 9) (oi := { dst := some 81, op := Op.extract (Operand.tmp 72) 1, type := 4, pos := "law.go:166", after := #[{ on := 7, ground := Ground.data }, { on := 11, ground := Ground.gcOnly Departure.lateStores }], guard := none }) (v := ?_) rfl (by kernel_rfl) (by kernel_rfl) (by kernel_rfl) (fun _ _ _ h => h) (Or.inl ⟨by rfl, ?_⟩) HHeld.out ?_
              rotate_left
              · intro w hSw; clear hSw; go_simp; try with_reducible rfl
              try simp only [Act.put, List.setIfInBounds_toArray, List.set_cons_zero, List.set_cons_succ]
              refine wpAnyH_ready (rs := [11]) (by kernel_rfl) (by simp) ?_
              refine AllReadyH.cons (o := { dst := none, op := Op.store 33 (Operand.tmp 14) (Operand.tmp 80), type := 0, pos := "law.go:166", after := #[{ on := 10, ground := Ground.data }, { on := 8, ground := Ground.data }, { on := 6, ground := Ground.chain }, { on := 0, ground := Ground.phase }, { on := 1, ground := Ground.phase }, { on := 2, ground := Ground.phase }, { on := 3, ground := Ground.phase }, { on := 4, ground := Ground.phase }, { on := 5, ground := Ground.phase }, { on := 6, ground := Ground.phase }, { on := 7, ground := Ground.phase }, { on := 8, ground := Ground.phase }, { on := 9, ground := Ground.textOnly Departure.lateStores }, { on := 10, ground := Ground.phase }], guard := none }) rfl (fun K hK => ?_) AllReadyH.nil
              rw [if_pos (by rfl)]
              refine wp_store_row 33 (.tmp 14) (.tmp 80) rfl wr.heap.size cs3 rfl rfl 33 zb ZB.out (by rw [ZS3.out]; exact info33) (by rw [ZS3.out]; exact zb_size) ZO3.out ?_
              refine hK.out _ _ ?_ (fun hHeld => ?_)
              · exact ⟨(setRow_other _ _ _ _ (by have h1 := NR.out; have h2 := N3.out; omega)).trans HHeld.out.1, (cell_setRow (by have h1 := HLT.out; have h2 := N3.out; omega)).trans HHeld.out.2.1, (cell_setRow (by have h1 := HLT.out; have h2 := N3.out; omega)).trans HHeld.out.2.2.1, (cell_setRow (by have h1 := HLT.out; have h2 := N3.out; omega)).trans HHeld.out.2.2.2⟩
              clear HHeld; have HHeld := Lib.hid hHeld; clear hHeld
              clear hK K
              try simp only [Act.put, List.setIfInBounds_toArray, List.set_cons_zero, List.set_cons_succ]
              refine wpAnyH_take (i := 12) (oi := { dst := some 15, op := Op.assign (Operand.tmp 81), type := 4, pos := "law.go:166", after := #[{ on := 9, ground := Ground.data }, { on := 11, ground := Ground.chain }, { on := 0, ground := Ground.phase }, { on := 1, ground := Ground.phase }, { on := 2, ground := Ground.phase }, { on := 3, ground := Ground.phase }, { on := 4, ground := Ground.phase }, { on := 5, ground := Ground.phase }, { on := 6, ground := Ground.phase }, { on := 7, ground := Ground.phase }, { on := 8, ground := Ground.phase }, { on := 9, ground := Ground.phase }, { on := 10, ground := Ground.phase }, { on := 11, ground := Ground.phase }], guard := none }) (v := ?_) rfl (by kernel_rfl) (by kernel_rfl) (by kernel_rfl) (fun _ _ _ h => h) (Or.inl ⟨by rfl, ?_⟩) HHeld.out ?_
              rotate_left
              · intro w hSw; clear hSw; go_simp; try with_reducible rfl
              try simp only [Act.put, List.setIfInBounds_toArray, List.set_cons_zero, List.set_cons_succ]
              refine wpAnyH_done (by kernel_rfl) ?_ _
              have H7 : Hid (SR (w.heap.size + 1) (w.heap.size + 1) (fun g => g = gx) R2 (stepA (playR e0 e1 e2 b0 k) x0 x1 x2) (stepA (playR e0 e1 e2 b0 k) x0 x1 x2) (w3.setRow wr.heap.size cs3) cs3) := Lib.hid ((H6.out.apart (grown_row (N := wr.heap.size) (cs := cs3)) (.inr rfl)).less (fun g h => .inl h))
              have Y7 : Hid ((w3.setRow wr.heap.size cs3).heap[gx]? = some (.cells cs4 33 (0, 0))) := Lib.hid HHeld.out.1
              have X7 : Hid ((w3.setRow wr.heap.size cs3).heap[wr.heap.size]? = some (.cells cs3 33 (0, 0))) := Lib.hid (setRow_heap _ _ _ _ _ _ ZB.out)
              have B7 : Hid (Below w.heap.size w (w3.setRow wr.heap.size cs3)) := Lib.hid (below_setRow B6.out HBW.out.size _)
              have L7 : Hid (w.heap.size + 1 ≤ (w3.setRow wr.heap.size cs3).heap.size) := Lib.hid (Nat.le_trans L6.out (grown_row (w := w3) (N := wr.heap.size) (cs := cs3)).size)
              have C7 : Hid (Chg (fun g => ¬ R2 g) w22 (w3.setRow wr.heap.size cs3)) := Lib.hid (C6.out.trans (Chg.of_grown (D := fun g => ¬ R2 g) (grown_row (w := w3) (N := wr.heap.size) (cs := cs3)) (fun g e => by cases e; exact NRZ.out)) (fun g h => .inl h))
              have G7 : Hid (¬ gx = wr.heap.size) := Lib.hid (by have := NR.out; omega)
              clear CC YB H6 N3 HHeld ZB B6 L6 C6
              generalize w3.setRow wr.heap.size cs3 = V2 at *
              obtain ⟨gz, hgz⟩ : ∃ g, g = wr.heap.size := ⟨_, rfl⟩
              rw [← hgz] at X7 G7 ⊢
              clear hgz
              rotate_left
              all_goals
                go_wp2_with (first
                  | (refine wpList_load_row rfl 33 (.tmp 14) rfl gz rfl 33 cs3 (0, 0) _ X7.out Try.underlying33 rfl (by rw [ZS3.out]; exact info33) ?_)
                  | (refine wpList_store_row rfl 33 (.tmp 6) _ rfl gx cs3 rfl rfl 33 cs4 Y7.out (by rw [ZS3.out]; exact info33) (by rw [ZS3.out]; exact ZSb.out) ZO3.out ?_)
                  | fail)
                refine ⟨⟨k + 1, cs3, by omega, by simp, ?_, setRow_heap _ _ _ _ _ _ Y7.out, C7.out.trans (Chg.of_grown (D := fun g => ¬ R2 g) (grown_row (w := V2) (N := gx) (cs := cs3)) (fun g e => by cases e; exact NRX.out)) (fun g h => .inl h), below_setRow B7.out (by have := NB.out; omega) _, Nat.le_trans L7.out (grown_row (w := V2) (N := gx) (cs := cs3)).size⟩, by simp [intOf]; omega⟩
                rw [HPL.out]
                exact H7.out.apart (grown_row (N := gx) (cs := cs3)) rfl
            · by_cases h8 : k < n'
              · have hk1 : (k : Int) < (n' : Int) := by omega
                have hk2 : ¬ (k : Int) < 60 := by omega
                have HZ2 : Hid (ST lo2 N' (fun _ => False) bf bf wr cs2) := Lib.hid (HL2.out wr HCR.out).to
                have YF := Lib.hid (HGY.out wr HCR.out)
                go_wp2_with (first
                  | (go_at_call 8; ((with_reducible refine (live_any _).mono ?_); rintro e w40 ⟨rfl, b40⟩; have B40 := Lib.hid (HBW.out.trans (b40.mono HBW.out.size)); have YF40 := Lib.hid (blk_bel b40 YF.out); have AL40 := Lib.hid (alike_any (HZ2.out.later b40)); clear b40))
                  | (refine wpList_gload_row (by rfl) (.tmp 9) rfl gy rfl cs2 YF40.out ZS2.out ?_)
                  | (go_at_call 11; ((with_reducible refine AL40.out.mono ?_); rintro e w41 ⟨rfl, b41⟩; have B41 := Lib.hid (B40.out.trans (b41.mono B40.out.size)); clear b41))
                  | fail)
                go_ret
                exact ⟨rfl, B41.out⟩
              · have hk1 : ¬ (k : Int) < (n' : Int) := by omega
                have HZ2 : Hid (ST lo2 N' (fun _ => False) bf bf wr cs2) := Lib.hid (HL2.out wr HCR.out).to
                have YF := Lib.hid (HGY.out wr HCR.out)
                go_wp2_with (first
                  | (go_at_call 8; ((with_reducible refine (live_any _).mono ?_); rintro e w40 ⟨rfl, b40⟩; have B40 := Lib.hid (HBW.out.trans (b40.mono HBW.out.size)); have YF40 := Lib.hid (blk_bel b40 YF.out); have AL40 := Lib.hid (alike_any (HZ2.out.later b40)); clear b40))
                  | (refine wpList_gload_row (by rfl) (.tmp 9) rfl gy rfl cs2 YF40.out ZS2.out ?_)
                  | (go_at_call 11; ((with_reducible refine AL40.out.mono ?_); rintro e w41 ⟨rfl, b41⟩; have B41 := Lib.hid (B40.out.trans (b41.mono B40.out.size)); clear b41))
                  | fail)
                go_ret
                exact ⟨rfl, B41.out⟩
        · have hk1 : ¬ (k : Int) < (n' : Int) := by omega
          obtain ⟨bf, hbf⟩ : ∃ b, b = playR e0 e1 e2 b0 k := ⟨_, rfl⟩
          rw [← hbf] at HST
          have ZS2 := Lib.hid HST.out.size
          have GYL : Hid (gy < wr.heap.size) := Lib.hid (HST.out.kept gy (.inl (.inl rfl)))
          have KBR := Lib.hid (KB.out wr HBR.out)
          have AL1 := Lib.hid (alike_any KBR.out.1)
          clear hbf
          go_wp2_with (first
            | (refine wpList_gload_row (by rfl) (.tmp 6) rfl gx rfl cs1 KBR.out.2 ZS.out ?_)
            | (go_at_call 11; ((with_reducible refine AL1.out.mono ?_); rintro e w21 ⟨rfl, b21⟩; have B21 := Lib.hid b21; have Y21 := Lib.hid (blk_bel b21 HY.out); have AL2 := Lib.hid (alike_any (HST.out.later b21).to); clear b21 AL1))
            | (refine wpList_gload_row (by rfl) (.tmp 9) rfl gy rfl cs2 Y21.out ZS2.out ?_)
            | (go_at_call 11; ((with_reducible refine AL2.out.mono ?_); rintro e w22 ⟨rfl, b22⟩; have B22 := Lib.hid (B21.out.trans (b22.mono B21.out.size)); clear b22))
            | fail)
          have HF22 := Lib.hid (HST.out.later B22.out)
          have Y22 := Lib.hid (blk_bel B22.out HY.out)
          have BW22 : Hid (Below W.heap.size W w22) := Lib.hid (HBR.out.trans (B22.out.mono HBR.out.size))
          obtain ⟨S, hS1, hS2, hS3⟩ := HF22.out.lock
          obtain ⟨R2, hR2⟩ : ∃ R : Nat → Prop, R = fun g => S g ∨ g = gy := ⟨_, rfl⟩
          have G22 : gy < w22.heap.size := Nat.lt_of_lt_of_le GYL.out B22.out.size
          have HX22 : Hid (SR (w.heap.size + 1) (w.heap.size + 1) (fun g => g = gx) R2 b0 b0 w22 cs1) := Lib.hid (HK.out w22 R2 BW22.out (by rw [hR2]; rintro g (h | h); exact hS1 g h; rw [h]; exact G22) (by
            rw [hR2]; rintro g (h | h) hf
            · exact hS2 g h (.inr (.inl hf))
            · have h1 := HF.out g hf; have h2 := G5.out; omega))
          have X22 := Lib.hid (blk_bel BW22.out Y2.out)
          have NRX : Hid (¬ R2 gx) := Lib.hid (by
            rw [hR2]; rintro (h | h)
            · exact hS2 gx h (.inr (.inr rfl))
            · have h1 := NB.out; have h2 := G5.out; omega)
          have HL2 : Hid (∀ w', Chg (fun g => ¬ R2 g) w22 w' → SR lo2 N' (fun _ => False) (fun _ => False) bf bf w' cs2) := Lib.hid (fun w' hc => hS3 w' (hc.more (fun g hg => .inl (fun hs => hg (by rw [hR2]; exact .inl hs)))))
          have HGY : Hid (∀ w', Chg (fun g => ¬ R2 g) w22 w' → w'.heap[gy]? = some (.cells cs2 33 (0, 0))) := Lib.hid (fun w' hc => (hc.block gy G22 (fun hn => hn (by rw [hR2]; exact .inr rfl))).trans Y22.out)
          have BWW : Hid (Below w.heap.size w w22) := Lib.hid (HB.out.trans (BW22.out.mono HB.out.size))
          have LW : Hid (w.heap.size + 1 ≤ w22.heap.size) := Lib.hid (by have h1 := NB.out; have h2 := BW22.out.size; omega)
          clear hS1 hS2 hS3 hR2 HF22 Y22 HST HY HBR HLO HBW B21 B22 KB KBR HK HF GYL G22
          rename_i KK3 aa3
          go_loopw [13, 14, 15] (fun iv _ _ wr => ∃ (k : Nat) (cs : Array Value), k ≤ min n' 60 ∧ iv = .int .i64 k ∧ SR (w.heap.size + 1) (w.heap.size + 1) (fun g => g = gx) R2 (playR e0 e1 e2 b0 k) (playR e0 e1 e2 b0 k) wr cs ∧ wr.heap[gx]? = some (.cells cs 33 (0, 0)) ∧ Chg (fun g => ¬ R2 g) w22 wr ∧ Below w.heap.size w wr ∧ w.heap.size + 1 ≤ wr.heap.size) (fun i _ _ _ => 60 - (intOf i).toNat)
          case atStart => exact ⟨0, cs1, by omega, rfl, HX22.out, X22.out, Chg.refl _ _, BWW.out, LW.out⟩
          case round =>
            clear hk
            obtain ⟨k, cs4, hk, rfl, hst, hy, hc, hb, hlo⟩ := hrel
            have HST := Lib.hid hst
            have HY := Lib.hid hy
            have HCR := Lib.hid hc
            have HBW := Lib.hid hb
            have HLO := Lib.hid hlo
            clear hst hy hc hb hlo HX22 X22 BWW LW
            by_cases h89 : k < n' ∧ k < 60
            · obtain ⟨h8, h9⟩ := h89
              have hk1 : (k : Int) < (n' : Int) := by omega
              have hk0 : (0 : Int) ≤ (k : Int) := by omega
              have hk2 : (k : Int) < 60 := by omega
              obtain ⟨b, off, rfl, hlt, ⟨c0, c1, c2⟩, _, w1f, w2f⟩ := (HE.out.low HBW.out).at_ h8
              obtain ⟨x0, hx0⟩ : ∃ x, x = e0 k := ⟨_, rfl⟩
              obtain ⟨x1, hx1⟩ : ∃ x, x = e1 k := ⟨_, rfl⟩
              obtain ⟨x2, hx2⟩ : ∃ x, x = e2 k := ⟨_, rfl⟩
              rw [← hx0] at c0
              rw [← hx1] at c1 w1f
              rw [← hx2] at c2 w2f
              have HPL : Hid (playR e0 e1 e2 b0 (k + 1) = stepA (playR e0 e1 e2 b0 k) x0 x1 x2) := Lib.hid (by rw [hx0, hx1, hx2]; rfl)
              clear hx0 hx1 hx2
              have C0 := Lib.hid c0
              have C1 := Lib.hid c1
              have C2 := Lib.hid c2
              clear aa3
              have hbb : b < w.heap.size := by
                rcases HE.out with h | ⟨b', off', e, h, _⟩
                · omega
                · cases e; exact h
              have HLT : Hid (b < w.heap.size ∧ b < (w.heap.size + 1) ∧ w.heap.size ≤ wr.heap.size) := Lib.hid ⟨hbb, by omega, HBW.out.size⟩
              have ZSb := Lib.hid HST.out.size
              have NR := Lib.hid (HST.out.kept gx (.inl rfl))
              have NRZ : Hid (¬ R2 wr.heap.size) := Lib.hid (fun h => Nat.lt_irrefl _ (HST.out.kept _ (.inr h)))
              have BL : Hid (Below wr.heap.size wr (wr.alloc (.cells zb 33)).drew) := Lib.hid (by go_grown)
              have CS := Lib.hid (stepr_any (HST.out.later (drew_bel wr)) (by show w.heap.size + 1 ≤ wr.heap.size; exact HLO.out) x0 x1 x2)
              have CT := Lib.hid (stepr_any (HST.out.wide BL.out (fun g => (g = gx) ∨ g = wr.heap.size) (by rintro g (h | h); exact .inl h; exact .inr ⟨by omega, by simp; omega⟩)) (Nat.le_trans (by show w.heap.size + 1 ≤ wr.heap.size; exact HLO.out) BL.out.size) x0 x1 x2)
              have ZL : Hid ((wr.alloc (.cells zb 33)).drew.heap[wr.heap.size]? = some (.cells zb 33 (0, 0))) := Lib.hid (heap_alloc_new wr _)
              have SL : Hid ((wr.alloc (.cells zb 33)).drew.heap.size = wr.heap.size + 1) := Lib.hid (by simp)
              clear c0 c1 c2 hlt w1f w2f hbb
              go_wp2_with fail
              refine wp_region_held_drew (S := (fun V => V.heap[gx]? = some (.cells cs4 33 (0, 0)) ∧ V.cell? ⟨b, off + k * 3, none⟩ = some (.int .i64 x0) ∧ V.cell? ⟨b, off + k * 3 + 1, none⟩ = some (.int .i64 x1) ∧ V.cell? ⟨b, off + k * 3 + 2, none⟩ = some (.int .i64 x2))) (by kernel_rfl) ?_ (fun hHeld => ?_)
              · exact ⟨HY.out, C0.out, C1.out, C2.out⟩
              have HHeld := Lib.hid hHeld; clear hHeld
              refine wpAnyH_take (i := 0) (oi := { dst := some 73, op := Op.move (Operand.tmp 5), type := 23, pos := "law.go:166", after := #[], guard := none }) (v := ?_) rfl (by kernel_rfl) (by kernel_rfl) (by kernel_rfl) (fun _ _ _ h => h) (Or.inl ⟨by rfl, ?_⟩) HHeld.out ?_
              rotate_left
              · intro w hSw; clear hSw; go_simp; try with_reducible rfl
              try simp only [Act.put, List.setIfInBounds_toArray, List.set_cons_zero, List.set_cons_succ]
              refine wpAnyH_take (i := 1) (oi := { dst := some 74, op := Op.load 33 (Operand.tmp 6), type := 33, pos := "law.go:166", after := #[], guard := none }) (v := Value.agg cs4) rfl (by kernel_rfl) (by kernel_rfl) (by kernel_rfl) (fun _ _ _ h => h) (Or.inl ⟨by rfl, fun V hV => ex_load_row (.tmp 6) rfl gx rfl cs4 hV.1 ZSb.out⟩) HHeld.out ?_
              try simp only [Act.put, List.setIfInBounds_toArray, List.set_cons_zero, List.set_cons_succ]
              refine wpAnyH_take (i := 2) (oi := { dst := some 75, op := Op.move (Operand.tmp 1), type := 22, pos := "law.go:166", after := #[], guard := none }) (v := ?_) rfl (by kernel_rfl) (by kernel_rfl) (by kernel_rfl) (fun _ _ _ h => h) (Or.inl ⟨by rfl, ?_⟩) HHeld.out ?_
              rotate_left
              · intro w hSw; clear hSw; go_simp; try with_reducible rfl
              try simp only [Act.put, List.setIfInBounds_toArray, List.set_cons_zero, List.set_cons_succ]
              refine wpAnyH_take (i := 3) (oi := { dst := some 76, op := Op.move (Operand.tmp 13), type := 3, pos := "law.go:166", after := #[], guard := none }) (v := ?_) rfl (by kernel_rfl) (by kernel_rfl) (by kernel_rfl) (fun _ _ _ h => h) (Or.inl ⟨by rfl, ?_⟩) HHeld.out ?_
              rotate_left
              · intro w hSw; clear hSw; go_simp; try with_reducible rfl
              try simp only [Act.put, List.setIfInBounds_toArray, List.set_cons_zero, List.set_cons_succ]
              refine wpAnyH_take (i := 4) (oi := { dst := some 77, op := Op.indexAddr 22 (Operand.tmp 75) (Operand.tmp 76), type := 0, pos := "law.go:166", after := #[{ on := 2, ground := Ground.data }, { on := 3, ground := Ground.data }], guard := none }) (v := ?_) rfl (by kernel_rfl) (by kernel_rfl) (by kernel_rfl) (fun _ _ _ h => h) (Or.inl ⟨by rfl, ?_⟩) HHeld.out ?_
              rotate_left
              · intro w hSw; clear hSw; go_simp; try with_reducible rfl
              try simp only [Act.put, List.setIfInBounds_toArray, List.set_cons_zero, List.set_cons_succ]
              refine wpAnyH_take (i := 5) (oi := { dst := some 78, op := Op.load 37 (Operand.tmp 77), type := 37, pos := "law.go:166", after := #[{ on := 4, ground := Ground.data }], guard := none }) (v := Value.agg #[.int .i64 x0, .int .i64 x1, .int .i64 x2]) rfl (by kernel_rfl) (by kernel_rfl) (by kernel_rfl) (fun _ _ _ h => h) (Or.inl ⟨by rfl, ?_⟩) HHeld.out ?_
              · intro V hV; have hc0 := hV.2.1; have hc1 := hV.2.2.1; have hc2 := hV.2.2.2; clear hV; go_simp
              try simp only [Act.put, List.setIfInBounds_toArray, List.set_cons_zero, List.set_cons_succ]
              refine wpAnyH_ready (rs := [6, 10]) (by kernel_rfl) (by simp) ?_
              refine AllReadyH.cons (o := { dst := some 79, op := Op.call { callee := Callee.value (Operand.func 10), args := #[Operand.tmp 73, Operand.tmp 74, Operand.tmp 78], argTypes := #[23, 33, 37] }, type := 34, pos := "law.go:166", after := #[{ on := 0, ground := Ground.data }, { on := 1, ground := Ground.data }, { on := 5, ground := Ground.data }], guard := none }) rfl (fun K hK => ?_) (AllReadyH.cons (o := { dst := some 14, op := Op.alloc 33, type := 0, pos := "law.go:166", after := #[], guard := none }) rfl (fun K hK => ?_) AllReadyH.nil)
              go_simp
              (go_at_call 10; ((with_reducible refine (CS.out).mono ?_); rintro e w3 ⟨cs3, rfl, h2, b2, k2⟩; have H6 := Lib.hid h2; have B6 : Hid (Below w.heap.size w w3) := Lib.hid ((HBW.out.trans ((drew_bel wr).mono HBW.out.size)).trans (b2.mono (Nat.le_succ _))); have L6 : Hid (w.heap.size + 1 ≤ w3.heap.size) := Lib.hid (Nat.le_trans HLO.out b2.size); have C6 : Hid (Chg (fun g => ¬ R2 g) w22 w3) := Lib.hid ((HCR.out.trans (Chg.of_below (D := fun g => ¬ R2 g) (drew_bel wr)) (fun g h => .inl h)).trans (chg_of b2 (fun g hg => k2 g (.inr hg))) (fun g h => .inl h)); have YB := Lib.hid ((k2 _ (.inl rfl)).trans HY.out); have ZS3 := Lib.hid h2.size; have ZO3 := Lib.hid h2.one; have CC := Lib.hid (And.intro YB.out (And.intro ((bel_cell b2 HLT.out.2.1).trans (HHeld.out.2.1)) (And.intro ((bel_cell b2 HLT.out.2.1).trans (HHeld.out.2.2.1)) ((bel_cell b2 HLT.out.2.1).trans (HHeld.out.2.2.2))))); have N3 : Hid (wr.heap.size ≤ w3.heap.size) := Lib.hid b2.size; clear h2 b2 k2))
              refine hK.out _ _ ?_ (fun hHeld => ?_)
              · exact CC.out
              clear HHeld; have HHeld := Lib.hid hHeld; clear hHeld
              clear hK K
              try simp only [Act.put, List.setIfInBounds_toArray, List.set_cons_zero, List.set_cons_succ]
              refine wpAnyH_take (i := 7) (oi := { dst := some 72, op := Op.move (Operand.tmp 79), type := 34, pos := "law.go:166", after := #[{ on := 6, ground := Ground.data }], guard := none }) (v := ?_) rfl (by kernel_rfl) (by kernel_rfl) (by kernel_rfl) (fun _ _ _ h => h) (Or.inl ⟨by rfl, ?_⟩) HHeld.out ?_
              rotate_left
              · intro w hSw; clear hSw; go_simp; try with_reducible rfl
              try simp only [Act.put, List.setIfInBounds_toArray, List.set_cons_zero, List.set_cons_succ]
              refine wpAnyH_take (i := 8) (oi := { dst := some 80, op := Op.extract (Operand.tmp 72) 0, type := 33, pos := "law.go:166", after := #[{ on := 7, ground := Ground.data }], guard := none }) (v := ?_) rfl (by kernel_rfl) (by kernel_rfl) (by kernel_rfl) (fun _ _ _ h => h) (Or.inl ⟨by rfl, ?_⟩) HHeld.out ?_
              rotate_left
              · intro w hSw; clear hSw; go_simp; try with_reducible rfl
              try simp only [Act.put, List.setIfInBounds_toArray, List.set_cons_zero, List.set_cons_succ]
              refine wpAnyH_take (i := 9) (oi := { dst := some 81, op := Op.extract (Operand.tmp 72) 1, type := 4, pos := "law.go:166", after := #[{ on := 7, ground := Ground.data }, { on := 11, ground := Ground.gcOnly Departure.lateStores }], guard := none }) (v := ?_) rfl (by kernel_rfl) (by kernel_rfl) (by kernel_rfl) (fun _ _ _ h => h) (Or.inl ⟨by rfl, ?_⟩) HHeld.out ?_
              rotate_left
              · intro w hSw; clear hSw; go_simp; try with_reducible rfl
              try simp only [Act.put, List.setIfInBounds_toArray, List.set_cons_zero, List.set_cons_succ]
              refine wpAnyH_ready (rs := [10]) (by kernel_rfl) (by simp) ?_
              refine AllReadyH.cons (o := { dst := some 14, op := Op.alloc 33, type := 0, pos := "law.go:166", after := #[], guard := none }) rfl (fun K hK => ?_) AllReadyH.nil
              go_simp
              have BX : Hid (Below w3.heap.size w3 (w3.alloc (.cells zb 33))) := Lib.hid (by go_grown)
              refine hK.out _ _ ?_ (fun hHeld => ?_)
              · exact ⟨blk_bel BX.out HHeld.out.1, bel_later BX.out HHeld.out.2.1, bel_later BX.out HHeld.out.2.2.1, bel_later BX.out HHeld.out.2.2.2⟩
              clear HHeld; have HHeld := Lib.hid hHeld; clear hHeld
              clear hK K
              try simp only [Act.put, List.setIfInBounds_toArray, List.set_cons_zero, List.set_cons_succ]
              refine wpAnyH_ready (rs := [11]) (by kernel_rfl) (by simp) ?_
              refine AllReadyH.cons (o := { dst := none, op := Op.store 33 (Operand.tmp 14) (Operand.tmp 80), type := 0, pos := "law.go:166", after := #[{ on := 10, ground := Ground.data }, { on := 8, ground := Ground.data }, { on := 6, ground := Ground.chain }, { on := 0, ground := Ground.phase }, { on := 1, ground := Ground.phase }, { on := 2, ground := Ground.phase }, { on := 3, ground := Ground.phase }, { on := 4, ground := Ground.phase }, { on := 5, ground := Ground.phase }, { on := 6, ground := Ground.phase }, { on := 7, ground := Ground.phase }, { on := 8, ground := Ground.phase }, { on := 9, ground := Ground.textOnly Departure.lateStores }, { on := 10, ground := Ground.phase }], guard := none }) rfl (fun K hK => ?_) AllReadyH.nil
              rw [if_pos (by rfl)]
              refine wp_store_row 33 (.tmp 14) (.tmp 80) rfl w3.heap.size cs3 rfl rfl 33 zb (heap_alloc_new w3 _) (by rw [ZS3.out]; exact info33) (by rw [ZS3.out]; exact zb_size) ZO3.out ?_
              refine hK.out _ _ ?_ (fun hHeld => ?_)
              · exact ⟨(setRow_other _ _ _ _ (by have h1 := NR.out; have h2 := N3.out; omega)).trans HHeld.out.1, (cell_setRow (by have h1 := HLT.out; have h2 := N3.out; omega)).trans HHeld.out.2.1, (cell_setRow (by have h1 := HLT.out; have h2 := N3.out; omega)).trans HHeld.out.2.2.1, (cell_setRow (by have h1 := HLT.out; have h2 := N3.out; omega)).trans HHeld.out.2.2.2⟩
              clear HHeld; have HHeld := Lib.hid hHeld; clear hHeld
              clear hK K
              try simp only [Act.put, List.setIfInBounds_toArray, List.set_cons_zero, List.set_cons_succ]
              refine wpAnyH_take (i := 12) (oi := { dst := some 15, op := Op.assign (Operand.tmp 81), type := 4, pos := "law.go:166", after := #[{ on := 9, ground := Ground.data }, { on := 11, ground := Ground.chain }, { on := 0, ground := Ground.phase }, { on := 1, ground := Ground.phase }, { on := 2, ground := Ground.phase }, { on := 3, ground := Ground.phase }, { on := 4, ground := Ground.phase }, { on := 5, ground := Ground.phase }, { on := 6, ground := Ground.phase }, { on := 7, ground := Ground.phase }, { on := 8, ground := Ground.phase }, { on := 9, ground := Ground.phase }, { on := 10, ground := Ground.phase }, { on := 11, ground := Ground.phase }], guard := none }) (v := ?_) rfl (by kernel_rfl) (by kernel_rfl) (by kernel_rfl) (fun _ _ _ h => h) (Or.inl ⟨by rfl, ?_⟩) HHeld.out ?_
              rotate_left
              · intro w hSw; clear hSw; go_simp; try with_reducible rfl
              try simp only [Act.put, List.setIfInBounds_toArray, List.set_cons_zero, List.set_cons_succ]
              refine wpAnyH_done (by kernel_rfl) ?_ _
              have H7 : Hid (SR (w.heap.size + 1) (w.heap.size + 1) (fun g => g = gx) R2 (stepA (playR e0 e1 e2 b0 k) x0 x1 x2) (stepA (playR e0 e1 e2 b0 k) x0 x1 x2) (W2 w3 cs3) cs3) := Lib.hid (H6.out.later (W2.bel w3 cs3))
              have Y7 : Hid ((W2 w3 cs3).heap[gx]? = some (.cells cs4 33 (0, 0))) := Lib.hid HHeld.out.1
              have X7 := Lib.hid (W2.x w3 cs3)
              have B7 : Hid (Below w.heap.size w (W2 w3 cs3)) := Lib.hid (B6.out.trans ((W2.bel w3 cs3).mono B6.out.size))
              have L7 : Hid (w.heap.size + 1 ≤ (W2 w3 cs3).heap.size) := Lib.hid (Nat.le_trans L6.out (W2.bel w3 cs3).size)
              have C7 : Hid (Chg (fun g => ¬ R2 g) w22 (W2 w3 cs3)) := Lib.hid (C6.out.trans (Chg.of_below (D := fun g => ¬ R2 g) (W2.bel w3 cs3)) (fun g h => .inl h))
              have G7 : Hid (¬ gx = w3.heap.size) := Lib.hid (by have := NR.out; have := N3.out; omega)
              change Exit.then _ _ _ _ (W2 w3 cs3)
              clear CC YB H6 N3 HHeld B6 L6 C6
              generalize W2 w3 cs3 = V2 at *
              obtain ⟨gz, hgz⟩ : ∃ g, g = w3.heap.size := ⟨_, rfl⟩
              rw [← hgz] at X7 G7 ⊢
              clear hgz
              rotate_left
              go_simp
              refine hK.out _ _ ?_ (fun hHeld => ?_)
              · exact ⟨blk_bel BL.out HHeld.out.1, bel_later BL.out HHeld.out.2.1, bel_later BL.out HHeld.out.2.2.1, bel_later BL.out HHeld.out.2.2.2⟩
              clear HHeld; have HHeld := Lib.hid hHeld; clear hHeld
              clear hK K
              try simp only [Act.put, List.setIfInBounds_toArray, List.set_cons_zero, List.set_cons_succ]
              refine wpAnyH_ready (rs := [6]) (by kernel_rfl) (by simp) ?_
              refine AllReadyH.cons (o := { dst := some 79, op := Op.call { callee := Callee.value (Operand.func 10), args := #[Operand.tmp 73, Operand.tmp 74, Operand.tmp 78], argTypes := #[23, 33, 37] }, type := 34, pos := "law.go:166", after := #[{ on := 0, ground := Ground.data }, { on := 1, ground := Ground.data }, { on := 5, ground := Ground.data }], guard := none }) rfl (fun K hK => ?_) AllReadyH.nil
              go_simp
              (go_at_call 10; ((with_reducible refine (CT.out).mono ?_); rintro e w3 ⟨cs3, rfl, h2, b2, k2⟩; have H6 := Lib.hid h2; have B6 : Hid (Below w.heap.size w w3) := Lib.hid ((HBW.out.trans (BL.out.mono HBW.out.size)).trans (b2.mono (Nat.le_succ _))); have L6 : Hid (w.heap.size + 1 ≤ w3.heap.size) := Lib.hid (Nat.le_trans HLO.out (Nat.le_trans BL.out.size b2.size)); have C6 : Hid (Chg (fun g => ¬ R2 g) w22 w3) := Lib.hid ((HCR.out.trans (Chg.of_below (D := fun g => ¬ R2 g) BL.out) (fun g h => .inl h)).trans (chg_of b2 (fun g hg => k2 g (.inr hg))) (fun g h => .inl h)); have YB := Lib.hid ((k2 gx (.inl (.inl rfl))).trans HHeld.out.1); have ZB := Lib.hid ((k2 wr.heap.size (.inl (.inr rfl))).trans ZL.out); have ZS3 := Lib.hid h2.size; have ZO3 := Lib.hid h2.one; have CC := Lib.hid (And.intro YB.out (And.intro ((bel_cell b2 HLT.out.2.1).trans (HHeld.out.2.1)) (And.intro ((bel_cell b2 HLT.out.2.1).trans (HHeld.out.2.2.1)) ((bel_cell b2 HLT.out.2.1).trans (HHeld.out.2.2.2))))); have N3 : Hid (wr.heap.size ≤ w3.heap.size) := Lib.hid (Nat.le_trans BL.out.size b2.size); clear h2 b2 k2))
              refine hK.out _ _ ?_ (fun hHeld => ?_)
              · exact CC.out
              clear HHeld; have HHeld := Lib.hid hHeld; clear hHeld
              clear hK K
              try simp only [Act.put, List.setIfInBounds_toArray, List.set_cons_zero, List.set_cons_succ]
              refine wpAnyH_take (i := 7) (oi := { dst := some 72, op := Op.move (Operand.tmp 79), type := 34, pos := "law.go:166", after := #[{ on := 6, ground := Ground.data }], guard := none }) (v := ?_) rfl (by kernel_rfl) (by kernel_rfl) (by kernel_rfl) (fun _ _ _ h => h) (Or.inl ⟨by rfl, ?_⟩) HHeld.out ?_
              rotate_left
              · intro w hSw; clear hSw; go_simp; try with_reducible rfl
              try simp only [Act.put, List.setIfInBounds_toArray, List.set_cons_zero, List.set_cons_succ]
              refine wpAnyH_take (i := 8) (oi := { dst := some 80, op := Op.extract (Operand.tmp 72) 0, type := 33, pos := "law.go:166", after := #[{ on := 7, ground := Ground.data }], guard := none }) (v := ?_) rfl (by kernel_rfl) (by kernel_rfl) (by kernel_rfl) (fun _ _ _ h => h) (Or.inl ⟨by rfl, ?_⟩) HHeld.out ?_
              rotate_left
              · intro w hSw; clear hSw; go_simp; try with_reducible rfl
              try simp only [Act.put, List.setIfInBounds_toArray, List.set_cons_zero, List.set_cons_succ]
              refine wpAnyH_take (i := 9) (oi := { dst := some 81, op := Op.extract (Operand.tmp 72) 1, type := 4, pos := "law.go:166", after := #[{ on := 7, ground := Ground.data }, { on := 11, ground := Ground.gcOnly Departure.lateStores }], guard := none }) (v := ?_) rfl (by kernel_rfl) (by kernel_rfl) (by kernel_rfl) (fun _ _ _ h => h) (Or.inl ⟨by rfl, ?_⟩) HHeld.out ?_
              rotate_left
              · intro w hSw; clear hSw; go_simp; try with_reducible rfl
              try simp only [Act.put, List.setIfInBounds_toArray, List.set_cons_zero, List.set_cons_succ]
              refine wpAnyH_ready (rs := [11]) (by kernel_rfl) (by simp) ?_
              refine AllReadyH.cons (o := { dst := none, op := Op.store 33 (Operand.tmp 14) (Operand.tmp 80), type := 0, pos := "law.go:166", after := #[{ on := 10, ground := Ground.data }, { on := 8, ground := Ground.data }, { on := 6, ground := Ground.chain }, { on := 0, ground := Ground.phase }, { on := 1, ground := Ground.phase }, { on := 2, ground := Ground.phase }, { on := 3, ground := Ground.phase }, { on := 4, ground := Ground.phase }, { on := 5, ground := Ground.phase }, { on := 6, ground := Ground.phase }, { on := 7, ground := Ground.phase }, { on := 8, ground := Ground.phase }, { on := 9, ground := Ground.textOnly Departure.lateStores }, { on := 10, ground := Ground.phase }], guard := none }) rfl (fun K hK => ?_) AllReadyH.nil
              rw [if_pos (by rfl)]
              refine wp_store_row 33 (.tmp 14) (.tmp 80) rfl wr.heap.size cs3 rfl rfl 33 zb ZB.out (by rw [ZS3.out]; exact info33) (by rw [ZS3.out]; exact zb_size) ZO3.out ?_
              refine hK.out _ _ ?_ (fun hHeld => ?_)
              · exact ⟨(setRow_other _ _ _ _ (by have h1 := NR.out; have h2 := N3.out; omega)).trans HHeld.out.1, (cell_setRow (by have h1 := HLT.out; have h2 := N3.out; omega)).trans HHeld.out.2.1, (cell_setRow (by have h1 := HLT.out; have h2 := N3.out; omega)).trans HHeld.out.2.2.1, (cell_setRow (by have h1 := HLT.out; have h2 := N3.out; omega)).trans HHeld.out.2.2.2⟩
              clear HHeld; have HHeld := Lib.hid hHeld; clear hHeld
              clear hK K
              try simp only [Act.put, List.setIfInBounds_toArray, List.set_cons_zero, List.set_cons_succ]
              refine wpAnyH_take (i := 12) (oi := { dst := some 15, op := Op.assign (Operand.tmp 81), type := 4, pos := "law.go:166", after := #[{ on := 9, ground := Ground.data }, { on := 11, ground := Ground.chain }, { on := 0, ground := Ground.phase }, { on := 1, ground := Ground.phase }, { on := 2, ground := Ground.phase }, { on := 3, ground := Ground.phase }, { on := 4, ground := Ground.phase }, { on := 5, ground := Ground.phase }, { on := 6, ground := Ground.phase }, { on := 7, ground := Ground.phase }, { on := 8, ground := Ground.phase }, { on := 9, ground := Ground.phase }, { on := 10, ground := Ground.phase }, { on := 11, ground := Ground.phase }], guard := none }) (v := ?_) rfl (by kernel_rfl) (by kernel_rfl) (by kernel_rfl) (fun _ _ _ h => h) (Or.inl ⟨by rfl, ?_⟩) HHeld.out ?_
              rotate_left
              · intro w hSw; clear hSw; go_simp; try with_reducible rfl
              try simp only [Act.put, List.setIfInBounds_toArray, List.set_cons_zero, List.set_cons_succ]
              refine wpAnyH_done (by kernel_rfl) ?_ _
              have H7 : Hid (SR (w.heap.size + 1) (w.heap.size + 1) (fun g => g = gx) R2 (stepA (playR e0 e1 e2 b0 k) x0 x1 x2) (stepA (playR e0 e1 e2 b0 k) x0 x1 x2) (w3.setRow wr.heap.size cs3) cs3) := Lib.hid ((H6.out.apart (grown_row (N := wr.heap.size) (cs := cs3)) (.inr rfl)).less (fun g h => .inl h))
              have Y7 : Hid ((w3.setRow wr.heap.size cs3).heap[gx]? = some (.cells cs4 33 (0, 0))) := Lib.hid HHeld.out.1
              have X7 : Hid ((w3.setRow wr.heap.size cs3).heap[wr.heap.size]? = some (.cells cs3 33 (0, 0))) := Lib.hid (setRow_heap _ _ _ _ _ _ ZB.out)
              have B7 : Hid (Below w.heap.size w (w3.setRow wr.heap.size cs3)) := Lib.hid (below_setRow B6.out HBW.out.size _)
              have L7 : Hid (w.heap.size + 1 ≤ (w3.setRow wr.heap.size cs3).heap.size) := Lib.hid (Nat.le_trans L6.out (grown_row (w := w3) (N := wr.heap.size) (cs := cs3)).size)
              have C7 : Hid (Chg (fun g => ¬ R2 g) w22 (w3.setRow wr.heap.size cs3)) := Lib.hid (C6.out.trans (Chg.of_grown (D := fun g => ¬ R2 g) (grown_row (w := w3) (N := wr.heap.size) (cs := cs3)) (fun g e => by cases e; exact NRZ.out)) (fun g h => .inl h))
              have G7 : Hid (¬ gx = wr.heap.size) := Lib.hid (by have := NR.out; omega)
              clear CC YB H6 N3 HHeld ZB B6 L6 C6
              generalize w3.setRow wr.heap.size cs3 = V2 at *
              obtain ⟨gz, hgz⟩ : ∃ g, g = wr.heap.size := ⟨_, rfl⟩
              rw [← hgz] at X7 G7 ⊢
              clear hgz
              rotate_left
              all_goals
                go_wp2_with (first
                  | (refine wpList_load_row rfl 33 (.tmp 14) rfl gz rfl 33 cs3 (0, 0) _ X7.out Try.underlying33 rfl (by rw [ZS3.out]; exact info33) ?_)
                  | (refine wpList_store_row rfl 33 (.tmp 6) _ rfl gx cs3 rfl rfl 33 cs4 Y7.out (by rw [ZS3.out]; exact info33) (by rw [ZS3.out]; exact ZSb.out) ZO3.out ?_)
                  | fail)
                refine ⟨⟨k + 1, cs3, by omega, by simp, ?_, setRow_heap _ _ _ _ _ _ Y7.out, C7.out.trans (Chg.of_grown (D := fun g => ¬ R2 g) (grown_row (w := V2) (N := gx) (cs := cs3)) (fun g e => by cases e; exact NRX.out)) (fun g h => .inl h), below_setRow B7.out (by have := NB.out; omega) _, Nat.le_trans L7.out (grown_row (w := V2) (N := gx) (cs := cs3)).size⟩, by simp [intOf]; omega⟩
                rw [HPL.out]
                exact H7.out.apart (grown_row (N := gx) (cs := cs3)) rfl
            · by_cases h8 : k < n'
              · have hk1 : (k : Int) < (n' : Int) := by omega
                have hk2 : ¬ (k : Int) < 60 := by omega
                have HZ2 : Hid (ST lo2 N' (fun _ => False) bf bf wr cs2) := Lib.hid (HL2.out wr HCR.out).to
                have YF := Lib.hid (HGY.out wr HCR.out)
                go_wp2_with (first
                  | (go_at_call 8; ((with_reducible refine (live_any _).mono ?_); rintro e w40 ⟨rfl, b40⟩; have B40 := Lib.hid (HBW.out.trans (b40.mono HBW.out.size)); have YF40 := Lib.hid (blk_bel b40 YF.out); have AL40 := Lib.hid (alike_any (HZ2.out.later b40)); clear b40))
                  | (refine wpList_gload_row (by rfl) (.tmp 9) rfl gy rfl cs2 YF40.out ZS2.out ?_)
                  | (go_at_call 11; ((with_reducible refine AL40.out.mono ?_); rintro e w41 ⟨rfl, b41⟩; have B41 := Lib.hid (B40.out.trans (b41.mono B40.out.size)); clear b41))
                  | fail)
                go_ret
                exact ⟨rfl, B41.out⟩
              · have hk1 : ¬ (k : Int) < (n' : Int) := by omega
                have HZ2 : Hid (ST lo2 N' (fun _ => False) bf bf wr cs2) := Lib.hid (HL2.out wr HCR.out).to
                have YF := Lib.hid (HGY.out wr HCR.out)
                go_wp2_with (first
                  | (go_at_call 8; ((with_reducible refine (live_any _).mono ?_); rintro e w40 ⟨rfl, b40⟩; have B40 := Lib.hid (HBW.out.trans (b40.mono HBW.out.size)); have YF40 := Lib.hid (blk_bel b40 YF.out); have AL40 := Lib.hid (alike_any (HZ2.out.later b40)); clear b40))
                  | (refine wpList_gload_row (by rfl) (.tmp 9) rfl gy rfl cs2 YF40.out ZS2.out ?_)
                  | (go_at_call 11; ((with_reducible refine AL40.out.mono ?_); rintro e w41 ⟨rfl, b41⟩; have B41 := Lib.hid (B40.out.trans (b41.mono B40.out.size)); clear b41))
                  | fail)
                go_ret
                exact ⟨rfl, B41.out⟩
end Go.Proofs.Ytpihoegikojlaaa
