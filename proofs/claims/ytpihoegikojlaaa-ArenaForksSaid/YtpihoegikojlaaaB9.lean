/- The document's Many, where enough is left. -/
import Derived.Test.YtpihoegikojlaaaB8
namespace Go.Proofs.Ytpihoegikojlaaa
set_option linter.unusedSimpArgs false
open Go.RowKit Go.Maps
set_option linter.unusedVariables false
variable {F : Nat → Prop}

set_option maxRecDepth 4000 in
set_option maxHeartbeats 2000000 in
theorem dmany_yes (cs : Array Value) (b : AB) (n : Nat) (v : Int) (w : World) (hk : RBk F w cs b) (iv : IV b) (hF : Hid (∀ g, F g → g < w.heap.size)) (hf : ¬ b.most - cnt b.tk 64 < (n : Int)) :
    Calls Try.prog 25 #[.agg cs, .int .i64 n, .int .i64 v] w (LPost F w (manyA b v n) (manyL b v n) 0) := by
  have hal := run_zb
  have CL := Lib.hid (fun V (hV : RBk F V cs b) => dlen_any cs b V hV)
  have HK := Lib.hid hk
  have IVH := Lib.hid iv
  have m0 := iv.m0
  have m1 := iv.m1
  have hcl := cnt_le b.tk 64
  clear hk iv
  have HH := Lib.hid (W3.x0 w cs)
  have HZ := Lib.hid (W3.x1 w cs)
  have HW := Lib.hid (W3.bel w cs)
  have HWS := Lib.hid (W3.size w cs)
  obtain ⟨q, hq⟩ : ∃ q : Int, q = (cnt b.tk 64 : Int) := ⟨_, rfl⟩
  rw [← hq] at hf CL
  have hq0 : 0 ≤ q := by omega
  have hq1 : q ≤ 64 := by omega
  have HQE := Lib.hid hq
  have hwr : IntKind.i64.wrap (b.most - q) = b.most - q := IntWalk.i64_in _ (by omega)
  clear hq hcl
  have hn : ¬ (n : Int) < 0 := by omega
  go_enter Try.func25, Try.ntmps25
  go_wp2_with fail
  change Code.wp _ _ _ _ (W3 w cs)
  generalize W3 w cs = W0 at *
  have HKW := Lib.hid (HK.out.later (HW.out.trans ((drew_bel W0).mono HW.out.size)))
  refine wp_region_held_drew (S := (fun V => V.heap[w.heap.size]? = some (.cells cs 33 (0, 0)))) (by kernel_rfl) ?_ (fun hHeld => ?_)
  · exact HH.out
  refine wpAnyH_take (i := 0) (oi := { dst := some 19, op := Op.move (Operand.tmp 1), type := 3, pos := "ref.go:49", after := #[], guard := none }) (v := ?_) rfl (by kernel_rfl) (by kernel_rfl) (by kernel_rfl) (fun _ _ _ h => h) (Or.inl ⟨by rfl, ?_⟩) hHeld ?_
  rotate_left
  · intro w hSw; clear hSw; go_simp; try with_reducible rfl
  try simp only [Act.put, List.setIfInBounds_toArray, List.set_cons_zero, List.set_cons_succ]
  refine wpAnyH_take (i := 1) (oi := { dst := some 20, op := Op.fieldAddr 33 (Operand.tmp 3) 0, type := 0, pos := "ref.go:49", after := #[], guard := none }) (v := ?_) rfl (by kernel_rfl) (by kernel_rfl) (by kernel_rfl) (fun _ _ _ h => h) (Or.inl ⟨by rfl, ?_⟩) hHeld ?_
  rotate_left
  · intro w hSw; clear hSw; go_simp; try with_reducible rfl
  try simp only [Act.put, List.setIfInBounds_toArray, List.set_cons_zero, List.set_cons_succ]
  refine wpAnyH_take (i := 2) (oi := { dst := some 21, op := Op.load 3 (Operand.tmp 20), type := 3, pos := "ref.go:49", after := #[{ on := 1, ground := Ground.data }], guard := none }) (v := Value.int .i64 b.most) rfl (by kernel_rfl) (by kernel_rfl) (by kernel_rfl) (fun _ _ _ h => h) (Or.inl ⟨by rfl, ?_⟩) hHeld ?_
  · intro V hV; have hc0 := (cell_of_row _ _ 0 _ _ _ hV).trans HK.out.c0; clear hV; go_simp
  try simp only [Act.put, List.setIfInBounds_toArray, List.set_cons_zero, List.set_cons_succ]
  refine wpAnyH_take (i := 3) (oi := { dst := some 22, op := Op.load 33 (Operand.tmp 3), type := 33, pos := "ref.go:49", after := #[], guard := none }) (v := Value.agg cs) rfl (by kernel_rfl) (by kernel_rfl) (by kernel_rfl) (fun _ _ _ h => h) (Or.inl ⟨by rfl, fun V hV => ex_load_row (.tmp 3) rfl w.heap.size rfl cs hV HK.out.size⟩) hHeld ?_
  try simp only [Act.put, List.setIfInBounds_toArray, List.set_cons_zero, List.set_cons_succ]
  refine wpAnyH_ready (rs := [4]) (by kernel_rfl) (by simp) ?_
  refine AllReadyH.cons (o := { dst := some 23, op := Op.call { callee := Callee.value (Operand.func 31), args := #[Operand.tmp 22], argTypes := #[33] }, type := 3, pos := "ref.go:49", after := #[{ on := 3, ground := Ground.data }], guard := none }) rfl (fun K hK => ?_) AllReadyH.nil
  go_simp
  go_at_call 31; ((with_reducible refine (CL.out _ HKW.out).mono ?_); rintro e w1 ⟨rfl, hb0⟩; have hb := (drew_bel W0).trans (hb0.mono (Nat.le_refl _)); have HB := Lib.hid hb; have HN := Lib.hid (blk_bel hb HH.out); have hM := Lib.hid (blk_bel hb HZ.out); have HBE : Hid (Below w.heap.size w w1) := Lib.hid (HW.out.trans (hb.mono HW.out.size)); have HS1 : Hid (w.heap.size + 3 ≤ w1.heap.size) := Lib.hid (by have := hb.size; have := HWS.out; omega); clear hb hb0)
  try go_wp2_with fail
  refine hK.out _ _ ?_ (fun hHeld => ?_)
  · exact HN.out
  clear hK K
  try simp only [Act.put, List.setIfInBounds_toArray, List.set_cons_zero, List.set_cons_succ]
  refine wpAnyH_take (i := 5) (oi := { dst := some 24, op := Op.binOp BinOp.sub 3 (Operand.tmp 21) (Operand.tmp 23) 3, type := 3, pos := "ref.go:49", after := #[{ on := 2, ground := Ground.data }, { on := 4, ground := Ground.data }], guard := none }) (v := ?_) rfl (by kernel_rfl) (by kernel_rfl) (by kernel_rfl) (fun _ _ _ h => h) (Or.inl ⟨by rfl, ?_⟩) hHeld ?_
  rotate_left
  · intro w hSw; clear hSw; go_simp; try with_reducible rfl
  try simp only [Act.put, List.setIfInBounds_toArray, List.set_cons_zero, List.set_cons_succ]
  refine wpAnyH_take (i := 6) (oi := { dst := some 25, op := Op.binOp BinOp.gtr 3 (Operand.tmp 19) (Operand.tmp 24) 3, type := 4, pos := "ref.go:49", after := #[{ on := 0, ground := Ground.data }, { on := 5, ground := Ground.data }], guard := none }) (v := ?_) rfl (by kernel_rfl) (by kernel_rfl) (by kernel_rfl) (fun _ _ _ h => h) (Or.inl ⟨by rfl, ?_⟩) hHeld ?_
  rotate_left
  · intro w hSw; clear hSw; go_simp; try with_reducible rfl
  try simp only [Act.put, List.setIfInBounds_toArray, List.set_cons_zero, List.set_cons_succ]
  refine wpAnyH_done (by kernel_rfl) ?_ _
  have hn60 : n ≤ 60 := by omega
  have HQ : Hid ((n : Int) ≤ b.most - cnt b.tk 64) := Lib.hid (by rw [← HQE.out]; omega)
  go_wp2_with fail
  go_loopw [9, 10] (fun v9 v10 W => ∃ (k : Nat) (B : Option Addr) (cB : Nat) (csk : Array Value), k ≤ n ∧ v10 = .int .i64 k ∧ v9 = .slice B k cB ∧ Row W (w.heap.size + 2) B (manyL b v k) cB ∧ W.heap[w.heap.size]? = some (.cells csk 33 (0, 0)) ∧ W.heap[w.heap.size + 1]? = some (.cells zb 33 (0, 0)) ∧ RBk (FM F w.heap.size B cB) W csk (manyA b v k) ∧ Below w.heap.size w W ∧ w.heap.size + 3 ≤ W.heap.size) (fun _ i _ => n - (intOf i).toNat)
  case atStart =>
    refine ⟨0, some ⟨w.heap.size + 1 + 1, 0, none⟩, 0, cs, by omega, rfl, rfl, .inl ⟨rfl, rfl⟩, HN.out, hM.out, HK.out.chg (Chg.of_below (D := F) HBE.out) ?_, HBE.out, HS1.out⟩
    rintro g (e | e | e | e)
    · exact .inl e
    · exact .inr (by omega)
    · exact .inr (by omega)
    · simp [fpr] at e
  case round =>
    obtain ⟨k, B, cB, csk, hk, rfl, rfl, hR, hN2, hM2, hRB, hBel, hS2⟩ := hrel
    have HR := Lib.hid hR
    have HN2 := Lib.hid hN2
    have HM2 := Lib.hid hM2
    have HRB := Lib.hid hRB
    have HBel := Lib.hid hBel
    have HS2 := Lib.hid hS2
    clear hR hN2 hM2 hRB hBel hS2
    by_cases h8 : k = n
    · have hkn : ¬ (k : Int) < (n : Int) := by omega
      have HKN := Lib.hid h8
      clear h8
      go_wp2_with (first
        | (refine wpList_load_row rfl 33 (.tmp 3) rfl w.heap.size rfl 33 csk (0, 0) _ HN2.out Try.underlying33 rfl (by rw [HRB.out.size]; exact info33) ?_)
        | (refine wpList_store_row rfl 33 (.tmp 6) (.tmp 45) rfl (w.heap.size + 1) csk rfl rfl 33 zb HM2.out (by rw [HRB.out.size]; exact info33) (by rw [HRB.out.size]; exact zb_size) HRB.out.one ?_; obtain ⟨WF, hWF⟩ : ∃ WF, WF = wr.setRow (w.heap.size + 1) csk := ⟨_, rfl⟩; rw [← hWF]; have HWF := Lib.hid hWF; clear hWF)
        | fail)
      have hbF : Below w.heap.size w WF := by rw [HWF.out]; exact below_setRow HBel.out (by omega) _
      have hcF : Chg (fun g => g = w.heap.size + 1) wr WF := by rw [HWF.out]; exact Chg.of_grown grown_row (fun g hg => by cases hg; rfl)
      have hRF := HR.out.chg hcF (fun g hg e => by have := (HR.out.fp_lt hg).1; omega)
      have hBF := HRB.out.chg (hcF.more (G := FM F w.heap.size B cB) (fun g hg => .inl (.inr (.inr (.inl hg))))) (F' := F) (fun g hg => .inl (.inl hg))
      rw [HKN.out] at hRF hBF
      exact book_back3 rfl rfl rfl rfl (by rw [HWF.out]; exact setRow_heap _ _ _ _ _ _ HM2.out) HRB.out.size ⟨csk, B, k, cB, rfl, by rw [manyL_len]; exact HKN.out.symm, hBF, hRF.rd, hbF⟩ rfl
    · have hkn : (k : Int) < (n : Int) := by omega
      have hk0 : (0 : Int) ≤ (k : Int) := by omega
      have CT := dtake_any v HRB.out (IVH.out.many v k) (Lib.hid (by
        rintro g (e | e | e | e)
        · have := hF.out g e; have := HBel.out.size; omega
        · have := HS2.out; omega
        · have := HS2.out; omega
        · exact (HR.out.fp_lt e).2))
      have CTH := Lib.hid CT
      have HRL := Lib.hid (manyL_len b v k)
      clear CT h8
      go_wp2_with (first
        | (refine wpList_load_row rfl 33 (.tmp 3) rfl w.heap.size rfl 33 csk (0, 0) _ HN2.out Try.underlying33 rfl (by rw [HRB.out.size]; exact info33) ?_)
        | (go_at_call 23; ((with_reducible refine CTH.out.mono ?_); rintro e w2 ⟨cs1, rfl, h1, b1⟩; have H1 := Lib.hid h1; have B1 := Lib.hid b1; have Z1 := Lib.hid (heap_alloc_new w2 (.cells zb 33)); clear h1 b1))
        | (refine wpList_store_row rfl 33 (.tmp 11) (.tmp 37) rfl w2.heap.size cs1 rfl rfl 33 zb Z1.out (by rw [H1.out.size]; exact info33) (by rw [H1.out.size]; exact zb_size) H1.out.one ?_; have Y1 := Lib.hid (W2.x w2 cs1); have N2 := Lib.hid (blk_bel (W2.bel w2 cs1) (blk_bel B1.out HN2.out)))
        | (refine wpList_load_row rfl 33 (.tmp 11) rfl w2.heap.size rfl 33 cs1 (0, 0) _ Y1.out Try.underlying33 rfl (by rw [H1.out.size]; exact info33) ?_)
        | (refine wpList_store_row rfl 33 (.tmp 3) (.tmp 40) rfl w.heap.size cs1 rfl rfl 33 csk N2.out (by rw [H1.out.size]; exact info33) (by rw [H1.out.size, HRB.out.size]) H1.out.one ?_; obtain ⟨V, hV⟩ : ∃ V, V = (W2 w2 cs1).setRow w.heap.size cs1 := ⟨_, rfl⟩; have hV' := hV; unfold W2 at hV'; rw [← hV']; have HV := Lib.hid hV; clear hV hV'; have C1 : Hid (Chg (fun g => g = w.heap.size) w2 V) := Lib.hid (by rw [HV.out]; exact (Chg.of_below (W2.bel w2 cs1)).trans (Chg.of_grown grown_row (fun g hg => (by cases hg; rfl) : ∀ g, some w.heap.size = some g → g = w.heap.size)) (fun g hg => .inl hg)); have R1 := Lib.hid ((HR.out.bel B1.out).chg C1.out (fun g hg e => by have := (HR.out.fp_lt hg).1; omega)); have WA : Hid (Below V.heap.size V (V.alloc (.cells #[.int .i64 (takeI (manyA b v k))] 3))) := Lib.hid (by go_grown); have HL : Hid (RdI (V.alloc (.cells #[.int .i64 (takeI (manyA b v k))] 3)) (some ⟨V.heap.size, 0, none⟩) [takeI (manyA b v k)]) := Lib.hid (rdi_lit V 3 [takeI (manyA b v k)]); have HSV : Hid (w.heap.size + 3 ≤ V.heap.size) := Lib.hid (by have := C1.out.size; have := B1.out.size; have := HS2.out; omega))
        | (at_builtin; refine wpList_put_row _ rfl (.tmp 41) (.tmp 43) rfl (base := w.heap.size + 2) B k cB (manyL b v k) (some ⟨V.heap.size, 0, none⟩) 1 1 [takeI (manyA b v k)] rfl rfl (R1.out.bel WA.out) HRL.out (by omega) (by have := WA.out.size; have := HSV.out; omega) rfl (by omega) HL.out ?_; intro B3 c3 w3 r1 r2 r3; have T1 := Lib.hid r1; have T2 := Lib.hid r2; have T3 := Lib.hid r3; clear r1 r2 r3)
        | fail)
      have hsz := WA.out.size
      have hsv := HSV.out
      have hB3 : fpr B3 c3 = none ∨ fpr B3 c3 = fpr B cB ∨ fpr B3 c3 = some (V.heap.size + 1) := by
        have h := T3.out
        rw [World.size_alloc] at h
        first | exact h | (rcases h with h | h | h; exact .inl h; exact .inr (.inl h); exact .inr (.inr h))
      have hlt2 := C1.out.size
      have nB : ∀ g, g < w.heap.size + 2 → some g ≠ fpr B cB := fun g hg e => by have := (HR.out.fp_lt e.symm).1; omega
      have N3 : w3.heap[w.heap.size]? = some (.cells cs1 33 (0, 0)) := by
        refine (T2.out.block _ (by omega) (nB _ (by omega))).trans ((WA.out.block _ (by omega)).trans ?_)
        rw [HV.out]; exact setRow_heap _ _ _ _ _ _ (blk_bel (W2.bel w2 cs1) (blk_bel B1.out HN2.out))
      have M3 : w3.heap[w.heap.size + 1]? = some (.cells zb 33 (0, 0)) := by
        refine (T2.out.block _ (by omega) (nB _ (by omega))).trans ((WA.out.block _ (by omega)).trans ?_)
        rw [HV.out]; exact (setRow_other _ _ _ _ (by omega)).trans (blk_bel (W2.bel w2 cs1) (blk_bel B1.out HM2.out))
      have hc1 : Chg (FM F w.heap.size B cB) w2 w3 := ((C1.out.more (G := FM F w.heap.size B cB) (fun g hg => .inl (.inr (.inl hg)))).trans (Chg.of_below (D := FM F w.heap.size B cB) WA.out) (fun g hg => .inl hg)).trans (Chg.of_grown (D := FM F w.heap.size B cB) T2.out (fun g hg => .inr (.inr (.inr hg)))) (fun g hg => .inl hg)
      have hb3 : Below w.heap.size w w3 := by
        have a1 := HBel.out.trans (B1.out.mono HBel.out.size)
        have a2 : Below w.heap.size w2 w3 := (((C1.out.more (G := fun g => w.heap.size ≤ g) (fun g hg => .inl (by omega))).trans (Chg.of_below (D := fun g => w.heap.size ≤ g) WA.out) (fun g hg => .inl hg)).trans (Chg.of_grown (D := fun g => w.heap.size ≤ g) T2.out (fun g hg => by have := (HR.out.fp_lt hg).1; omega)) (fun g hg => .inl hg)).below (fun g hg => hg) a1.size
        exact a1.trans a2
      refine ⟨⟨k + 1, B3, c3, cs1, by omega, by simp, rfl, T1.out, N3, M3, H1.out.chg hc1 ?_, hb3, by have := T2.out.size; omega⟩, by simp [intOf]; omega⟩
      rintro g (e | e | e | e)
      · exact .inl (.inl e)
      · exact .inl (.inr (.inl e))
      · exact .inl (.inr (.inr (.inl e)))
      · rcases hB3 with x | x | x
        · rw [x] at e; cases e
        · rw [x] at e; exact .inl (.inr (.inr (.inr e)))
        · rw [x] at e; cases e; exact .inr (by omega)
end Go.Proofs.Ytpihoegikojlaaa
