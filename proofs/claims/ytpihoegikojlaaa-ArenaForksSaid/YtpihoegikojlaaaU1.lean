/- The law ArenaPlays. -/
import Derived.Test.YtpihoegikojlaaaS8
namespace Go.Proofs.Ytpihoegikojlaaa
set_option linter.unusedSimpArgs false
open Go.RowKit Go.Maps
set_option linter.unusedVariables false
variable {F : Nat → Prop}

theorem plays_no (A : Option Addr) (n cap : Nat) (M : Int) (w : World) (hss : M < 1 ∨ 4096 < M) :
    Calls Try.prog 3 #[.int .i64 M, .slice A n cap] w fun e w' => e = .returned (.bool true) ∧ Below w.heap.size w w' := by
  have NW := Lib.hid (pnew_no w M hss)
  rcases hss with h1 | h1
  · go_enter Try.func3, Try.ntmps3
    go_wp2_with (first
      | (go_at_call 7; ((with_reducible refine NW.out.mono ?_); rintro e w1 ⟨rfl, b1⟩; have B1 := Lib.hid b1; clear b1))
      | (go_at_call 8; ((with_reducible refine (live_any _).mono ?_); rintro e w2 ⟨rfl, b2⟩; have B2 := Lib.hid (B1.out.trans (b2.mono B1.out.size)); clear b2))
      | fail)
    go_ret
    exact ⟨rfl, B2.out⟩
  · have h2 : ¬ M < 1 := by omega
    go_enter Try.func3, Try.ntmps3
    go_wp2_with (first
      | (go_at_call 7; ((with_reducible refine NW.out.mono ?_); rintro e w1 ⟨rfl, b1⟩; have B1 := Lib.hid b1; clear b1))
      | (go_at_call 8; ((with_reducible refine (live_any _).mono ?_); rintro e w2 ⟨rfl, b2⟩; have B2 := Lib.hid (B1.out.trans (b2.mono B1.out.size)); clear b2))
      | fail)
    go_ret
    exact ⟨rfl, B2.out⟩
theorem new_left (w W : World) (M : Int) (h1 : 1 ≤ M) (h2 : M ≤ 4096) (hW : Below (w.alloc (.cells #[.int .i64 M, .slice none 0 0, .slice none 0 0] 61)).heap.size (w.alloc (.cells #[.int .i64 M, .slice none 0 0, .slice none 0 0] 61)) W) :
    Calls Try.prog 9 #[.pointer (some ⟨w.heap.size, 0, none⟩)] W fun e w' => e = .returned (.int .i64 M) ∧ Below W.heap.size W w' := by
  have h := (PA.new w M).later hW
  have C := leftI_at w.heap.size 0 0 0 0 M none none W h.c0 h.c1 h.c2 (by omega) (by omega) (by omega) (by omega)
  have e : M - (((0 : Nat) : Int) - ((0 : Nat) : Int)) = M := by omega
  rw [e] at C
  exact C
theorem plays_many (A : Option Addr) (n cap : Nat) (M : Int) (w : World) (h1 : ¬ M < 1) (h2 : ¬ 4096 < M) (h3 : 60 < M) :
    Calls Try.prog 3 #[.int .i64 M, .slice A n cap] w fun e w' => e = .returned (.bool true) ∧ Below w.heap.size w w' := by
  have NW := Lib.hid (newI_ok M w (by omega) (by omega))
  have hB : Below w.heap.size w (w.alloc (.cells #[.int .i64 M, .slice none 0 0, .slice none 0 0] 61)) := by go_grown
  have HB := Lib.hid hB
  have NL := Lib.hid (new_left w _ M (by omega) (by omega) (Below.refl _ _))
  clear hB
  go_enter Try.func3, Try.ntmps3
  go_wp2_with (first
    | (go_at_call 7; ((with_reducible refine NW.out.mono ?_); rintro e w1 ⟨rfl, rfl⟩))
    | (go_at_call 9; ((with_reducible refine NL.out.mono ?_); rintro e w2 ⟨rfl, b2⟩; have B2 := Lib.hid (HB.out.trans (b2.mono HB.out.size)); clear b2))
    | (go_at_call 8; ((with_reducible refine (live_any _).mono ?_); rintro e w3 ⟨rfl, b3⟩; have B3 := Lib.hid (B2.out.trans (b3.mono B2.out.size)); clear b3))
    | fail)
  go_ret
  exact ⟨rfl, B3.out⟩

theorem SB2 (w w1 : World) (M : Int) (h : 1 ≤ M) (h2 : M ≤ 60) (hb : Below (w.alloc (.cells #[.int .i64 M, .slice none 0 0, .slice none 0 0] 61)).heap.size (w.alloc (.cells #[.int .i64 M, .slice none 0 0, .slice none 0 0] 61)) w1) : ST w.heap.size w.heap.size (fun g => g = w1.heap.size) (newB M) (newB M) (W2 w1 (zbs M)) (zbs M) := by
  have h0 : ST w.heap.size w.heap.size (fun _ => False) (newB M) (newB M) w1 (zbs M) :=
    ⟨none, none, 0, 0, (PA.new w M).later hb, RBk.new _ _ _, IV.new M h h2, IV.new M h h2, fun g hg => hg.elim⟩
  refine h0.wide (W2.bel _ _) _ ?_
  rintro g e
  exact .inr ⟨by omega, by rw [W2.size]; omega⟩

set_option maxRecDepth 4000 in
set_option maxHeartbeats 2000000 in
theorem plays_yes (A : Option Addr) (n cap : Nat) (d0 d1 d2 : Nat → Int) (M : Int) (w : World) (h1 : ¬ M < 1) (h2 : ¬ 60 < M) (hD : Deeds w A n d0 d1 d2) (hn : n ≤ maxLen) :
    Calls Try.prog 3 #[.int .i64 M, .slice A n cap] w fun e w' => e = .returned (.bool true) ∧ Below w.heap.size w w' := by
  have hal := run_zb
  have HD := Lib.hid hD
  have NW := Lib.hid (newI_ok M w (by omega) (by omega))
  have h4096 : ¬ 4096 < M := by omega
  obtain ⟨V0, hV0⟩ : ∃ V, V = w.alloc (.cells #[.int .i64 M, .slice none 0 0, .slice none 0 0] 61) := ⟨_, rfl⟩
  have hB : Below w.heap.size w V0 := by rw [hV0]; go_grown
  have HB0 := Lib.hid hB
  have NL := Lib.hid (new_left w V0 M (by omega) (by omega) (by rw [hV0]; exact Below.refl _ _))
  have SB := Lib.hid (fun W1 hW => SB2 w W1 M (by omega) (by omega) hW)
  have hs0 : V0.heap.size = w.heap.size + 1 := by rw [hV0]; simp
  have HS0 := Lib.hid hs0
  rw [← hV0] at NW SB
  clear hD hB hs0 hV0
  go_enter Try.func3, Try.ntmps3
  go_wp2_with (first
    | (go_at_call 7; ((with_reducible refine NW.out.mono ?_); rintro e w1 ⟨rfl, rfl⟩))
    | (go_at_call 9; ((with_reducible refine NL.out.mono ?_); rintro e w1 ⟨rfl, b1⟩; have B1 := Lib.hid b1; have Z1 := Lib.hid (heap_alloc_new w1 (.cells zb 33)); clear b1))
    | (refine wpList_build rfl 33 _ rfl (by kernel_rfl) ?_; rw [show ((Try.prog.built 33 ((#[(0, _)] : Array (Nat × Operand)).map _).toList)) = some (zbs M) from built_zbs M]; rw [Option.getD_some])
    | (refine wpList_store_row rfl 33 _ _ rfl w1.heap.size (zbs M) rfl rfl 33 zb Z1.out (by kernel_rfl) (by kernel_rfl) (RBk.new (fun _ => False) w M).one ?_)
    | fail)
  change Code.wp _ _ _ _ (W2 w1 (zbs M))
  have HB : Hid (Below w.heap.size w (W2 w1 (zbs M))) := Lib.hid ((HB0.out.trans (B1.out.mono HB0.out.size)).trans ((W2.bel w1 (zbs M)).mono (by have := HB0.out.size; have := B1.out.size; omega)))
  have N1 : Hid (w.heap.size + 1 ≤ w1.heap.size) := Lib.hid (by have := B1.out.size; have := HS0.out; omega)
  have Y2 := Lib.hid (W2.x w1 (zbs M))
  have H2 : Hid (ST w.heap.size w.heap.size (fun g => g = w1.heap.size) (newB M) (newB M) (W2 w1 (zbs M)) (zbs M)) := Lib.hid (SB.out w1 B1.out)
  clear B1 Z1 NW NL SB
  generalize W2 w1 (zbs M) = W at *
  go_loopw [8, 9] (fun iv _ wr => ∃ (k : Nat) (cs : Array Value), k ≤ min n 80 ∧ iv = .int .i64 k ∧ ST w.heap.size w.heap.size (fun g => g = w1.heap.size) (playR d0 d1 d2 (newB M) k) (playR d0 d1 d2 (newB M) k) wr cs ∧ wr.heap[w1.heap.size]? = some (.cells cs 33 (0, 0)) ∧ Below w.heap.size w wr) (fun i _ _ => 80 - (intOf i).toNat)
  case atStart => exact ⟨0, zbs M, by omega, rfl, H2.out, Y2.out, HB.out⟩
  case round =>
    obtain ⟨k, cs, hk, rfl, hst, hy, hb⟩ := hrel
    have HST := Lib.hid hst
    have HY := Lib.hid hy
    have HBR := Lib.hid hb
    clear hst hy hb H2 Y2 HB
    by_cases h8 : k < n
    · have hk1 : (k : Int) < (n : Int) := by omega
      have hk0 : (0 : Int) ≤ (k : Int) := by omega
      by_cases h9 : k < 80
      · have hk2 : (k : Int) < 80 := by omega
        obtain ⟨b, off, rfl, hlt, ⟨c0, c1, c2⟩, _, w1f, w2f⟩ := (HD.out.low HBR.out).at_ h8
        obtain ⟨x0, hx0⟩ : ∃ x, x = d0 k := ⟨_, rfl⟩
        obtain ⟨x1, hx1⟩ : ∃ x, x = d1 k := ⟨_, rfl⟩
        obtain ⟨x2, hx2⟩ : ∃ x, x = d2 k := ⟨_, rfl⟩
        rw [← hx0] at c0
        rw [← hx1] at c1 w1f
        rw [← hx2] at c2 w2f
        have HPL : Hid (playR d0 d1 d2 (newB M) (k + 1) = stepA (playR d0 d1 d2 (newB M) k) x0 x1 x2) := Lib.hid (by rw [hx0, hx1, hx2]; rfl)
        clear hx0 hx1 hx2
        have C0 := Lib.hid c0
        have C1 := Lib.hid c1
        have C2 := Lib.hid c2
        have hbb : b < w.heap.size := by
          rcases HD.out with h | ⟨b', off', e, h, _⟩
          · omega
          · cases e; exact h
        have HLT := Lib.hid hbb
        have ZS := Lib.hid HST.out.size
        have CS := Lib.hid (step_any (HST.out.later (drew_bel wr)) (by show w.heap.size ≤ wr.heap.size; exact HBR.out.size) x0 x1 x2)
        clear c0 c1 c2 hlt w1f w2f hbb
        go_wp2_with fail
        refine wp_region_held_drew (S := (fun V => V.cell? ⟨b, off + k * 3, none⟩ = some (.int .i64 x0) ∧ V.cell? ⟨b, off + k * 3 + 1, none⟩ = some (.int .i64 x1) ∧ V.cell? ⟨b, off + k * 3 + 2, none⟩ = some (.int .i64 x2))) (by kernel_rfl) ?_ (fun hHeld => ?_)
        · exact ⟨C0.out, C1.out, C2.out⟩
        refine wpAnyH_take (i := 0) (oi := { dst := some 58, op := Op.move (Operand.tmp 5), type := 23, pos := "law.go:96", after := #[], guard := none }) (v := ?_) rfl (by kernel_rfl) (by kernel_rfl) (by kernel_rfl) (fun _ _ _ h => h) (Or.inl ⟨by rfl, ?_⟩) hHeld ?_
        rotate_left
        · intro w hSw; clear hSw; go_simp; try with_reducible rfl
        try simp only [Act.put, List.setIfInBounds_toArray, List.set_cons_zero, List.set_cons_succ]
        refine wpAnyH_take (i := 2) (oi := { dst := some 60, op := Op.move (Operand.tmp 1), type := 22, pos := "law.go:96", after := #[], guard := none }) (v := ?_) rfl (by kernel_rfl) (by kernel_rfl) (by kernel_rfl) (fun _ _ _ h => h) (Or.inl ⟨by rfl, ?_⟩) hHeld ?_
        rotate_left
        · intro w hSw; clear hSw; go_simp; try with_reducible rfl
        try simp only [Act.put, List.setIfInBounds_toArray, List.set_cons_zero, List.set_cons_succ]
        refine wpAnyH_take (i := 3) (oi := { dst := some 61, op := Op.move (Operand.tmp 8), type := 3, pos := "law.go:96", after := #[], guard := none }) (v := ?_) rfl (by kernel_rfl) (by kernel_rfl) (by kernel_rfl) (fun _ _ _ h => h) (Or.inl ⟨by rfl, ?_⟩) hHeld ?_
        rotate_left
        · intro w hSw; clear hSw; go_simp; try with_reducible rfl
        try simp only [Act.put, List.setIfInBounds_toArray, List.set_cons_zero, List.set_cons_succ]
        refine wpAnyH_take (i := 4) (oi := { dst := some 62, op := Op.indexAddr 22 (Operand.tmp 60) (Operand.tmp 61), type := 0, pos := "law.go:96", after := #[{ on := 2, ground := Ground.data }, { on := 3, ground := Ground.data }], guard := none }) (v := ?_) rfl (by kernel_rfl) (by kernel_rfl) (by kernel_rfl) (fun _ _ _ h => h) (Or.inl ⟨by rfl, ?_⟩) hHeld ?_
        rotate_left
        · intro w hSw; clear hSw; go_simp; try with_reducible rfl
        try simp only [Act.put, List.setIfInBounds_toArray, List.set_cons_zero, List.set_cons_succ]
        refine wpAnyH_take (i := 5) (oi := { dst := some 63, op := Op.load 37 (Operand.tmp 62), type := 37, pos := "law.go:96", after := #[{ on := 4, ground := Ground.data }], guard := none }) (v := Value.agg #[.int .i64 x0, .int .i64 x1, .int .i64 x2]) rfl (by kernel_rfl) (by kernel_rfl) (by kernel_rfl) (fun _ _ _ h => h) (Or.inl ⟨by rfl, ?_⟩) hHeld ?_
        · intro V hV; have hc0 := hV.1; have hc1 := hV.2.1; have hc2 := hV.2.2; clear hV; go_simp
        try simp only [Act.put, List.setIfInBounds_toArray, List.set_cons_zero, List.set_cons_succ]
        refine wpAnyH_ready (rs := [1]) (by kernel_rfl) (by simp) ?_
        refine AllReadyH.cons (o := { dst := some 59, op := Op.load 33 (Operand.tmp 7), type := 33, pos := "law.go:96", after := #[], guard := none }) rfl (fun K hK => ?_) AllReadyH.nil
        rw [if_pos (by rfl)]
        refine wp_load_row 33 (.tmp 7) rfl w1.heap.size rfl 33 cs (0, 0) _ HY.out Try.underlying33 rfl (by rw [ZS.out]; exact info33) ?_
        refine hK.out _ _ ?_ (fun hHeld => ?_)
        · exact hHeld
        clear hK K
        try simp only [Act.put, List.setIfInBounds_toArray, List.set_cons_zero, List.set_cons_succ]
        refine wpAnyH_ready (rs := [6]) (by kernel_rfl) (by simp) ?_
        refine AllReadyH.cons (o := { dst := some 64, op := Op.call { callee := Callee.value (Operand.func 10), args := #[Operand.tmp 58, Operand.tmp 59, Operand.tmp 63], argTypes := #[23, 33, 37] }, type := 34, pos := "law.go:96", after := #[{ on := 0, ground := Ground.data }, { on := 1, ground := Ground.data }, { on := 5, ground := Ground.data }], guard := none }) rfl (fun K hK => ?_) AllReadyH.nil
        go_simp
        go_at_call 10; ((with_reducible refine (CS.out).mono ?_); rintro e w2 ⟨cs', rfl, h2, b2, k2⟩; have H2 := Lib.hid h2; have B2 := Lib.hid b2; have HY2 := Lib.hid ((k2 _ rfl).trans HY.out); have ZS2 := Lib.hid h2.size; have ZO2 := Lib.hid h2.one; have CC := Lib.hid (And.intro ((bel_cell b2 (by have := HLT.out; omega)).trans C0.out) (And.intro ((bel_cell b2 (by have := HLT.out; omega)).trans C1.out) ((bel_cell b2 (by have := HLT.out; omega)).trans C2.out))); clear h2 b2 k2)
        try go_wp2_with fail
        refine hK.out _ _ ?_ (fun hHeld => ?_)
        · exact CC.out
        clear hK K
        try simp only [Act.put, List.setIfInBounds_toArray, List.set_cons_zero, List.set_cons_succ]
        refine wpAnyH_take (i := 7) (oi := { dst := some 57, op := Op.move (Operand.tmp 64), type := 34, pos := "law.go:96", after := #[{ on := 6, ground := Ground.data }], guard := none }) (v := ?_) rfl (by kernel_rfl) (by kernel_rfl) (by kernel_rfl) (fun _ _ _ h => h) (Or.inl ⟨by rfl, ?_⟩) hHeld ?_
        rotate_left
        · intro w hSw; clear hSw; go_simp; try with_reducible rfl
        try simp only [Act.put, List.setIfInBounds_toArray, List.set_cons_zero, List.set_cons_succ]
        refine wpAnyH_take (i := 8) (oi := { dst := some 65, op := Op.extract (Operand.tmp 57) 0, type := 33, pos := "law.go:96", after := #[{ on := 7, ground := Ground.data }], guard := none }) (v := ?_) rfl (by kernel_rfl) (by kernel_rfl) (by kernel_rfl) (fun _ _ _ h => h) (Or.inl ⟨by rfl, ?_⟩) hHeld ?_
        rotate_left
        · intro w hSw; clear hSw; go_simp; try with_reducible rfl
        try simp only [Act.put, List.setIfInBounds_toArray, List.set_cons_zero, List.set_cons_succ]
        refine wpAnyH_take (i := 9) (oi := { dst := some 66, op := Op.extract (Operand.tmp 57) 1, type := 4, pos := "law.go:96", after := #[{ on := 7, ground := Ground.data }, { on := 10, ground := Ground.gcOnly Departure.lateStores }], guard := none }) (v := ?_) rfl (by kernel_rfl) (by kernel_rfl) (by kernel_rfl) (fun _ _ _ h => h) (Or.inl ⟨by rfl, ?_⟩) hHeld ?_
        rotate_left
        · intro w hSw; clear hSw; go_simp; try with_reducible rfl
        try simp only [Act.put, List.setIfInBounds_toArray, List.set_cons_zero, List.set_cons_succ]
        refine wpAnyH_ready (rs := [10]) (by kernel_rfl) (by simp) ?_
        refine AllReadyH.cons (o := { dst := none, op := Op.store 33 (Operand.tmp 7) (Operand.tmp 65), type := 0, pos := "law.go:96", after := #[{ on := 8, ground := Ground.data }, { on := 6, ground := Ground.chain }, { on := 0, ground := Ground.phase }, { on := 1, ground := Ground.phase }, { on := 2, ground := Ground.phase }, { on := 3, ground := Ground.phase }, { on := 4, ground := Ground.phase }, { on := 5, ground := Ground.phase }, { on := 6, ground := Ground.phase }, { on := 7, ground := Ground.phase }, { on := 8, ground := Ground.phase }, { on := 9, ground := Ground.textOnly Departure.lateStores }], guard := none }) rfl (fun K hK => ?_) AllReadyH.nil
        rw [if_pos (by rfl)]
        refine wp_store_row 33 (.tmp 7) (.tmp 65) rfl w1.heap.size cs' rfl rfl 33 cs HY2.out (by rw [ZS2.out]; exact info33) (by rw [ZS2.out]; exact ZS.out) ZO2.out ?_
        refine hK.out _ _ ?_ (fun hHeld => ?_)
        · exact ⟨(cell_setRow (by have := HLT.out; have := N1.out; omega)).trans CC.out.1, (cell_setRow (by have := HLT.out; have := N1.out; omega)).trans CC.out.2.1, (cell_setRow (by have := HLT.out; have := N1.out; omega)).trans CC.out.2.2⟩
        clear hK K
        try simp only [Act.put, List.setIfInBounds_toArray, List.set_cons_zero, List.set_cons_succ]
        refine wpAnyH_take (i := 11) (oi := { dst := some 9, op := Op.assign (Operand.tmp 66), type := 4, pos := "law.go:96", after := #[{ on := 9, ground := Ground.data }, { on := 10, ground := Ground.chain }, { on := 0, ground := Ground.phase }, { on := 1, ground := Ground.phase }, { on := 2, ground := Ground.phase }, { on := 3, ground := Ground.phase }, { on := 4, ground := Ground.phase }, { on := 5, ground := Ground.phase }, { on := 6, ground := Ground.phase }, { on := 7, ground := Ground.phase }, { on := 8, ground := Ground.phase }, { on := 9, ground := Ground.phase }, { on := 10, ground := Ground.phase }], guard := none }) (v := ?_) rfl (by kernel_rfl) (by kernel_rfl) (by kernel_rfl) (fun _ _ _ h => h) (Or.inl ⟨by rfl, ?_⟩) hHeld ?_
        rotate_left
        · intro w hSw; clear hSw; go_simp; try with_reducible rfl
        try simp only [Act.put, List.setIfInBounds_toArray, List.set_cons_zero, List.set_cons_succ]
        refine wpAnyH_done (by kernel_rfl) ?_ _
        have HG := Lib.hid (grown_row (w := w2) (N := w1.heap.size) (cs := cs'))
        have H4 := Lib.hid (H2.out.apart HG.out rfl)
        have HY4 := Lib.hid (setRow_heap _ _ _ cs' _ _ HY2.out)
        have B4 : Hid (Below w.heap.size w (w2.setRow w1.heap.size cs')) := Lib.hid (below_setRow (HBR.out.trans ((drew_bel wr).mono HBR.out.size |>.trans B2.out)) (by have := N1.out; omega) _)
        clear HG H2 B2 HY2
        generalize w2.setRow w1.heap.size cs' = V at *
        have AL := Lib.hid (alike_any H4.out)
        go_wp2_with (first
          | (refine wpList_gload_row (by rfl) (.tmp 7) rfl w1.heap.size rfl cs' HY4.out ZS2.out ?_)
          | (go_at_call 11; ((with_reducible refine AL.out.mono ?_); rintro e w3 ⟨rfl, b3⟩; have B3 := Lib.hid b3; clear b3))
          | fail)
        refine ⟨⟨k + 1, cs', by omega, by simp, ?_, blk_bel B3.out HY4.out, B4.out.trans (B3.out.mono B4.out.size)⟩, by simp [intOf]; omega⟩
        rw [HPL.out]
        exact H4.out.later B3.out
      · have hk2 : ¬ (k : Int) < 80 := by omega
        go_wp2_with (first
          | (go_at_call 8; ((with_reducible refine (live_any _).mono ?_); rintro e w2 ⟨rfl, b2⟩; have B2 := Lib.hid (HBR.out.trans (b2.mono HBR.out.size)); clear b2))
          | fail)
        go_ret
        exact ⟨rfl, B2.out⟩
    · have hk1 : ¬ (k : Int) < (n : Int) := by omega
      go_wp2_with (first
        | (go_at_call 8; ((with_reducible refine (live_any _).mono ?_); rintro e w2 ⟨rfl, b2⟩; have B2 := Lib.hid (HBR.out.trans (b2.mono HBR.out.size)); clear b2))
        | fail)
      go_ret
      exact ⟨rfl, B2.out⟩
theorem plays_walk (A : Option Addr) (n cap : Nat) (d0 d1 d2 : Nat → Int) (M : Int) (w : World) (hD : Deeds w A n d0 d1 d2) (hn : n ≤ maxLen) :
    Calls Try.prog 3 #[.int .i64 M, .slice A n cap] w fun e w' => e = .returned (.bool true) ∧ Below w.heap.size w w' := by
  by_cases h1 : M < 1
  · exact plays_no A n cap M w (.inl h1)
  · by_cases h2 : 4096 < M
    · exact plays_no A n cap M w (.inr h2)
    · by_cases h3 : 60 < M
      · exact plays_many A n cap M w h1 h2 h3
      · exact plays_yes A n cap d0 d1 d2 M w h1 h3 hD hn
end Go.Proofs.Ytpihoegikojlaaa
