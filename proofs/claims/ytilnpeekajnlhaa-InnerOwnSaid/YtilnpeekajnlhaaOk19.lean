/- The stable sort of two that stand in order; Add of one and one. -/
import Derived.Test.YtilnpeekajnlhaaOk18
set_option linter.unusedVariables false
set_option linter.unusedSimpArgs false
namespace Go.Proofs.Ytilnpeekajnlhaa
open Go.RowKit Go.Maps
abbrev OF : Value := .func (.func 82) #[] #[]
set_option maxRecDepth 100000 in
set_option maxHeartbeats 8000000 in
theorem ins_two (A : Option Addr) (c : Nat) (x y : MG) (w : World) (hA : EG.Rd w A [x, y]) (ho : ¬ ordM y x < 0) :
    Calls Try.prog 123 #[.slice A 2 c, .int .i64 0, .int .i64 2, OF] w fun r w' => r = .returned (.tuple #[]) ∧ Below w.heap.size w w' := by
  have HA := Lib.hid hA
  obtain ⟨b, off, rfl, hlt, x0, x1, x2, x3, x4, x5⟩ := eg_at hA (i := 0) rfl
  clear hA hlt x0 x1 x2 x3 x4 x5
  have AO := Lib.hid (order_any y x)
  obtain ⟨o, hoo⟩ : ∃ o, o = ordM y x := ⟨_, rfl⟩
  rw [← hoo] at AO ho
  clear hoo
  have wz : IntKind.i64.wrap (0 : Int) = 0 := IntWalk.i64_in _ (by omega)
  go_enter Try.func123, Try.ntmps123
  go_wp2
  go_loopw [8] (fun iv wr => (iv = .int .i64 1 ∨ iv = .int .i64 2) ∧ Below w.heap.size w wr) (fun i _ => 2 - (intOf i).toNat)
  case atStart => exact ⟨.inl (by simp), Below.refl _ _⟩
  case round =>
    obtain ⟨h12, hb⟩ := hrel
    have HB := Lib.hid hb
    clear hb
    rcases h12 with rfl | rfl
    · go_wp2
      go_loopw [9] (fun jv wv => jv = .int .i64 1 ∧ Below w.heap.size w wv) (fun j _ => (intOf j).toNat)
      case atStart => exact ⟨rfl, HB.out⟩
      case round =>
      obtain ⟨rfl, hb⟩ := hrel
      have HC := Lib.hid hb
      have R := HA.out.later HC.out
      clear hb
      obtain ⟨b', off', e1, hlt, x0, x1, x2, x3, x4, x5⟩ := eg_at R (i := 0) rfl
      injection e1 with e1; injection e1 with e2 e3 e4; subst e2; subst e3
      obtain ⟨b', off', e1, hlt', y0, y1, y2, y3, y4, y5⟩ := eg_at R (i := 1) rfl
      injection e1 with e1; injection e1 with e2 e3 e4; subst e2; subst e3
      have X0 := Lib.hid (by simpa using x0); have X1 := Lib.hid (by simpa using x1); have X2 := Lib.hid (by simpa using x2); have X3 := Lib.hid (by simpa using x3); have X4 := Lib.hid (by simpa using x4); have X5 := Lib.hid (by simpa using x5)
      have Y0 := Lib.hid (by simpa using y0); have Y1 := Lib.hid (by simpa using y1); have Y2 := Lib.hid (by simpa using y2); have Y3 := Lib.hid (by simpa using y3); have Y4 := Lib.hid (by simpa using y4); have Y5 := Lib.hid (by simpa using y5)
      clear R x0 x1 x2 x3 x4 x5 y0 y1 y2 y3 y4 y5 hlt hlt'
      go_wp2_with fail
      refine wp_region_held_drew (S := (fun V : World => Below wr.heap.size wr V)) (by kernel_rfl) ?_ (fun hHeld => ?_)
      · exact (Below.refl _ _).drew
      have HHeld := Lib.hid hHeld; clear hHeld
      refine wpAnyH_take (i := 0) (oi := { dst := some 18, op := Op.move (Operand.tmp 9), type := 3, pos := "zsortanyfunc.go:12", after := #[], guard := none }) (v := ?_) rfl (by kernel_rfl) (by kernel_rfl) (by kernel_rfl) (fun _ _ _ h => h) (Or.inl ⟨by rfl, ?_⟩) HHeld.out ?_
      rotate_left
      · intro w hSw; clear hSw; go_simp; try with_reducible rfl
      try simp only [Act.put, List.setIfInBounds_toArray, List.set_cons_zero, List.set_cons_succ]
      refine wpAnyH_take (i := 1) (oi := { dst := some 19, op := Op.move (Operand.tmp 1), type := 3, pos := "zsortanyfunc.go:12", after := #[], guard := none }) (v := ?_) rfl (by kernel_rfl) (by kernel_rfl) (by kernel_rfl) (fun _ _ _ h => h) (Or.inl ⟨by rfl, ?_⟩) HHeld.out ?_
      rotate_left
      · intro w hSw; clear hSw; go_simp; try with_reducible rfl
      try simp only [Act.put, List.setIfInBounds_toArray, List.set_cons_zero, List.set_cons_succ]
      refine wpAnyH_take (i := 2) (oi := { dst := some 20, op := Op.binOp BinOp.gtr 3 (Operand.tmp 18) (Operand.tmp 19) 3, type := 4, pos := "zsortanyfunc.go:12", after := #[{ on := 0, ground := Ground.data }, { on := 1, ground := Ground.data }], guard := none }) (v := ?_) rfl (by kernel_rfl) (by kernel_rfl) (by kernel_rfl) (fun _ _ _ h => h) (Or.inl ⟨by rfl, ?_⟩) HHeld.out ?_
      rotate_left
      · intro w hSw; clear hSw; go_simp; try with_reducible rfl
      try simp only [Act.put, List.setIfInBounds_toArray, List.set_cons_zero, List.set_cons_succ]
      refine wpAnyH_take (i := 3) (oi := { dst := some 21, op := Op.move (Operand.tmp 20), type := 4, pos := "zsortanyfunc.go:12", after := #[{ on := 2, ground := Ground.data }], guard := none }) (v := ?_) rfl (by kernel_rfl) (by kernel_rfl) (by kernel_rfl) (fun _ _ _ h => h) (Or.inl ⟨by rfl, ?_⟩) HHeld.out ?_
      rotate_left
      · intro w hSw; clear hSw; go_simp; try with_reducible rfl
      try simp only [Act.put, List.setIfInBounds_toArray, List.set_cons_zero, List.set_cons_succ]
      refine wpAnyH_take (i := 4) (oi := { dst := some 22, op := Op.move (Operand.tmp 3), type := 109, pos := "zsortanyfunc.go:12", after := #[{ on := 3, ground := Ground.guard }], guard := some (3, true) }) (v := ?_) rfl (by kernel_rfl) (by kernel_rfl) (by kernel_rfl) (fun _ _ _ h => h) (Or.inl ⟨by rfl, ?_⟩) HHeld.out ?_
      rotate_left
      · intro w hSw; clear hSw; go_simp; try with_reducible rfl
      try simp only [Act.put, List.setIfInBounds_toArray, List.set_cons_zero, List.set_cons_succ]
      refine wpAnyH_take (i := 5) (oi := { dst := some 23, op := Op.move (Operand.tmp 0), type := 25, pos := "zsortanyfunc.go:12", after := #[{ on := 3, ground := Ground.guard }], guard := some (3, true) }) (v := ?_) rfl (by kernel_rfl) (by kernel_rfl) (by kernel_rfl) (fun _ _ _ h => h) (Or.inl ⟨by rfl, ?_⟩) HHeld.out ?_
      rotate_left
      · intro w hSw; clear hSw; go_simp; try with_reducible rfl
      try simp only [Act.put, List.setIfInBounds_toArray, List.set_cons_zero, List.set_cons_succ]
      refine wpAnyH_take (i := 6) (oi := { dst := some 24, op := Op.move (Operand.tmp 9), type := 3, pos := "zsortanyfunc.go:12", after := #[{ on := 3, ground := Ground.guard }], guard := some (3, true) }) (v := ?_) rfl (by kernel_rfl) (by kernel_rfl) (by kernel_rfl) (fun _ _ _ h => h) (Or.inl ⟨by rfl, ?_⟩) HHeld.out ?_
      rotate_left
      · intro w hSw; clear hSw; go_simp; try with_reducible rfl
      try simp only [Act.put, List.setIfInBounds_toArray, List.set_cons_zero, List.set_cons_succ]
      refine wpAnyH_take (i := 7) (oi := { dst := some 25, op := Op.indexAddr 25 (Operand.tmp 23) (Operand.tmp 24), type := 0, pos := "zsortanyfunc.go:12", after := #[{ on := 5, ground := Ground.data }, { on := 6, ground := Ground.data }, { on := 3, ground := Ground.guard }], guard := some (3, true) }) (v := ?_) rfl (by kernel_rfl) (by kernel_rfl) (by kernel_rfl) (fun _ _ _ h => h) (Or.inl ⟨by rfl, ?_⟩) HHeld.out ?_
      rotate_left
      · intro w hSw; clear hSw; go_simp; try with_reducible rfl
      try simp only [Act.put, List.setIfInBounds_toArray, List.set_cons_zero, List.set_cons_succ]
      refine wpAnyH_take (i := 8) (oi := { dst := some 26, op := Op.load 62 (Operand.tmp 25), type := 62, pos := "zsortanyfunc.go:12", after := #[{ on := 7, ground := Ground.data }, { on := 3, ground := Ground.guard }], guard := some (3, true) }) (v := (.agg #[.int .u8 y.kd, .int .i64 y.sq, .string y.ky, .string y.to, .string y.vl, .int .u64 y.dl] : Value)) rfl (by kernel_rfl) (by kernel_rfl) (by kernel_rfl) (fun _ _ _ h => h) (Or.inl ⟨by rfl, ?_⟩) HHeld.out ?_
      · intro V hV; have hc0 := bel_later hV Y0.out; have hc1 := bel_later hV Y1.out; have hc2 := bel_later hV Y2.out; have hc3 := bel_later hV Y3.out; have hc4 := bel_later hV Y4.out; have hc5 := bel_later hV Y5.out; clear hV; go_simp
      try simp only [Act.put, List.setIfInBounds_toArray, List.set_cons_zero, List.set_cons_succ]
      refine wpAnyH_take (i := 9) (oi := { dst := some 27, op := Op.move (Operand.tmp 0), type := 25, pos := "zsortanyfunc.go:12", after := #[{ on := 3, ground := Ground.guard }], guard := some (3, true) }) (v := ?_) rfl (by kernel_rfl) (by kernel_rfl) (by kernel_rfl) (fun _ _ _ h => h) (Or.inl ⟨by rfl, ?_⟩) HHeld.out ?_
      rotate_left
      · intro w hSw; clear hSw; go_simp; try with_reducible rfl
      try simp only [Act.put, List.setIfInBounds_toArray, List.set_cons_zero, List.set_cons_succ]
      refine wpAnyH_take (i := 10) (oi := { dst := some 28, op := Op.move (Operand.tmp 9), type := 3, pos := "zsortanyfunc.go:12", after := #[{ on := 3, ground := Ground.guard }], guard := some (3, true) }) (v := ?_) rfl (by kernel_rfl) (by kernel_rfl) (by kernel_rfl) (fun _ _ _ h => h) (Or.inl ⟨by rfl, ?_⟩) HHeld.out ?_
      rotate_left
      · intro w hSw; clear hSw; go_simp; try with_reducible rfl
      try simp only [Act.put, List.setIfInBounds_toArray, List.set_cons_zero, List.set_cons_succ]
      refine wpAnyH_take (i := 11) (oi := { dst := some 29, op := Op.binOp BinOp.sub 3 (Operand.tmp 28) (Operand.const (Value.int IntKind.i64 1)) 3, type := 3, pos := "zsortanyfunc.go:12", after := #[{ on := 10, ground := Ground.data }, { on := 3, ground := Ground.guard }], guard := some (3, true) }) (v := ?_) rfl (by kernel_rfl) (by kernel_rfl) (by kernel_rfl) (fun _ _ _ h => h) (Or.inl ⟨by rfl, ?_⟩) HHeld.out ?_
      rotate_left
      · intro w hSw; clear hSw; go_simp; try with_reducible rfl
      try simp only [Act.put, List.setIfInBounds_toArray, List.set_cons_zero, List.set_cons_succ]
      refine wpAnyH_take (i := 12) (oi := { dst := some 30, op := Op.indexAddr 25 (Operand.tmp 27) (Operand.tmp 29), type := 0, pos := "zsortanyfunc.go:12", after := #[{ on := 9, ground := Ground.data }, { on := 11, ground := Ground.data }, { on := 3, ground := Ground.guard }], guard := some (3, true) }) (v := ?_) rfl (by kernel_rfl) (by kernel_rfl) (by kernel_rfl) (fun _ _ _ h => h) (Or.inl ⟨by rfl, ?_⟩) HHeld.out ?_
      rotate_left
      · intro w hSw; clear hSw; go_simp; try with_reducible rfl
      try simp only [Act.put, List.setIfInBounds_toArray, List.set_cons_zero, List.set_cons_succ]
      refine wpAnyH_take (i := 13) (oi := { dst := some 31, op := Op.load 62 (Operand.tmp 30), type := 62, pos := "zsortanyfunc.go:12", after := #[{ on := 12, ground := Ground.data }, { on := 3, ground := Ground.guard }], guard := some (3, true) }) (v := (.agg #[.int .u8 x.kd, .int .i64 x.sq, .string x.ky, .string x.to, .string x.vl, .int .u64 x.dl] : Value)) rfl (by kernel_rfl) (by kernel_rfl) (by kernel_rfl) (fun _ _ _ h => h) (Or.inl ⟨by rfl, ?_⟩) HHeld.out ?_
      · intro V hV; have hc0 := bel_later hV X0.out; have hc1 := bel_later hV X1.out; have hc2 := bel_later hV X2.out; have hc3 := bel_later hV X3.out; have hc4 := bel_later hV X4.out; have hc5 := bel_later hV X5.out; clear hV; go_simp
      try simp only [Act.put, List.setIfInBounds_toArray, List.set_cons_zero, List.set_cons_succ]
      refine wpAnyH_ready (rs := [14]) (by kernel_rfl) (by simp) ?_
      refine AllReadyH.cons (o := { dst := some 32, op := Op.call { callee := Callee.value (Operand.tmp 22), args := #[Operand.tmp 26, Operand.tmp 31], argTypes := #[62, 62] }, type := 3, pos := "zsortanyfunc.go:12", after := #[{ on := 4, ground := Ground.data }, { on := 8, ground := Ground.data }, { on := 13, ground := Ground.data }, { on := 3, ground := Ground.chain }, { on := 3, ground := Ground.guard }], guard := some (3, true) }) rfl (fun K hK => ?_) AllReadyH.nil
      go_simp
      go_at_call 82; (refine (AO.out _).mono ?_); rintro e w5 ⟨rfl, c5⟩; have C5 := Lib.hid (bel_trans HHeld.out c5); clear c5
      refine hK.out _ _ ?_ (fun hHeld => ?_)
      · exact C5.out
      clear HHeld; have HHeld := Lib.hid hHeld; clear hHeld
      clear hK K
      try simp only [Act.put, List.setIfInBounds_toArray, List.set_cons_zero, List.set_cons_succ]
      refine wpAnyH_take (i := 15) (oi := { dst := some 33, op := Op.binOp BinOp.lss 3 (Operand.tmp 32) (Operand.const (Value.int IntKind.i64 0)) 3, type := 4, pos := "zsortanyfunc.go:12", after := #[{ on := 14, ground := Ground.data }, { on := 3, ground := Ground.guard }], guard := some (3, true) }) (v := ?_) rfl (by kernel_rfl) (by kernel_rfl) (by kernel_rfl) (fun _ _ _ h => h) (Or.inl ⟨by rfl, ?_⟩) HHeld.out ?_
      rotate_left
      · intro w hSw; clear hSw; go_simp; try with_reducible rfl
      try simp only [Act.put, List.setIfInBounds_toArray, List.set_cons_zero, List.set_cons_succ]
      refine wpAnyH_take (i := 16) (oi := { dst := some 34, op := Op.pick (Operand.tmp 21) (Operand.tmp 33) (Operand.const (Value.bool false)), type := 4, pos := "zsortanyfunc.go:12", after := #[{ on := 3, ground := Ground.data }, { on := 15, ground := Ground.data }], guard := none }) (v := ?_) rfl (by kernel_rfl) (by kernel_rfl) (by kernel_rfl) (fun _ _ _ h => h) (Or.inl ⟨by rfl, ?_⟩) HHeld.out ?_
      rotate_left
      · intro w hSw; clear hSw; go_simp; try with_reducible rfl
      try simp only [Act.put, List.setIfInBounds_toArray, List.set_cons_zero, List.set_cons_succ]
      refine wpAnyH_done (by kernel_rfl) ?_ _
      have CE := Lib.hid HHeld.out
      clear HHeld
      go_wp2
      exact ⟨⟨by simp, bel_trans HC.out CE.out⟩, by simp [intOf]⟩
    · go_wp2
      go_end0
      exact ⟨rfl, HB.out⟩
set_option maxHeartbeats 2000000 in
theorem stab_two (A : Option Addr) (c : Nat) (x y : MG) (w : World) (hA : EG.Rd w A [x, y]) (ho : ¬ ordM y x < 0) :
    Calls Try.prog 113 #[.slice A 2 c, .int .i64 2, OF] w fun r w' => r = .returned (.tuple #[]) ∧ Below w.heap.size w w' := by
  have AI := Lib.hid (ins_two A c x y w hA ho)
  clear hA ho
  go_enter Try.func113, Try.ntmps113
  go_wp2
  go_loopw [7, 8] (fun av iv wr => av = .int .i64 0 ∧ iv = .int .i64 20 ∧ w = wr) (fun _ i _ => 0)
  case atStart => exact ⟨rfl, rfl, rfl⟩
  case round =>
    obtain ⟨rfl, rfl, rfl⟩ := hrel
    go_wp2_with (first
      | (go_at_call 123; ((with_reducible refine AI.out.mono ?_); rintro e w1 ⟨rfl, b1⟩; have B1 := Lib.hid b1; clear b1))
      | fail)
    go_loopw [6] (fun iv wr => iv = .int .i64 20 ∧ w1 = wr) (fun i _ => 0)
    case atStart => exact ⟨rfl, rfl⟩
    case round =>
      obtain ⟨rfl, rfl⟩ := hrel
      go_wp2
      go_end0
      exact ⟨rfl, B1.out⟩
theorem sort_two (A : Option Addr) (c : Nat) (x y : MG) (w : World) (hA : EG.Rd w A [x, y]) (ho : ¬ ordM y x < 0) :
    Calls Try.prog 88 #[.slice A 2 c, OF] w fun r w' => r = .returned (.tuple #[]) ∧ Below w.heap.size w w' := by
  have AI := Lib.hid (stab_two A c x y w hA ho)
  clear hA ho
  go_enter Try.func88, Try.ntmps88
  go_wp2_with (first
    | (go_at_call 113; ((with_reducible refine AI.out.mono ?_); rintro e w1 ⟨rfl, b1⟩; have B1 := Lib.hid b1; clear b1))
    | fail)
  go_end0
  exact ⟨rfl, B1.out⟩
set_option maxHeartbeats 2000000 in
theorem add_two (A B : Option Addr) (c d : Nat) (x y : MG) (w : World) (hA : EG.Rd w A [x]) (hB : EG.Rd w B [y]) (ho : ¬ ordM y x < 0) :
    Calls Try.prog 47 #[.slice A 1 c, .slice B 1 d] w fun r w' => (∃ A' c', r = .returned (.slice A' 2 c') ∧ EG.Rd w' A' [x, y]) ∧ Below w.heap.size w w' := by
  have H0 := Lib.hid (alb w (.cells #[.slice A 1 c, .slice B 1 d] 25))
  have AC : Hid (Calls Try.prog 87 #[.slice (some ⟨w.heap.size, 0, none⟩) 2 2] (w.alloc (.cells #[.slice A 1 c, .slice B 1 d] 25)) fun r w' => (∃ A' c', r = .returned (.slice A' 2 c') ∧ EG.Row w' (w.alloc (.cells #[.slice A 1 c, .slice B 1 d] 25)).heap.size A' [x, y] c') ∧ Below (w.alloc (.cells #[.slice A 1 c, .slice B 1 d] 25)).heap.size (w.alloc (.cells #[.slice A 1 c, .slice B 1 d] 25)) w') := Lib.hid (concat_any w.heap.size A B 1 c 1 d [x] [y] (w.alloc (.cells #[.slice A 1 c, .slice B 1 d] 25)) (heap_alloc_new _ _) rfl rfl (by omega) (by omega) (hA.later H0.out) (hB.later H0.out))
  have HO := Lib.hid ho
  clear hA hB ho
  go_enter Try.func47, Try.ntmps47
  go_wp2_with (first
    | (go_at_call 87; ((with_reducible refine AC.out.mono ?_); rintro e w1 ⟨⟨A', c', rfl, r1⟩, b1⟩; have R1 := Lib.hid r1.rd; have B1 := Lib.hid (bel_trans H0.out b1); clear b1 r1))
    | (go_at_call 88; ((with_reducible refine (sort_two A' c' x y _ R1.out (by have := HO.out; omega)).mono ?_); rintro e w2 ⟨rfl, b2⟩; have R2 := Lib.hid (R1.out.later b2); have B2 := Lib.hid (bel_trans B1.out b2); clear b2))
    | fail)
  go_ret
  exact ⟨⟨_, _, rfl, R2.out⟩, B2.out⟩
end Go.Proofs.Ytilnpeekajnlhaa
