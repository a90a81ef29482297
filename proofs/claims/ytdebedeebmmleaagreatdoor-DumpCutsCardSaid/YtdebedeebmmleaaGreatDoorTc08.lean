/- The reader: the node told last. -/
import Derived.Test.YtdebedeebmmleaaGreatDoorTc01
import Derived.Test.YtdebedeebmmleaaGreatDoorTc07
set_option linter.unusedVariables false
set_option linter.unusedSimpArgs false
namespace Go.Proofs.YtdebedeebmmleaaGreatDoor
open Go.RowKit Go.Maps
set_option maxHeartbeats 1500000 in
set_option maxRecDepth 100000 in
theorem last_none {g nb n z : Nat} {t : ByteArray} {ln : Int} {w : World} (kind kd : Int) (hr : RB (.slice (some ⟨nb, 0, none⟩) n n) (.int .i64 (z : Int)) w g t ln) (hz : z = 0) :
    Calls Tryz.prog 55 #[.pointer (some ⟨g, 0, none⟩), .int .u8 kind] w fun e w' => e = .panicked [FP ln 3] ∧ Below w.heap.size w w' := by
  have HR := Lib.hid hr
  have H2 := Lib.hid hr.c2
  have H3 := Lib.hid hr.c3
  subst hz
  have z0 : ((0 : Nat) : Int) = 0 := rfl
  clear hr
  go_enter Tryz.func55, Tryz.ntmps55
  go_upto_region 1 with fail
  refine wp_region_held_drew (S := (fun V : World => Below w.heap.size w V)) (by kernel_rfl) ?_ (fun hHeld => ?_)
  · exact (Below.refl _ w).drew
  have HHeld := Lib.hid hHeld; clear hHeld
  refine wT (i := 0) (oi := { dst := some 5, op := Op.move (Operand.tmp 0), type := 64, pos := "parse.go:112", after := #[], guard := none }) (v := ?_) rfl (Or.inl ⟨by rfl, ?_⟩) HHeld.out ?_
  rotate_left
  · intro w hSw; clear hSw; go_simp; try with_reducible rfl
  try simp only [pu, pn, s1, s2, s3]
  refine wT (i := 1) (oi := { dst := some 6, op := Op.move (Operand.tmp 0), type := 64, pos := "parse.go:112", after := #[], guard := none }) (v := ?_) rfl (Or.inl ⟨by rfl, ?_⟩) HHeld.out ?_
  rotate_left
  · intro w hSw; clear hSw; go_simp; try with_reducible rfl
  try simp only [pu, pn, s1, s2, s3]
  refine wT (i := 2) (oi := { dst := some 7, op := Op.nilCheck (Operand.tmp 6), type := 0, pos := "parse.go:112", after := #[{ on := 1, ground := Ground.data }], guard := none }) (v := ?_) rfl (Or.inl ⟨by rfl, ?_⟩) HHeld.out ?_
  rotate_left
  · intro w hSw; clear hSw; go_simp; try with_reducible rfl
  try simp only [pu, pn, s1, s2, s3]
  refine wT (i := 3) (oi := { dst := some 8, op := Op.fieldAddr 66 (Operand.tmp 7) 3, type := 0, pos := "parse.go:112", after := #[{ on := 2, ground := Ground.data }], guard := none }) (v := ?_) rfl (Or.inl ⟨by rfl, ?_⟩) HHeld.out ?_
  rotate_left
  · intro w hSw; clear hSw; go_simp; try with_reducible rfl
  try simp only [pu, pn, s1, s2, s3]
  refine wT (i := 4) (oi := { dst := some 9, op := Op.load 3 (Operand.tmp 8), type := 3, pos := "parse.go:112", after := #[{ on := 3, ground := Ground.data }], guard := none }) (v := (.int .i64 ((0 : Nat) : Int) : Value)) rfl (Or.inl ⟨by rfl, ?_⟩) HHeld.out ?_
  · intro V hV; have hc0 := bel_later hV H3.out; clear hV; go_simp
  try simp only [pu, pn, s1, s2, s3]
  refine wT (i := 5) (oi := { dst := some 10, op := Op.binOp BinOp.gtr 3 (Operand.tmp 9) (Operand.const (Value.int IntKind.i64 0)) 3, type := 4, pos := "parse.go:112", after := #[{ on := 4, ground := Ground.data }], guard := none }) (v := ?_) rfl (Or.inl ⟨by rfl, ?_⟩) HHeld.out ?_
  rotate_left
  · intro w hSw; clear hSw; go_simp; try with_reducible rfl
  try simp only [pu, pn, s1, s2, s3]
  refine wT (i := 6) (oi := { dst := some 11, op := Op.move (Operand.tmp 10), type := 4, pos := "parse.go:112", after := #[{ on := 5, ground := Ground.data }], guard := none }) (v := ?_) rfl (Or.inl ⟨by rfl, ?_⟩) HHeld.out ?_
  rotate_left
  · intro w hSw; clear hSw; go_simp; try with_reducible rfl
  try simp only [pu, pn, s1, s2, s3]
  refine wT (i := 7) (oi := { dst := some 12, op := Op.move (Operand.tmp 0), type := 64, pos := "parse.go:112", after := #[{ on := 6, ground := Ground.guard }], guard := some (6, true) }) (v := undef) rfl (Or.inr ⟨by rfl, rfl⟩) HHeld.out ?_
  try simp only [pu, pn, s1, s2, s3]
  refine wT (i := 8) (oi := { dst := some 13, op := Op.nilCheck (Operand.tmp 12), type := 0, pos := "parse.go:112", after := #[{ on := 7, ground := Ground.data }, { on := 6, ground := Ground.guard }], guard := some (6, true) }) (v := undef) rfl (Or.inr ⟨by rfl, rfl⟩) HHeld.out ?_
  try simp only [pu, pn, s1, s2, s3]
  refine wT (i := 9) (oi := { dst := some 14, op := Op.fieldAddr 66 (Operand.tmp 13) 2, type := 0, pos := "parse.go:112", after := #[{ on := 8, ground := Ground.data }, { on := 6, ground := Ground.guard }], guard := some (6, true) }) (v := undef) rfl (Or.inr ⟨by rfl, rfl⟩) HHeld.out ?_
  try simp only [pu, pn, s1, s2, s3]
  refine wT (i := 10) (oi := { dst := some 15, op := Op.load 22 (Operand.tmp 14), type := 22, pos := "parse.go:112", after := #[{ on := 9, ground := Ground.data }, { on := 6, ground := Ground.guard }], guard := some (6, true) }) (v := undef) rfl (Or.inr ⟨by rfl, rfl⟩) HHeld.out ?_
  try simp only [pu, pn, s1, s2, s3]
  refine wT (i := 11) (oi := { dst := some 16, op := Op.move (Operand.tmp 0), type := 64, pos := "parse.go:112", after := #[{ on := 6, ground := Ground.guard }], guard := some (6, true) }) (v := undef) rfl (Or.inr ⟨by rfl, rfl⟩) HHeld.out ?_
  try simp only [pu, pn, s1, s2, s3]
  refine wT (i := 12) (oi := { dst := some 17, op := Op.nilCheck (Operand.tmp 16), type := 0, pos := "parse.go:112", after := #[{ on := 11, ground := Ground.data }, { on := 6, ground := Ground.guard }], guard := some (6, true) }) (v := undef) rfl (Or.inr ⟨by rfl, rfl⟩) HHeld.out ?_
  try simp only [pu, pn, s1, s2, s3]
  refine wT (i := 13) (oi := { dst := some 18, op := Op.fieldAddr 66 (Operand.tmp 17) 3, type := 0, pos := "parse.go:112", after := #[{ on := 12, ground := Ground.data }, { on := 6, ground := Ground.guard }], guard := some (6, true) }) (v := undef) rfl (Or.inr ⟨by rfl, rfl⟩) HHeld.out ?_
  try simp only [pu, pn, s1, s2, s3]
  refine wT (i := 14) (oi := { dst := some 19, op := Op.load 3 (Operand.tmp 18), type := 3, pos := "parse.go:112", after := #[{ on := 13, ground := Ground.data }, { on := 6, ground := Ground.guard }], guard := some (6, true) }) (v := undef) rfl (Or.inr ⟨by rfl, rfl⟩) HHeld.out ?_
  try simp only [pu, pn, s1, s2, s3]
  refine wT (i := 15) (oi := { dst := some 20, op := Op.indexAddr 22 (Operand.tmp 15) (Operand.tmp 19), type := 0, pos := "parse.go:112", after := #[{ on := 10, ground := Ground.data }, { on := 14, ground := Ground.data }, { on := 6, ground := Ground.guard }], guard := some (6, true) }) (v := undef) rfl (Or.inr ⟨by rfl, rfl⟩) HHeld.out ?_
  try simp only [pu, pn, s1, s2, s3]
  refine wT (i := 16) (oi := { dst := some 21, op := Op.fieldAddr 44 (Operand.tmp 20) 0, type := 0, pos := "parse.go:112", after := #[{ on := 15, ground := Ground.data }, { on := 6, ground := Ground.guard }], guard := some (6, true) }) (v := undef) rfl (Or.inr ⟨by rfl, rfl⟩) HHeld.out ?_
  try simp only [pu, pn, s1, s2, s3]
  refine wT (i := 17) (oi := { dst := some 22, op := Op.load 38 (Operand.tmp 21), type := 38, pos := "parse.go:112", after := #[{ on := 16, ground := Ground.data }, { on := 6, ground := Ground.guard }], guard := some (6, true) }) (v := undef) rfl (Or.inr ⟨by rfl, rfl⟩) HHeld.out ?_
  try simp only [pu, pn, s1, s2, s3]
  refine wT (i := 18) (oi := { dst := some 23, op := Op.move (Operand.tmp 1), type := 38, pos := "parse.go:112", after := #[{ on := 6, ground := Ground.guard }], guard := some (6, true) }) (v := undef) rfl (Or.inr ⟨by rfl, rfl⟩) HHeld.out ?_
  try simp only [pu, pn, s1, s2, s3]
  refine wT (i := 19) (oi := { dst := some 24, op := Op.binOp BinOp.eql 38 (Operand.tmp 22) (Operand.tmp 23) 38, type := 4, pos := "parse.go:112", after := #[{ on := 17, ground := Ground.data }, { on := 18, ground := Ground.data }, { on := 6, ground := Ground.guard }], guard := some (6, true) }) (v := undef) rfl (Or.inr ⟨by rfl, rfl⟩) HHeld.out ?_
  try simp only [pu, pn, s1, s2, s3]
  refine wT (i := 20) (oi := { dst := some 25, op := Op.pick (Operand.tmp 11) (Operand.tmp 24) (Operand.const (Value.bool false)), type := 4, pos := "parse.go:112", after := #[{ on := 6, ground := Ground.data }, { on := 19, ground := Ground.data }], guard := none }) (v := ?_) rfl (Or.inl ⟨by rfl, ?_⟩) HHeld.out ?_
  rotate_left
  · intro w hSw; clear hSw; go_simp; try with_reducible rfl
  try simp only [pu, pn, s1, s2, s3]
  refine wpAnyH_ready (rs := [21]) (by kernel_rfl) (by simp) ?_
  refine AllReadyH.cons (o := { dst := some 26, op := Op.call { callee := Callee.value (Operand.func 51), args := #[Operand.tmp 5, Operand.tmp 25, Operand.const (Value.int IntKind.i64 3)], argTypes := #[64, 4, 27] }, type := 0, pos := "parse.go:112", after := #[{ on := 0, ground := Ground.data }, { on := 20, ground := Ground.data }, { on := 6, ground := Ground.chain }], guard := none }) rfl (fun K hK => ?_) AllReadyH.nil
  go_simp
  (go_at_call 51; ((with_reducible refine (check_bad g 3 _ (HR.out.later HHeld.out)).mono ?_); rintro e w4 ⟨rfl, rfl⟩))
  exact ⟨rfl, rfl, HHeld.out⟩
set_option maxHeartbeats 1500000 in
set_option maxRecDepth 100000 in
theorem last_other {g nb n z : Nat} {t : ByteArray} {ln : Int} {w : World} (kind kd : Int) (hr : RB (.slice (some ⟨nb, 0, none⟩) n n) (.int .i64 (z : Int)) w g t ln) (hz : 0 < z) (hn : z < n) (hk : w.cell? ⟨nb, z * 5, none⟩ = some (.int .u8 kd)) (hkd : ¬ kd = kind) :
    Calls Tryz.prog 55 #[.pointer (some ⟨g, 0, none⟩), .int .u8 kind] w fun e w' => e = .panicked [FP ln 3] ∧ Below w.heap.size w w' := by
  have HR := Lib.hid hr
  have H2 := Lib.hid hr.c2
  have H3 := Lib.hid hr.c3
  have HK := Lib.hid hk
  have z1 : (0 : Int) < (z : Int) := by omega
  have z2 : (0 : Int) ≤ (z : Int) := by omega
  have z3 : (z : Int) < (n : Int) := by omega
  have z4 : (kd == kind) = false := beq_eq_false_iff_ne.2 hkd
  clear hr hk
  go_enter Tryz.func55, Tryz.ntmps55
  go_upto_region 1 with fail
  refine wp_region_held_drew (S := (fun V : World => Below w.heap.size w V)) (by kernel_rfl) ?_ (fun hHeld => ?_)
  · exact (Below.refl _ w).drew
  have HHeld := Lib.hid hHeld; clear hHeld
  refine wT (i := 0) (oi := { dst := some 5, op := Op.move (Operand.tmp 0), type := 64, pos := "parse.go:112", after := #[], guard := none }) (v := ?_) rfl (Or.inl ⟨by rfl, ?_⟩) HHeld.out ?_
  rotate_left
  · intro w hSw; clear hSw; go_simp; try with_reducible rfl
  try simp only [pu, pn, s1, s2, s3]
  refine wT (i := 1) (oi := { dst := some 6, op := Op.move (Operand.tmp 0), type := 64, pos := "parse.go:112", after := #[], guard := none }) (v := ?_) rfl (Or.inl ⟨by rfl, ?_⟩) HHeld.out ?_
  rotate_left
  · intro w hSw; clear hSw; go_simp; try with_reducible rfl
  try simp only [pu, pn, s1, s2, s3]
  refine wT (i := 2) (oi := { dst := some 7, op := Op.nilCheck (Operand.tmp 6), type := 0, pos := "parse.go:112", after := #[{ on := 1, ground := Ground.data }], guard := none }) (v := ?_) rfl (Or.inl ⟨by rfl, ?_⟩) HHeld.out ?_
  rotate_left
  · intro w hSw; clear hSw; go_simp; try with_reducible rfl
  try simp only [pu, pn, s1, s2, s3]
  refine wT (i := 3) (oi := { dst := some 8, op := Op.fieldAddr 66 (Operand.tmp 7) 3, type := 0, pos := "parse.go:112", after := #[{ on := 2, ground := Ground.data }], guard := none }) (v := ?_) rfl (Or.inl ⟨by rfl, ?_⟩) HHeld.out ?_
  rotate_left
  · intro w hSw; clear hSw; go_simp; try with_reducible rfl
  try simp only [pu, pn, s1, s2, s3]
  refine wT (i := 4) (oi := { dst := some 9, op := Op.load 3 (Operand.tmp 8), type := 3, pos := "parse.go:112", after := #[{ on := 3, ground := Ground.data }], guard := none }) (v := (.int .i64 (z : Int) : Value)) rfl (Or.inl ⟨by rfl, ?_⟩) HHeld.out ?_
  · intro V hV; have hc0 := bel_later hV H3.out; clear hV; go_simp
  try simp only [pu, pn, s1, s2, s3]
  refine wT (i := 5) (oi := { dst := some 10, op := Op.binOp BinOp.gtr 3 (Operand.tmp 9) (Operand.const (Value.int IntKind.i64 0)) 3, type := 4, pos := "parse.go:112", after := #[{ on := 4, ground := Ground.data }], guard := none }) (v := ?_) rfl (Or.inl ⟨by rfl, ?_⟩) HHeld.out ?_
  rotate_left
  · intro w hSw; clear hSw; go_simp; try with_reducible rfl
  try simp only [pu, pn, s1, s2, s3]
  refine wT (i := 6) (oi := { dst := some 11, op := Op.move (Operand.tmp 10), type := 4, pos := "parse.go:112", after := #[{ on := 5, ground := Ground.data }], guard := none }) (v := ?_) rfl (Or.inl ⟨by rfl, ?_⟩) HHeld.out ?_
  rotate_left
  · intro w hSw; clear hSw; go_simp; try with_reducible rfl
  try simp only [pu, pn, s1, s2, s3]
  refine wT (i := 7) (oi := { dst := some 12, op := Op.move (Operand.tmp 0), type := 64, pos := "parse.go:112", after := #[{ on := 6, ground := Ground.guard }], guard := some (6, true) }) (v := ?_) rfl (Or.inl ⟨by rfl, ?_⟩) HHeld.out ?_
  rotate_left
  · intro w hSw; clear hSw; go_simp; try with_reducible rfl
  try simp only [pu, pn, s1, s2, s3]
  refine wT (i := 8) (oi := { dst := some 13, op := Op.nilCheck (Operand.tmp 12), type := 0, pos := "parse.go:112", after := #[{ on := 7, ground := Ground.data }, { on := 6, ground := Ground.guard }], guard := some (6, true) }) (v := ?_) rfl (Or.inl ⟨by rfl, ?_⟩) HHeld.out ?_
  rotate_left
  · intro w hSw; clear hSw; go_simp; try with_reducible rfl
  try simp only [pu, pn, s1, s2, s3]
  refine wT (i := 9) (oi := { dst := some 14, op := Op.fieldAddr 66 (Operand.tmp 13) 2, type := 0, pos := "parse.go:112", after := #[{ on := 8, ground := Ground.data }, { on := 6, ground := Ground.guard }], guard := some (6, true) }) (v := ?_) rfl (Or.inl ⟨by rfl, ?_⟩) HHeld.out ?_
  rotate_left
  · intro w hSw; clear hSw; go_simp; try with_reducible rfl
  try simp only [pu, pn, s1, s2, s3]
  refine wT (i := 10) (oi := { dst := some 15, op := Op.load 22 (Operand.tmp 14), type := 22, pos := "parse.go:112", after := #[{ on := 9, ground := Ground.data }, { on := 6, ground := Ground.guard }], guard := some (6, true) }) (v := (.slice (some ⟨nb, 0, none⟩) n n : Value)) rfl (Or.inl ⟨by rfl, ?_⟩) HHeld.out ?_
  · intro V hV; have hc0 := bel_later hV H2.out; clear hV; go_simp
  try simp only [pu, pn, s1, s2, s3]
  refine wT (i := 11) (oi := { dst := some 16, op := Op.move (Operand.tmp 0), type := 64, pos := "parse.go:112", after := #[{ on := 6, ground := Ground.guard }], guard := some (6, true) }) (v := ?_) rfl (Or.inl ⟨by rfl, ?_⟩) HHeld.out ?_
  rotate_left
  · intro w hSw; clear hSw; go_simp; try with_reducible rfl
  try simp only [pu, pn, s1, s2, s3]
  refine wT (i := 12) (oi := { dst := some 17, op := Op.nilCheck (Operand.tmp 16), type := 0, pos := "parse.go:112", after := #[{ on := 11, ground := Ground.data }, { on := 6, ground := Ground.guard }], guard := some (6, true) }) (v := ?_) rfl (Or.inl ⟨by rfl, ?_⟩) HHeld.out ?_
  rotate_left
  · intro w hSw; clear hSw; go_simp; try with_reducible rfl
  try simp only [pu, pn, s1, s2, s3]
  refine wT (i := 13) (oi := { dst := some 18, op := Op.fieldAddr 66 (Operand.tmp 17) 3, type := 0, pos := "parse.go:112", after := #[{ on := 12, ground := Ground.data }, { on := 6, ground := Ground.guard }], guard := some (6, true) }) (v := ?_) rfl (Or.inl ⟨by rfl, ?_⟩) HHeld.out ?_
  rotate_left
  · intro w hSw; clear hSw; go_simp; try with_reducible rfl
  try simp only [pu, pn, s1, s2, s3]
  refine wT (i := 14) (oi := { dst := some 19, op := Op.load 3 (Operand.tmp 18), type := 3, pos := "parse.go:112", after := #[{ on := 13, ground := Ground.data }, { on := 6, ground := Ground.guard }], guard := some (6, true) }) (v := (.int .i64 (z : Int) : Value)) rfl (Or.inl ⟨by rfl, ?_⟩) HHeld.out ?_
  · intro V hV; have hc0 := bel_later hV H3.out; clear hV; go_simp
  try simp only [pu, pn, s1, s2, s3]
  refine wT (i := 15) (oi := { dst := some 20, op := Op.indexAddr 22 (Operand.tmp 15) (Operand.tmp 19), type := 0, pos := "parse.go:112", after := #[{ on := 10, ground := Ground.data }, { on := 14, ground := Ground.data }, { on := 6, ground := Ground.guard }], guard := some (6, true) }) (v := ?_) rfl (Or.inl ⟨by rfl, ?_⟩) HHeld.out ?_
  rotate_left
  · intro w hSw; clear hSw; go_simp; try with_reducible rfl
  try simp only [pu, pn, s1, s2, s3]
  refine wT (i := 16) (oi := { dst := some 21, op := Op.fieldAddr 44 (Operand.tmp 20) 0, type := 0, pos := "parse.go:112", after := #[{ on := 15, ground := Ground.data }, { on := 6, ground := Ground.guard }], guard := some (6, true) }) (v := ?_) rfl (Or.inl ⟨by rfl, ?_⟩) HHeld.out ?_
  rotate_left
  · intro w hSw; clear hSw; go_simp; try with_reducible rfl
  try simp only [pu, pn, s1, s2, s3]
  refine wT (i := 17) (oi := { dst := some 22, op := Op.load 38 (Operand.tmp 21), type := 38, pos := "parse.go:112", after := #[{ on := 16, ground := Ground.data }, { on := 6, ground := Ground.guard }], guard := some (6, true) }) (v := (.int .u8 kd : Value)) rfl (Or.inl ⟨by rfl, ?_⟩) HHeld.out ?_
  · intro V hV; have hc0 := bel_later hV HK.out; clear hV; go_simp
  try simp only [pu, pn, s1, s2, s3]
  refine wT (i := 18) (oi := { dst := some 23, op := Op.move (Operand.tmp 1), type := 38, pos := "parse.go:112", after := #[{ on := 6, ground := Ground.guard }], guard := some (6, true) }) (v := ?_) rfl (Or.inl ⟨by rfl, ?_⟩) HHeld.out ?_
  rotate_left
  · intro w hSw; clear hSw; go_simp; try with_reducible rfl
  try simp only [pu, pn, s1, s2, s3]
  refine wT (i := 19) (oi := { dst := some 24, op := Op.binOp BinOp.eql 38 (Operand.tmp 22) (Operand.tmp 23) 38, type := 4, pos := "parse.go:112", after := #[{ on := 17, ground := Ground.data }, { on := 18, ground := Ground.data }, { on := 6, ground := Ground.guard }], guard := some (6, true) }) (v := ?_) rfl (Or.inl ⟨by rfl, ?_⟩) HHeld.out ?_
  rotate_left
  · intro w hSw; clear hSw; go_simp; try with_reducible rfl
  try simp only [pu, pn, s1, s2, s3]
  refine wT (i := 20) (oi := { dst := some 25, op := Op.pick (Operand.tmp 11) (Operand.tmp 24) (Operand.const (Value.bool false)), type := 4, pos := "parse.go:112", after := #[{ on := 6, ground := Ground.data }, { on := 19, ground := Ground.data }], guard := none }) (v := ?_) rfl (Or.inl ⟨by rfl, ?_⟩) HHeld.out ?_
  rotate_left
  · intro w hSw; clear hSw; go_simp; try with_reducible rfl
  try simp only [pu, pn, s1, s2, s3]
  refine wpAnyH_ready (rs := [21]) (by kernel_rfl) (by simp) ?_
  refine AllReadyH.cons (o := { dst := some 26, op := Op.call { callee := Callee.value (Operand.func 51), args := #[Operand.tmp 5, Operand.tmp 25, Operand.const (Value.int IntKind.i64 3)], argTypes := #[64, 4, 27] }, type := 0, pos := "parse.go:112", after := #[{ on := 0, ground := Ground.data }, { on := 20, ground := Ground.data }, { on := 6, ground := Ground.chain }], guard := none }) rfl (fun K hK => ?_) AllReadyH.nil
  go_simp
  (go_at_call 51; ((with_reducible refine (check_bad g 3 _ (HR.out.later HHeld.out)).mono ?_); rintro e w4 ⟨rfl, rfl⟩))
  exact ⟨rfl, rfl, HHeld.out⟩
set_option maxHeartbeats 1500000 in
set_option maxRecDepth 100000 in
theorem last_ok {g nb n z : Nat} {t : ByteArray} {ln : Int} {w : World} (kind kd : Int) (hr : RB (.slice (some ⟨nb, 0, none⟩) n n) (.int .i64 (z : Int)) w g t ln) (hz : 0 < z) (hn : z < n) (hk : w.cell? ⟨nb, z * 5, none⟩ = some (.int .u8 kd)) (hkd : kd = kind) :
    Calls Tryz.prog 55 #[.pointer (some ⟨g, 0, none⟩), .int .u8 kind] w fun e w' => e = .returned (.pointer (some ⟨nb, z * 5, none⟩)) ∧ Below w.heap.size w w' := by
  have HR := Lib.hid hr
  have H2 := Lib.hid hr.c2
  have H3 := Lib.hid hr.c3
  subst hkd
  have HK := Lib.hid hk
  have z1 : (0 : Int) < (z : Int) := by omega
  have z2 : (0 : Int) ≤ (z : Int) := by omega
  have z3 : (z : Int) < (n : Int) := by omega
  clear hr hk
  go_enter Tryz.func55, Tryz.ntmps55
  go_upto_region 1 with fail
  refine wp_region_held_drew (S := (fun V : World => Below w.heap.size w V)) (by kernel_rfl) ?_ (fun hHeld => ?_)
  · exact (Below.refl _ w).drew
  have HHeld := Lib.hid hHeld; clear hHeld
  refine wT (i := 0) (oi := { dst := some 5, op := Op.move (Operand.tmp 0), type := 64, pos := "parse.go:112", after := #[], guard := none }) (v := ?_) rfl (Or.inl ⟨by rfl, ?_⟩) HHeld.out ?_
  rotate_left
  · intro w hSw; clear hSw; go_simp; try with_reducible rfl
  try simp only [pu, pn, s1, s2, s3]
  refine wT (i := 1) (oi := { dst := some 6, op := Op.move (Operand.tmp 0), type := 64, pos := "parse.go:112", after := #[], guard := none }) (v := ?_) rfl (Or.inl ⟨by rfl, ?_⟩) HHeld.out ?_
  rotate_left
  · intro w hSw; clear hSw; go_simp; try with_reducible rfl
  try simp only [pu, pn, s1, s2, s3]
  refine wT (i := 2) (oi := { dst := some 7, op := Op.nilCheck (Operand.tmp 6), type := 0, pos := "parse.go:112", after := #[{ on := 1, ground := Ground.data }], guard := none }) (v := ?_) rfl (Or.inl ⟨by rfl, ?_⟩) HHeld.out ?_
  rotate_left
  · intro w hSw; clear hSw; go_simp; try with_reducible rfl
  try simp only [pu, pn, s1, s2, s3]
  refine wT (i := 3) (oi := { dst := some 8, op := Op.fieldAddr 66 (Operand.tmp 7) 3, type := 0, pos := "parse.go:112", after := #[{ on := 2, ground := Ground.data }], guard := none }) (v := ?_) rfl (Or.inl ⟨by rfl, ?_⟩) HHeld.out ?_
  rotate_left
  · intro w hSw; clear hSw; go_simp; try with_reducible rfl
  try simp only [pu, pn, s1, s2, s3]
  refine wT (i := 4) (oi := { dst := some 9, op := Op.load 3 (Operand.tmp 8), type := 3, pos := "parse.go:112", after := #[{ on := 3, ground := Ground.data }], guard := none }) (v := (.int .i64 (z : Int) : Value)) rfl (Or.inl ⟨by rfl, ?_⟩) HHeld.out ?_
  · intro V hV; have hc0 := bel_later hV H3.out; clear hV; go_simp
  try simp only [pu, pn, s1, s2, s3]
  refine wT (i := 5) (oi := { dst := some 10, op := Op.binOp BinOp.gtr 3 (Operand.tmp 9) (Operand.const (Value.int IntKind.i64 0)) 3, type := 4, pos := "parse.go:112", after := #[{ on := 4, ground := Ground.data }], guard := none }) (v := ?_) rfl (Or.inl ⟨by rfl, ?_⟩) HHeld.out ?_
  rotate_left
  · intro w hSw; clear hSw; go_simp; try with_reducible rfl
  try simp only [pu, pn, s1, s2, s3]
  refine wT (i := 6) (oi := { dst := some 11, op := Op.move (Operand.tmp 10), type := 4, pos := "parse.go:112", after := #[{ on := 5, ground := Ground.data }], guard := none }) (v := ?_) rfl (Or.inl ⟨by rfl, ?_⟩) HHeld.out ?_
  rotate_left
  · intro w hSw; clear hSw; go_simp; try with_reducible rfl
  try simp only [pu, pn, s1, s2, s3]
  refine wT (i := 7) (oi := { dst := some 12, op := Op.move (Operand.tmp 0), type := 64, pos := "parse.go:112", after := #[{ on := 6, ground := Ground.guard }], guard := some (6, true) }) (v := ?_) rfl (Or.inl ⟨by rfl, ?_⟩) HHeld.out ?_
  rotate_left
  · intro w hSw; clear hSw; go_simp; try with_reducible rfl
  try simp only [pu, pn, s1, s2, s3]
  refine wT (i := 8) (oi := { dst := some 13, op := Op.nilCheck (Operand.tmp 12), type := 0, pos := "parse.go:112", after := #[{ on := 7, ground := Ground.data }, { on := 6, ground := Ground.guard }], guard := some (6, true) }) (v := ?_) rfl (Or.inl ⟨by rfl, ?_⟩) HHeld.out ?_
  rotate_left
  · intro w hSw; clear hSw; go_simp; try with_reducible rfl
  try simp only [pu, pn, s1, s2, s3]
  refine wT (i := 9) (oi := { dst := some 14, op := Op.fieldAddr 66 (Operand.tmp 13) 2, type := 0, pos := "parse.go:112", after := #[{ on := 8, ground := Ground.data }, { on := 6, ground := Ground.guard }], guard := some (6, true) }) (v := ?_) rfl (Or.inl ⟨by rfl, ?_⟩) HHeld.out ?_
  rotate_left
  · intro w hSw; clear hSw; go_simp; try with_reducible rfl
  try simp only [pu, pn, s1, s2, s3]
  refine wT (i := 10) (oi := { dst := some 15, op := Op.load 22 (Operand.tmp 14), type := 22, pos := "parse.go:112", after := #[{ on := 9, ground := Ground.data }, { on := 6, ground := Ground.guard }], guard := some (6, true) }) (v := (.slice (some ⟨nb, 0, none⟩) n n : Value)) rfl (Or.inl ⟨by rfl, ?_⟩) HHeld.out ?_
  · intro V hV; have hc0 := bel_later hV H2.out; clear hV; go_simp
  try simp only [pu, pn, s1, s2, s3]
  refine wT (i := 11) (oi := { dst := some 16, op := Op.move (Operand.tmp 0), type := 64, pos := "parse.go:112", after := #[{ on := 6, ground := Ground.guard }], guard := some (6, true) }) (v := ?_) rfl (Or.inl ⟨by rfl, ?_⟩) HHeld.out ?_
  rotate_left
  · intro w hSw; clear hSw; go_simp; try with_reducible rfl
  try simp only [pu, pn, s1, s2, s3]
  refine wT (i := 12) (oi := { dst := some 17, op := Op.nilCheck (Operand.tmp 16), type := 0, pos := "parse.go:112", after := #[{ on := 11, ground := Ground.data }, { on := 6, ground := Ground.guard }], guard := some (6, true) }) (v := ?_) rfl (Or.inl ⟨by rfl, ?_⟩) HHeld.out ?_
  rotate_left
  · intro w hSw; clear hSw; go_simp; try with_reducible rfl
  try simp only [pu, pn, s1, s2, s3]
  refine wT (i := 13) (oi := { dst := some 18, op := Op.fieldAddr 66 (Operand.tmp 17) 3, type := 0, pos := "parse.go:112", after := #[{ on := 12, ground := Ground.data }, { on := 6, ground := Ground.guard }], guard := some (6, true) }) (v := ?_) rfl (Or.inl ⟨by rfl, ?_⟩) HHeld.out ?_
  rotate_left
  · intro w hSw; clear hSw; go_simp; try with_reducible rfl
  try simp only [pu, pn, s1, s2, s3]
  refine wT (i := 14) (oi := { dst := some 19, op := Op.load 3 (Operand.tmp 18), type := 3, pos := "parse.go:112", after := #[{ on := 13, ground := Ground.data }, { on := 6, ground := Ground.guard }], guard := some (6, true) }) (v := (.int .i64 (z : Int) : Value)) rfl (Or.inl ⟨by rfl, ?_⟩) HHeld.out ?_
  · intro V hV; have hc0 := bel_later hV H3.out; clear hV; go_simp
  try simp only [pu, pn, s1, s2, s3]
  refine wT (i := 15) (oi := { dst := some 20, op := Op.indexAddr 22 (Operand.tmp 15) (Operand.tmp 19), type := 0, pos := "parse.go:112", after := #[{ on := 10, ground := Ground.data }, { on := 14, ground := Ground.data }, { on := 6, ground := Ground.guard }], guard := some (6, true) }) (v := ?_) rfl (Or.inl ⟨by rfl, ?_⟩) HHeld.out ?_
  rotate_left
  · intro w hSw; clear hSw; go_simp; try with_reducible rfl
  try simp only [pu, pn, s1, s2, s3]
  refine wT (i := 16) (oi := { dst := some 21, op := Op.fieldAddr 44 (Operand.tmp 20) 0, type := 0, pos := "parse.go:112", after := #[{ on := 15, ground := Ground.data }, { on := 6, ground := Ground.guard }], guard := some (6, true) }) (v := ?_) rfl (Or.inl ⟨by rfl, ?_⟩) HHeld.out ?_
  rotate_left
  · intro w hSw; clear hSw; go_simp; try with_reducible rfl
  try simp only [pu, pn, s1, s2, s3]
  refine wT (i := 17) (oi := { dst := some 22, op := Op.load 38 (Operand.tmp 21), type := 38, pos := "parse.go:112", after := #[{ on := 16, ground := Ground.data }, { on := 6, ground := Ground.guard }], guard := some (6, true) }) (v := (.int .u8 kd : Value)) rfl (Or.inl ⟨by rfl, ?_⟩) HHeld.out ?_
  · intro V hV; have hc0 := bel_later hV HK.out; clear hV; go_simp
  try simp only [pu, pn, s1, s2, s3]
  refine wT (i := 18) (oi := { dst := some 23, op := Op.move (Operand.tmp 1), type := 38, pos := "parse.go:112", after := #[{ on := 6, ground := Ground.guard }], guard := some (6, true) }) (v := ?_) rfl (Or.inl ⟨by rfl, ?_⟩) HHeld.out ?_
  rotate_left
  · intro w hSw; clear hSw; go_simp; try with_reducible rfl
  try simp only [pu, pn, s1, s2, s3]
  refine wT (i := 19) (oi := { dst := some 24, op := Op.binOp BinOp.eql 38 (Operand.tmp 22) (Operand.tmp 23) 38, type := 4, pos := "parse.go:112", after := #[{ on := 17, ground := Ground.data }, { on := 18, ground := Ground.data }, { on := 6, ground := Ground.guard }], guard := some (6, true) }) (v := ?_) rfl (Or.inl ⟨by rfl, ?_⟩) HHeld.out ?_
  rotate_left
  · intro w hSw; clear hSw; go_simp; try with_reducible rfl
  try simp only [pu, pn, s1, s2, s3]
  refine wT (i := 20) (oi := { dst := some 25, op := Op.pick (Operand.tmp 11) (Operand.tmp 24) (Operand.const (Value.bool false)), type := 4, pos := "parse.go:112", after := #[{ on := 6, ground := Ground.data }, { on := 19, ground := Ground.data }], guard := none }) (v := ?_) rfl (Or.inl ⟨by rfl, ?_⟩) HHeld.out ?_
  rotate_left
  · intro w hSw; clear hSw; go_simp; try with_reducible rfl
  try simp only [pu, pn, s1, s2, s3]
  refine wpAnyH_ready (rs := [21]) (by kernel_rfl) (by simp) ?_
  refine AllReadyH.cons (o := { dst := some 26, op := Op.call { callee := Callee.value (Operand.func 51), args := #[Operand.tmp 5, Operand.tmp 25, Operand.const (Value.int IntKind.i64 3)], argTypes := #[64, 4, 27] }, type := 0, pos := "parse.go:112", after := #[{ on := 0, ground := Ground.data }, { on := 20, ground := Ground.data }, { on := 6, ground := Ground.chain }], guard := none }) rfl (fun K hK => ?_) AllReadyH.nil
  go_simp
  (go_at_call 51; ((with_reducible refine (check_ok g 3 _).mono ?_); rintro e w4 ⟨rfl, rfl⟩))
  have B4 := Lib.hid HHeld.out
  refine hK.out _ _ ?_ (fun hHeld => ?_)
  · exact B4.out
  clear HHeld; have HHeld := Lib.hid hHeld; clear hHeld
  clear hK K
  try simp only [pu, pn, s1, s2, s3]
  refine wpAnyH_done (by kernel_rfl) ?_ _
  clear HHeld
  have c2 := H2.out
  have c3 := H3.out
  go_wp2_with fail
  go_quiet (fail)
  go_wp2
  go_ret
  exact ⟨by first | rfl | simp, bel_drewN B4.out _⟩
end Go.Proofs.YtdebedeebmmleaaGreatDoor
