/- Texts of the proof, one behind the other. -/
import Derived.Test.YtdebedeebmmleaaGreatDoorTc01
import Derived.Test.YtdebedeebmmleaaGreatDoorTc11
set_option linter.unusedVariables false
set_option linter.unusedSimpArgs false
namespace Go.Proofs.YtdebedeebmmleaaGreatDoor
open Go.RowKit Go.Maps
variable {nV aV : Value}
set_option maxHeartbeats 2000000 in
set_option maxRecDepth 100000 in
theorem rm_add_bad {B g b n : Nat} {t : ByteArray} {ln : Int} {ws : List ByteArray} {w : World} (hr : RB nV aV w g t ln) (hb : GB B w) (hn : ws.length = n) (h00 : 0 < n) (hn2 : n ≤ 4000000) (hA : ES.Rd w (some ⟨b, 0, none⟩) ws) (hs : ∀ i, (wdA ws i).size ≤ 1000000) (h0 : isB ws ⟨#[112, 117, 116]⟩ 3 = false) (h1 : isB ws ⟨#[100, 101, 108, 101, 116, 101]⟩ 2 = false) (h2 : isB ws ⟨#[97, 100, 100]⟩ 3 = true) {q : Int} {k : ByteArray} (hh : mgH ws = some (q, k)) (hd : delB (wdA ws 3) = none) :
    Calls Tryz.prog 57 #[.pointer (some ⟨g, 0, none⟩), .slice (some ⟨b, 0, none⟩) n n] w (RN none ln w) := by
  have hbl := rd_lt hA (by omega)
  have hgl := hr.lt
  have hBw := hb.le
  obtain ⟨W0, hW0⟩ : ∃ W0, W0 = ((((w.alloc (.cells #[.pointer (some ⟨g, 0, none⟩)] 64)).alloc (.cells #[.slice (some ⟨b, 0, none⟩) n n] 39)).alloc (.cells #[.int .u8 0, .int .i64 0, .string ⟨#[]⟩, .string ⟨#[]⟩, .string ⟨#[]⟩, .int .u64 0] 73)).alloc (.cells #[.int .u8 0, .int .i64 0, .string ⟨#[]⟩, .string ⟨#[]⟩, .string ⟨#[]⟩, .int .u64 0] 73)) := ⟨_, rfl⟩
  obtain ⟨z0, z1, z2, z3, hb0⟩ := four w (.cells #[.pointer (some ⟨g, 0, none⟩)] 64) (.cells #[.slice (some ⟨b, 0, none⟩) n n] 39) (.cells #[.int .u8 0, .int .i64 0, .string ⟨#[]⟩, .string ⟨#[]⟩, .string ⟨#[]⟩, .int .u64 0] 73) (.cells #[.int .u8 0, .int .i64 0, .string ⟨#[]⟩, .string ⟨#[]⟩, .string ⟨#[]⟩, .int .u64 0] 73)
  rw [← hW0] at z0 z1 z2 z3 hb0
  obtain ⟨br, hbr⟩ : ∃ x, x = w.heap.size := ⟨_, rfl⟩
  obtain ⟨bw, hbw⟩ : ∃ x, x = w.heap.size + 1 := ⟨_, rfl⟩
  obtain ⟨bs, hbs⟩ : ∃ x, x = w.heap.size + 1 + 1 := ⟨_, rfl⟩
  obtain ⟨bm, hbm⟩ : ∃ x, x = w.heap.size + 1 + 1 + 1 := ⟨_, rfl⟩
  rw [← hbr] at z0
  rw [← hbw] at z1
  rw [← hbs] at z2
  rw [← hbm] at z3
  have hr0 := hr.later hb0
  have hG := hb.later hb0
  have hA0 := hA.later hb0
  have hw : W0.cell? ⟨bw, 0, none⟩ = some (.slice (some ⟨b, 0, none⟩) n n) := cellh z1 rfl
  have hp : W0.cell? ⟨br, 0, none⟩ = some (.pointer (some ⟨g, 0, none⟩)) := cellh z0 rfl
  have hne : b ≠ bm ∧ bw ≠ bm ∧ br ≠ bm ∧ g ≠ bm := ⟨by omega, by omega, by omega, by omega⟩
  have hBm : B ≤ bm := by omega
  have HBF := Lib.hid (fun V (h : Chg (fun x => x = bm) W0 V) => (hb0.trans (h.below (lo := w.heap.size) (fun x e => by omega) hb0.size) : Below w.heap.size w V))
  have HRC := Lib.hid (fun V (h : Chg (fun x => x = bm) W0 V) => (show RB nV aV V g t ln from h.keep hr0 hne.2.2.2))
  have HGC := Lib.hid (fun V (h : Chg (fun x => x = bm) W0 V) => hG.chg h hBm)
  have HW := Lib.hid hw
  have HRP := Lib.hid hp
  have HNW := Lib.hid hne.2.1
  have HNR := Lib.hid hne.2.2.1
  have HNB := Lib.hid hne.1
  have ZS := Lib.hid z2
  have HNS := Lib.hid (show ¬ bs = bm by omega)
  have N0 := is_no ⟨#[112, 117, 116]⟩ 3 1 hr0 hG hn hn2 hA0 hs (by omega) hw hp z3 hne hBm h0 h00
  rw [show ((3 : Nat) : Int) = 3 from rfl] at N0
  replace N0 := Lib.hid N0
  have N1 := is_no ⟨#[100, 101, 108, 101, 116, 101]⟩ 2 2 hr0 hG hn hn2 hA0 hs (by omega) hw hp z3 hne hBm h1 h00
  rw [show ((2 : Nat) : Int) = 2 from rfl] at N1
  replace N1 := Lib.hid N1
  have IS := is_good ⟨#[97, 100, 100]⟩ 3 3 hr0 hG hn hn2 hA0 hs (by omega) hw hp z3 hne hBm h2 hh
  rw [show ((3 : Nat) : Int) = 3 from rfl] at IS
  replace IS := Lib.hid IS
  have hlen : n = 4 := by rw [← hn]; exact (isB_true h2).2
  have n3 : (3 : Int) < (n : Int) := by omega
  have HX := Lib.hid (wd_cell hA0 (i := 3) (by omega))
  have hx3 := hs 3
  have PU := Lib.hid (fun V (h : Chg (fun x => x = bm) W0 V) => puint_any (wdA ws 3) (by omega) V (HGC.out V h).gw)
  have HFU := Lib.hid (fun u (hu : u ≤ 18446744073709551615) V (h : Chg (fun x => x = bm) W0 V) => futoa_any u hu V (HGC.out V h).gw)
  have HD := Lib.hid hd
  clear hd hx3
  generalize wdA ws 3 = x3 at *
  clear hr hb hn h00 hn2 hA hs hbl hgl hBw z0 z1 z2 z3 hb0 hr0 hG hA0 hw hp hne hBm h0 h1 h2 hh hlen
  go_enter Tryz.func57, Tryz.ntmps57
  go_upto_region 4 with fail
  rw [← hW0]
  rw [← hbm, ← hbs, ← hbw, ← hbr]
  clear hW0 hbm hbs hbw hbr
  go_upto_region 8 with (first
    | (go_at_call 75; ((with_reducible refine N0.out.mono ?_); rintro e w0 ⟨rfl, q0⟩; rw [q0]; clear q0 w0))
    | (go_at_call 75; ((with_reducible refine N1.out.mono ?_); rintro e w0 ⟨rfl, q0⟩; rw [q0]; clear q0 w0))
    | (go_at_call 75; ((with_reducible refine IS.out.mono ?_); rintro e v1 ⟨rfl, zz, cc⟩; have Z0 := Lib.hid zz; have CE := Lib.hid cc; clear zz cc))
    | fail)
  have hw8 := CE.out.cell HW.out HNW.out
  have hx8 := CE.out.cell HX.out HNB.out
  go_upto_region 9 with (first
    | (go_at_call 76; ((with_reducible refine (PU.out _ CE.out).mono ?_); rintro e v2 ⟨v, er, rfl, hv, b2⟩; have C2 := Lib.hid (CE.out.later b2); have Z2 := Lib.hid (keep_bel b2 Z0.out); have HV := Lib.hid hv; clear b2 hv))
    | fail)
  clear hw8 hx8
  rcases HV.out with ⟨rfl, q1, g1⟩ | ⟨⟨te, pe, rfl⟩, q1⟩
  · have hcan : delB x3 = if Lib.decDigits v = x3.data.toList then some v else none := by unfold delB; rw [q1]
    have he : ¬ Lib.decDigits v = x3.data.toList := fun he => by rw [if_pos he, HD.out] at hcan; cases hcan
    have e1 : ((utoaB v).toList == x3.toList) = false := bytes_ne (fun e => he (by rw [← e]; unfold utoaB; rw [ba_list]))
    have CU := Lib.hid (HFU.out v g1)
    clear hcan he q1 g1 HV
    refine wp_region_held_drew (S := (fun V : World => Chg (fun x => x = bm) W0 V)) (by kernel_rfl) ?_ (fun hHeld => ?_)
    · exact C2.out.drew
    have HHeld := Lib.hid hHeld; clear hHeld
    refine wT (i := 0) (oi := { dst := some 35, op := Op.load 64 (Operand.tmp 2), type := 64, pos := "parse.go:151", after := #[], guard := none }) (v := (.pointer (some ⟨g, 0, none⟩) : Value)) rfl (Or.inl ⟨by rfl, ?_⟩) HHeld.out ?_
    · intro V hV; have hc0 := hV.cell HRP.out HNR.out; clear hV; go_simp
    try simp only [pu, pn, s1, s2, s3]
    refine wT (i := 1) (oi := { dst := some 36, op := Op.move (Operand.tmp 8), type := 78, pos := "parse.go:151", after := #[], guard := none }) (v := ?_) rfl (Or.inl ⟨by rfl, ?_⟩) HHeld.out ?_
    rotate_left
    · intro w hSw; clear hSw; go_simp; try with_reducible rfl
    try simp only [pu, pn, s1, s2, s3]
    refine wT (i := 2) (oi := { dst := some 37, op := Op.binOp BinOp.eql 78 (Operand.tmp 36) (Operand.const Value.nilIface) 78, type := 4, pos := "parse.go:151", after := #[{ on := 1, ground := Ground.data }], guard := none }) (v := ?_) rfl (Or.inl ⟨by rfl, ?_⟩) HHeld.out ?_
    rotate_left
    · intro w hSw; clear hSw; go_simp; try with_reducible rfl
    try simp only [pu, pn, s1, s2, s3]
    refine wT (i := 3) (oi := { dst := some 38, op := Op.move (Operand.tmp 37), type := 4, pos := "parse.go:151", after := #[{ on := 2, ground := Ground.data }], guard := none }) (v := ?_) rfl (Or.inl ⟨by rfl, ?_⟩) HHeld.out ?_
    rotate_left
    · intro w hSw; clear hSw; go_simp; try with_reducible rfl
    try simp only [pu, pn, s1, s2, s3]
    refine wT (i := 4) (oi := { dst := some 39, op := Op.move (Operand.tmp 7), type := 71, pos := "parse.go:151", after := #[{ on := 3, ground := Ground.guard }], guard := some (3, true) }) (v := ?_) rfl (Or.inl ⟨by rfl, ?_⟩) HHeld.out ?_
    rotate_left
    · intro w hSw; clear hSw; go_simp; try with_reducible rfl
    try simp only [pu, pn, s1, s2, s3]
    refine wT (i := 6) (oi := { dst := some 41, op := Op.load 39 (Operand.tmp 3), type := 39, pos := "parse.go:151", after := #[{ on := 3, ground := Ground.guard }], guard := some (3, true) }) (v := (.slice (some ⟨b, 0, none⟩) n n : Value)) rfl (Or.inl ⟨by rfl, ?_⟩) HHeld.out ?_
    · intro V hV; have hc0 := hV.cell HW.out HNW.out; clear hV; go_simp
    try simp only [pu, pn, s1, s2, s3]
    refine wT (i := 7) (oi := { dst := some 42, op := Op.indexAddr 39 (Operand.tmp 41) (Operand.const (Value.int IntKind.i64 3)), type := 0, pos := "parse.go:151", after := #[{ on := 6, ground := Ground.data }, { on := 3, ground := Ground.guard }], guard := some (3, true) }) (v := ?_) rfl (Or.inl ⟨by rfl, ?_⟩) HHeld.out ?_
    rotate_left
    · intro w hSw; clear hSw; go_simp; try with_reducible rfl
    try simp only [pu, pn, s1, s2, s3]
    refine wT (i := 8) (oi := { dst := some 43, op := Op.load 9 (Operand.tmp 42), type := 9, pos := "parse.go:151", after := #[{ on := 7, ground := Ground.data }, { on := 3, ground := Ground.guard }], guard := some (3, true) }) (v := (.string x3 : Value)) rfl (Or.inl ⟨by rfl, ?_⟩) HHeld.out ?_
    · intro V hV; have hc0 := hV.cell HX.out HNB.out; clear hV; go_simp
    try simp only [pu, pn, s1, s2, s3]
    refine wpAnyH_ready (rs := [5]) (by kernel_rfl) (by simp) ?_
    refine AllReadyH.cons (o := { dst := some 40, op := Op.call { callee := Callee.value (Operand.func 68), args := #[Operand.tmp 39, Operand.const (Value.int IntKind.i64 10)], argTypes := #[71, 3] }, type := 9, pos := "parse.go:151", after := #[{ on := 4, ground := Ground.data }, { on := 3, ground := Ground.chain }, { on := 3, ground := Ground.guard }], guard := some (3, true) }) rfl (fun K hK => ?_) AllReadyH.nil
    go_simp
    (go_at_call 68; ((with_reducible refine (CU.out _ HHeld.out).mono ?_); rintro e v3 ⟨rfl, bb⟩; have C3 := Lib.hid (HHeld.out.later bb); have Z3 := Lib.hid (keep_bel (bel_dr bb) Z2.out); clear bb))
    refine hK.out _ _ ?_ (fun hHeld => ?_)
    · exact C3.out
    clear HHeld; have HHeld := Lib.hid hHeld; clear hHeld
    clear hK K
    try simp only [pu, pn, s1, s2, s3]
    refine wT (i := 9) (oi := { dst := some 44, op := Op.binOp BinOp.eql 9 (Operand.tmp 40) (Operand.tmp 43) 9, type := 4, pos := "parse.go:151", after := #[{ on := 5, ground := Ground.data }, { on := 8, ground := Ground.data }, { on := 3, ground := Ground.guard }], guard := some (3, true) }) (v := ?_) rfl (Or.inl ⟨by rfl, ?_⟩) HHeld.out ?_
    rotate_left
    · intro w hSw; clear hSw; go_simp; try with_reducible rfl
    try simp only [pu, pn, s1, s2, s3]
    refine wT (i := 10) (oi := { dst := some 45, op := Op.pick (Operand.tmp 38) (Operand.tmp 44) (Operand.const (Value.bool false)), type := 4, pos := "parse.go:151", after := #[{ on := 3, ground := Ground.data }, { on := 9, ground := Ground.data }], guard := none }) (v := ?_) rfl (Or.inl ⟨by rfl, ?_⟩) HHeld.out ?_
    rotate_left
    · intro w hSw; clear hSw; go_simp; try with_reducible rfl
    try simp only [pu, pn, s1, s2, s3]
    refine wpAnyH_ready (rs := [11]) (by kernel_rfl) (by simp) ?_
    refine AllReadyH.cons (o := { dst := some 46, op := Op.call { callee := Callee.value (Operand.func 51), args := #[Operand.tmp 35, Operand.tmp 45, Operand.const (Value.int IntKind.i64 3)], argTypes := #[64, 4, 27] }, type := 0, pos := "parse.go:151", after := #[{ on := 0, ground := Ground.data }, { on := 10, ground := Ground.data }, { on := 5, ground := Ground.chain }], guard := none }) rfl (fun K hK => ?_) AllReadyH.nil
    go_simp
    (go_at_call 51; ((with_reducible refine (check_bad g 3 _ (HRC.out _ HHeld.out)).mono ?_); rintro e w4 ⟨rfl, rfl⟩))
    exact ⟨rfl, rfl, HBF.out _ HHeld.out⟩
  · clear HV
    refine wp_region_held_drew (S := (fun V : World => Chg (fun x => x = bm) W0 V)) (by kernel_rfl) ?_ (fun hHeld => ?_)
    · exact C2.out.drew
    have HHeld := Lib.hid hHeld; clear hHeld
    refine wT (i := 0) (oi := { dst := some 35, op := Op.load 64 (Operand.tmp 2), type := 64, pos := "parse.go:151", after := #[], guard := none }) (v := (.pointer (some ⟨g, 0, none⟩) : Value)) rfl (Or.inl ⟨by rfl, ?_⟩) HHeld.out ?_
    · intro V hV; have hc0 := hV.cell HRP.out HNR.out; clear hV; go_simp
    try simp only [pu, pn, s1, s2, s3]
    refine wT (i := 1) (oi := { dst := some 36, op := Op.move (Operand.tmp 8), type := 78, pos := "parse.go:151", after := #[], guard := none }) (v := ?_) rfl (Or.inl ⟨by rfl, ?_⟩) HHeld.out ?_
    rotate_left
    · intro w hSw; clear hSw; go_simp; try with_reducible rfl
    try simp only [pu, pn, s1, s2, s3]
    refine wT (i := 2) (oi := { dst := some 37, op := Op.binOp BinOp.eql 78 (Operand.tmp 36) (Operand.const Value.nilIface) 78, type := 4, pos := "parse.go:151", after := #[{ on := 1, ground := Ground.data }], guard := none }) (v := ?_) rfl (Or.inl ⟨by rfl, ?_⟩) HHeld.out ?_
    rotate_left
    · intro w hSw; clear hSw; go_simp; try with_reducible rfl
    try simp only [pu, pn, s1, s2, s3]
    refine wT (i := 3) (oi := { dst := some 38, op := Op.move (Operand.tmp 37), type := 4, pos := "parse.go:151", after := #[{ on := 2, ground := Ground.data }], guard := none }) (v := ?_) rfl (Or.inl ⟨by rfl, ?_⟩) HHeld.out ?_
    rotate_left
    · intro w hSw; clear hSw; go_simp; try with_reducible rfl
    try simp only [pu, pn, s1, s2, s3]
    refine wT (i := 4) (oi := { dst := some 39, op := Op.move (Operand.tmp 7), type := 71, pos := "parse.go:151", after := #[{ on := 3, ground := Ground.guard }], guard := some (3, true) }) (v := undef) rfl (Or.inr ⟨by rfl, rfl⟩) HHeld.out ?_
    try simp only [pu, pn, s1, s2, s3]
    refine wT (i := 5) (oi := { dst := some 40, op := Op.call { callee := Callee.value (Operand.func 68), args := #[Operand.tmp 39, Operand.const (Value.int IntKind.i64 10)], argTypes := #[71, 3] }, type := 9, pos := "parse.go:151", after := #[{ on := 4, ground := Ground.data }, { on := 3, ground := Ground.chain }, { on := 3, ground := Ground.guard }], guard := some (3, true) }) (v := undef) rfl (Or.inr ⟨by rfl, rfl⟩) HHeld.out ?_
    try simp only [pu, pn, s1, s2, s3]
    refine wT (i := 6) (oi := { dst := some 41, op := Op.load 39 (Operand.tmp 3), type := 39, pos := "parse.go:151", after := #[{ on := 3, ground := Ground.guard }], guard := some (3, true) }) (v := undef) rfl (Or.inr ⟨by rfl, rfl⟩) HHeld.out ?_
    try simp only [pu, pn, s1, s2, s3]
    refine wT (i := 7) (oi := { dst := some 42, op := Op.indexAddr 39 (Operand.tmp 41) (Operand.const (Value.int IntKind.i64 3)), type := 0, pos := "parse.go:151", after := #[{ on := 6, ground := Ground.data }, { on := 3, ground := Ground.guard }], guard := some (3, true) }) (v := undef) rfl (Or.inr ⟨by rfl, rfl⟩) HHeld.out ?_
    try simp only [pu, pn, s1, s2, s3]
    refine wT (i := 8) (oi := { dst := some 43, op := Op.load 9 (Operand.tmp 42), type := 9, pos := "parse.go:151", after := #[{ on := 7, ground := Ground.data }, { on := 3, ground := Ground.guard }], guard := some (3, true) }) (v := undef) rfl (Or.inr ⟨by rfl, rfl⟩) HHeld.out ?_
    try simp only [pu, pn, s1, s2, s3]
    refine wT (i := 9) (oi := { dst := some 44, op := Op.binOp BinOp.eql 9 (Operand.tmp 40) (Operand.tmp 43) 9, type := 4, pos := "parse.go:151", after := #[{ on := 5, ground := Ground.data }, { on := 8, ground := Ground.data }, { on := 3, ground := Ground.guard }], guard := some (3, true) }) (v := undef) rfl (Or.inr ⟨by rfl, rfl⟩) HHeld.out ?_
    try simp only [pu, pn, s1, s2, s3]
    refine wT (i := 10) (oi := { dst := some 45, op := Op.pick (Operand.tmp 38) (Operand.tmp 44) (Operand.const (Value.bool false)), type := 4, pos := "parse.go:151", after := #[{ on := 3, ground := Ground.data }, { on := 9, ground := Ground.data }], guard := none }) (v := ?_) rfl (Or.inl ⟨by rfl, ?_⟩) HHeld.out ?_
    rotate_left
    · intro w hSw; clear hSw; go_simp; try with_reducible rfl
    try simp only [pu, pn, s1, s2, s3]
    refine wpAnyH_ready (rs := [11]) (by kernel_rfl) (by simp) ?_
    refine AllReadyH.cons (o := { dst := some 46, op := Op.call { callee := Callee.value (Operand.func 51), args := #[Operand.tmp 35, Operand.tmp 45, Operand.const (Value.int IntKind.i64 3)], argTypes := #[64, 4, 27] }, type := 0, pos := "parse.go:151", after := #[{ on := 0, ground := Ground.data }, { on := 10, ground := Ground.data }, { on := 5, ground := Ground.chain }], guard := none }) rfl (fun K hK => ?_) AllReadyH.nil
    go_simp
    (go_at_call 51; ((with_reducible refine (check_bad g 3 _ (HRC.out _ HHeld.out)).mono ?_); rintro e w4 ⟨rfl, rfl⟩))
    exact ⟨rfl, rfl, HBF.out _ HHeld.out⟩
set_option maxHeartbeats 2000000 in
set_option maxRecDepth 100000 in
theorem rm_add_ok {B g b n : Nat} {t : ByteArray} {ln : Int} {ws : List ByteArray} {w : World} (hr : RB nV aV w g t ln) (hb : GB B w) (hn : ws.length = n) (h00 : 0 < n) (hn2 : n ≤ 4000000) (hA : ES.Rd w (some ⟨b, 0, none⟩) ws) (hs : ∀ i, (wdA ws i).size ≤ 1000000) (h0 : isB ws ⟨#[112, 117, 116]⟩ 3 = false) (h1 : isB ws ⟨#[100, 101, 108, 101, 116, 101]⟩ 2 = false) (h2 : isB ws ⟨#[97, 100, 100]⟩ 3 = true) {q : Int} {k : ByteArray} (hh : mgH ws = some (q, k)) {u : Nat} (hd : delB (wdA ws 3) = some u) :
    Calls Tryz.prog 57 #[.pointer (some ⟨g, 0, none⟩), .slice (some ⟨b, 0, none⟩) n n] w (RN (some (M.v ⟨3, q, k, ⟨#[]⟩, ⟨#[]⟩, (u : Int)⟩)) ln w) := by
  have hbl := rd_lt hA (by omega)
  have hgl := hr.lt
  have hBw := hb.le
  obtain ⟨W0, hW0⟩ : ∃ W0, W0 = ((((w.alloc (.cells #[.pointer (some ⟨g, 0, none⟩)] 64)).alloc (.cells #[.slice (some ⟨b, 0, none⟩) n n] 39)).alloc (.cells #[.int .u8 0, .int .i64 0, .string ⟨#[]⟩, .string ⟨#[]⟩, .string ⟨#[]⟩, .int .u64 0] 73)).alloc (.cells #[.int .u8 0, .int .i64 0, .string ⟨#[]⟩, .string ⟨#[]⟩, .string ⟨#[]⟩, .int .u64 0] 73)) := ⟨_, rfl⟩
  obtain ⟨z0, z1, z2, z3, hb0⟩ := four w (.cells #[.pointer (some ⟨g, 0, none⟩)] 64) (.cells #[.slice (some ⟨b, 0, none⟩) n n] 39) (.cells #[.int .u8 0, .int .i64 0, .string ⟨#[]⟩, .string ⟨#[]⟩, .string ⟨#[]⟩, .int .u64 0] 73) (.cells #[.int .u8 0, .int .i64 0, .string ⟨#[]⟩, .string ⟨#[]⟩, .string ⟨#[]⟩, .int .u64 0] 73)
  rw [← hW0] at z0 z1 z2 z3 hb0
  obtain ⟨br, hbr⟩ : ∃ x, x = w.heap.size := ⟨_, rfl⟩
  obtain ⟨bw, hbw⟩ : ∃ x, x = w.heap.size + 1 := ⟨_, rfl⟩
  obtain ⟨bs, hbs⟩ : ∃ x, x = w.heap.size + 1 + 1 := ⟨_, rfl⟩
  obtain ⟨bm, hbm⟩ : ∃ x, x = w.heap.size + 1 + 1 + 1 := ⟨_, rfl⟩
  rw [← hbr] at z0
  rw [← hbw] at z1
  rw [← hbs] at z2
  rw [← hbm] at z3
  have hr0 := hr.later hb0
  have hG := hb.later hb0
  have hA0 := hA.later hb0
  have hw : W0.cell? ⟨bw, 0, none⟩ = some (.slice (some ⟨b, 0, none⟩) n n) := cellh z1 rfl
  have hp : W0.cell? ⟨br, 0, none⟩ = some (.pointer (some ⟨g, 0, none⟩)) := cellh z0 rfl
  have hne : b ≠ bm ∧ bw ≠ bm ∧ br ≠ bm ∧ g ≠ bm := ⟨by omega, by omega, by omega, by omega⟩
  have hBm : B ≤ bm := by omega
  have HBF := Lib.hid (fun V (h : Chg (fun x => x = bm) W0 V) => (hb0.trans (h.below (lo := w.heap.size) (fun x e => by omega) hb0.size) : Below w.heap.size w V))
  have HRC := Lib.hid (fun V (h : Chg (fun x => x = bm) W0 V) => (show RB nV aV V g t ln from h.keep hr0 hne.2.2.2))
  have HGC := Lib.hid (fun V (h : Chg (fun x => x = bm) W0 V) => hG.chg h hBm)
  have HW := Lib.hid hw
  have HRP := Lib.hid hp
  have HNW := Lib.hid hne.2.1
  have HNR := Lib.hid hne.2.2.1
  have HNB := Lib.hid hne.1
  have ZS := Lib.hid z2
  have HNS := Lib.hid (show ¬ bs = bm by omega)
  have N0 := is_no ⟨#[112, 117, 116]⟩ 3 1 hr0 hG hn hn2 hA0 hs (by omega) hw hp z3 hne hBm h0 h00
  rw [show ((3 : Nat) : Int) = 3 from rfl] at N0
  replace N0 := Lib.hid N0
  have N1 := is_no ⟨#[100, 101, 108, 101, 116, 101]⟩ 2 2 hr0 hG hn hn2 hA0 hs (by omega) hw hp z3 hne hBm h1 h00
  rw [show ((2 : Nat) : Int) = 2 from rfl] at N1
  replace N1 := Lib.hid N1
  have IS := is_good ⟨#[97, 100, 100]⟩ 3 3 hr0 hG hn hn2 hA0 hs (by omega) hw hp z3 hne hBm h2 hh
  rw [show ((3 : Nat) : Int) = 3 from rfl] at IS
  replace IS := Lib.hid IS
  have hlen : n = 4 := by rw [← hn]; exact (isB_true h2).2
  have n3 : (3 : Int) < (n : Int) := by omega
  have HX := Lib.hid (wd_cell hA0 (i := 3) (by omega))
  have hx3 := hs 3
  have PU := Lib.hid (fun V (h : Chg (fun x => x = bm) W0 V) => puint_any (wdA ws 3) (by omega) V (HGC.out V h).gw)
  have HFU := Lib.hid (fun u (hu : u ≤ 18446744073709551615) V (h : Chg (fun x => x = bm) W0 V) => futoa_any u hu V (HGC.out V h).gw)
  have HD := Lib.hid hd
  clear hd hx3
  generalize wdA ws 3 = x3 at *
  have HGE := Lib.hid (show w.heap.size ≤ bs by omega)
  clear hr hb hn h00 hn2 hA hs hbl hgl hBw z0 z1 z2 z3 hb0 hr0 hG hA0 hw hp hne hBm h0 h1 h2 hh hlen
  go_enter Tryz.func57, Tryz.ntmps57
  go_upto_region 4 with fail
  rw [← hW0]
  rw [← hbm, ← hbs, ← hbw, ← hbr]
  clear hW0 hbm hbs hbw hbr
  go_upto_region 8 with (first
    | (go_at_call 75; ((with_reducible refine N0.out.mono ?_); rintro e w0 ⟨rfl, q0⟩; rw [q0]; clear q0 w0))
    | (go_at_call 75; ((with_reducible refine N1.out.mono ?_); rintro e w0 ⟨rfl, q0⟩; rw [q0]; clear q0 w0))
    | (go_at_call 75; ((with_reducible refine IS.out.mono ?_); rintro e v1 ⟨rfl, zz, cc⟩; have Z0 := Lib.hid zz; have CE := Lib.hid cc; clear zz cc))
    | fail)
  have hw8 := CE.out.cell HW.out HNW.out
  have hx8 := CE.out.cell HX.out HNB.out
  go_upto_region 9 with (first
    | (go_at_call 76; ((with_reducible refine (PU.out _ CE.out).mono ?_); rintro e v2 ⟨v, er, rfl, hv, b2⟩; have C2 := Lib.hid (CE.out.later b2); have Z2 := Lib.hid (keep_bel b2 Z0.out); have HV := Lib.hid hv; clear b2 hv))
    | fail)
  clear hw8 hx8
  obtain ⟨rfl, rfl, g1, e1⟩ : er = .nilIface ∧ u = v ∧ v ≤ 18446744073709551615 ∧ ((utoaB v).toList == x3.toList) = true := by
    rcases HV.out with ⟨rfl, q1, g1⟩ | ⟨⟨te, pe, rfl⟩, q1⟩
    · have hcan : delB x3 = if Lib.decDigits v = x3.data.toList then some v else none := by unfold delB; rw [q1]
      by_cases he : Lib.decDigits v = x3.data.toList
      · rw [if_pos he, HD.out] at hcan
        injection hcan with hcan
        exact ⟨rfl, hcan, g1, bytes_eq (ba_inj (by unfold utoaB; rw [ba_list]; exact he))⟩
      · rw [if_neg he, HD.out] at hcan
        cases hcan
    · rw [HD.out] at q1
      cases q1
  have CU := Lib.hid (HFU.out u g1)
  clear HV g1 HD
  refine wp_region_held_drew (S := (fun V : World => Chg (fun x => x = bm) W0 V)) (by kernel_rfl) ?_ (fun hHeld => ?_)
  · exact C2.out.drew
  have HHeld := Lib.hid hHeld; clear hHeld
  refine wT (i := 0) (oi := { dst := some 35, op := Op.load 64 (Operand.tmp 2), type := 64, pos := "parse.go:151", after := #[], guard := none }) (v := (.pointer (some ⟨g, 0, none⟩) : Value)) rfl (Or.inl ⟨by rfl, ?_⟩) HHeld.out ?_
  · intro V hV; have hc0 := hV.cell HRP.out HNR.out; clear hV; go_simp
  try simp only [pu, pn, s1, s2, s3]
  refine wT (i := 1) (oi := { dst := some 36, op := Op.move (Operand.tmp 8), type := 78, pos := "parse.go:151", after := #[], guard := none }) (v := ?_) rfl (Or.inl ⟨by rfl, ?_⟩) HHeld.out ?_
  rotate_left
  · intro w hSw; clear hSw; go_simp; try with_reducible rfl
  try simp only [pu, pn, s1, s2, s3]
  refine wT (i := 2) (oi := { dst := some 37, op := Op.binOp BinOp.eql 78 (Operand.tmp 36) (Operand.const Value.nilIface) 78, type := 4, pos := "parse.go:151", after := #[{ on := 1, ground := Ground.data }], guard := none }) (v := ?_) rfl (Or.inl ⟨by rfl, ?_⟩) HHeld.out ?_
  rotate_left
  · intro w hSw; clear hSw; go_simp; try with_reducible rfl
  try simp only [pu, pn, s1, s2, s3]
  refine wT (i := 3) (oi := { dst := some 38, op := Op.move (Operand.tmp 37), type := 4, pos := "parse.go:151", after := #[{ on := 2, ground := Ground.data }], guard := none }) (v := ?_) rfl (Or.inl ⟨by rfl, ?_⟩) HHeld.out ?_
  rotate_left
  · intro w hSw; clear hSw; go_simp; try with_reducible rfl
  try simp only [pu, pn, s1, s2, s3]
  refine wT (i := 4) (oi := { dst := some 39, op := Op.move (Operand.tmp 7), type := 71, pos := "parse.go:151", after := #[{ on := 3, ground := Ground.guard }], guard := some (3, true) }) (v := ?_) rfl (Or.inl ⟨by rfl, ?_⟩) HHeld.out ?_
  rotate_left
  · intro w hSw; clear hSw; go_simp; try with_reducible rfl
  try simp only [pu, pn, s1, s2, s3]
  refine wT (i := 6) (oi := { dst := some 41, op := Op.load 39 (Operand.tmp 3), type := 39, pos := "parse.go:151", after := #[{ on := 3, ground := Ground.guard }], guard := some (3, true) }) (v := (.slice (some ⟨b, 0, none⟩) n n : Value)) rfl (Or.inl ⟨by rfl, ?_⟩) HHeld.out ?_
  · intro V hV; have hc0 := hV.cell HW.out HNW.out; clear hV; go_simp
  try simp only [pu, pn, s1, s2, s3]
  refine wT (i := 7) (oi := { dst := some 42, op := Op.indexAddr 39 (Operand.tmp 41) (Operand.const (Value.int IntKind.i64 3)), type := 0, pos := "parse.go:151", after := #[{ on := 6, ground := Ground.data }, { on := 3, ground := Ground.guard }], guard := some (3, true) }) (v := ?_) rfl (Or.inl ⟨by rfl, ?_⟩) HHeld.out ?_
  rotate_left
  · intro w hSw; clear hSw; go_simp; try with_reducible rfl
  try simp only [pu, pn, s1, s2, s3]
  refine wT (i := 8) (oi := { dst := some 43, op := Op.load 9 (Operand.tmp 42), type := 9, pos := "parse.go:151", after := #[{ on := 7, ground := Ground.data }, { on := 3, ground := Ground.guard }], guard := some (3, true) }) (v := (.string x3 : Value)) rfl (Or.inl ⟨by rfl, ?_⟩) HHeld.out ?_
  · intro V hV; have hc0 := hV.cell HX.out HNB.out; clear hV; go_simp
  try simp only [pu, pn, s1, s2, s3]
  refine wpAnyH_ready (rs := [5]) (by kernel_rfl) (by simp) ?_
  refine AllReadyH.cons (o := { dst := some 40, op := Op.call { callee := Callee.value (Operand.func 68), args := #[Operand.tmp 39, Operand.const (Value.int IntKind.i64 10)], argTypes := #[71, 3] }, type := 9, pos := "parse.go:151", after := #[{ on := 4, ground := Ground.data }, { on := 3, ground := Ground.chain }, { on := 3, ground := Ground.guard }], guard := some (3, true) }) rfl (fun K hK => ?_) AllReadyH.nil
  go_simp
  (go_at_call 68; ((with_reducible refine (CU.out _ HHeld.out).mono ?_); rintro e v3 ⟨rfl, bb⟩; have C3 := Lib.hid (HHeld.out.later bb); have Z3 := Lib.hid (keep_bel (bel_dr bb) Z2.out); clear bb))
  refine hK.out _ _ ?_ (fun hHeld => ?_)
  · exact C3.out
  clear HHeld; have HHeld := Lib.hid hHeld; clear hHeld
  clear hK K
  try simp only [pu, pn, s1, s2, s3]
  refine wT (i := 9) (oi := { dst := some 44, op := Op.binOp BinOp.eql 9 (Operand.tmp 40) (Operand.tmp 43) 9, type := 4, pos := "parse.go:151", after := #[{ on := 5, ground := Ground.data }, { on := 8, ground := Ground.data }, { on := 3, ground := Ground.guard }], guard := some (3, true) }) (v := ?_) rfl (Or.inl ⟨by rfl, ?_⟩) HHeld.out ?_
  rotate_left
  · intro w hSw; clear hSw; go_simp; try with_reducible rfl
  try simp only [pu, pn, s1, s2, s3]
  refine wT (i := 10) (oi := { dst := some 45, op := Op.pick (Operand.tmp 38) (Operand.tmp 44) (Operand.const (Value.bool false)), type := 4, pos := "parse.go:151", after := #[{ on := 3, ground := Ground.data }, { on := 9, ground := Ground.data }], guard := none }) (v := ?_) rfl (Or.inl ⟨by rfl, ?_⟩) HHeld.out ?_
  rotate_left
  · intro w hSw; clear hSw; go_simp; try with_reducible rfl
  try simp only [pu, pn, s1, s2, s3]
  refine wpAnyH_ready (rs := [11]) (by kernel_rfl) (by simp) ?_
  refine AllReadyH.cons (o := { dst := some 46, op := Op.call { callee := Callee.value (Operand.func 51), args := #[Operand.tmp 35, Operand.tmp 45, Operand.const (Value.int IntKind.i64 3)], argTypes := #[64, 4, 27] }, type := 0, pos := "parse.go:151", after := #[{ on := 0, ground := Ground.data }, { on := 10, ground := Ground.data }, { on := 5, ground := Ground.chain }], guard := none }) rfl (fun K hK => ?_) AllReadyH.nil
  go_simp
  (go_at_call 51; ((with_reducible refine (check_ok g 3 _).mono ?_); rintro e w4 ⟨rfl, rfl⟩))
  have C4 := Lib.hid HHeld.out
  refine hK.out _ _ ?_ (fun hHeld => ?_)
  · exact C4.out
  clear HHeld; have HHeld := Lib.hid hHeld; clear hHeld
  clear hK K
  try simp only [pu, pn, s1, s2, s3]
  refine wpAnyH_done (by kernel_rfl) ?_ _
  have C5 := Lib.hid HHeld.out
  clear HHeld
  obtain ⟨k0, k1, k2, k3, k4, k5⟩ := cells6 Z3.out
  obtain ⟨f0, f1, f2, f3, f4, f5⟩ := froz6 Z3.out
  go_upto_region 13 with fail
  clear k0 k1 k2 k3 k4 k5 f0 f1 f2 f3 f4 f5
  have ZU : (v3.setCell ⟨bm, 5, none⟩ (.int .u64 u)).heap[bm]? = some (.cells #[.int .u8 3, .int .i64 q, .string k, .string ⟨#[]⟩, .string ⟨#[]⟩, .int .u64 u] 73 (0, 0)) := hset Z3.out (.int .u64 u)
  have CF : Chg (fun x => x = bm) W0 (v3.setCell ⟨bm, 5, none⟩ (.int .u64 u)) := C5.out.then (Chg.set _ _ rfl)
  obtain ⟨u1, hu1⟩ : ∃ x, x = v3.setCell ⟨bm, 5, none⟩ (.int .u64 u) := ⟨_, rfl⟩
  rw [← hu1] at ZU CF ⊢
  clear hu1
  replace ZU := Lib.hid ZU
  replace CF := Lib.hid CF
  have ZB := Lib.hid (CF.out.keep ZS.out HNS.out)
  obtain ⟨k0, k1, k2, k3, k4, k5⟩ := cells6 ZU.out
  obtain ⟨f0, f1, f2, f3, f4, f5⟩ := cells6 ZB.out
  obtain ⟨g0, g1, g2, g3, g4, g5⟩ := froz6 ZB.out
  go_wp2
  clear k0 k1 k2 k3 k4 k5 f0 f1 f2 f3 f4 f5 g0 g1 g2 g3 g4 g5
  have ZF := set6w ZB.out (.int .u8 3) (.int .i64 q) (.string k) (.string ⟨#[]⟩) (.string ⟨#[]⟩) (.int .u64 u)
  have BF : Below w.heap.size w ((((((u1.setCell ⟨bs, 0, none⟩ (.int .u8 3)).setCell ⟨bs, 1, none⟩ (.int .i64 q)).setCell ⟨bs, 2, none⟩ (.string k)).setCell ⟨bs, 3, none⟩ (.string ⟨#[]⟩)).setCell ⟨bs, 4, none⟩ (.string ⟨#[]⟩)).setCell ⟨bs, 5, none⟩ (.int .u64 u)) := (HBF.out _ CF.out).trans ((chg6 u1 bs (.int .u8 3) (.int .i64 q) (.string k) (.string ⟨#[]⟩) (.string ⟨#[]⟩) (.int .u64 u)).below (lo := w.heap.size) (fun x e => e ▸ HGE.out) (HBF.out _ CF.out).size)
  obtain ⟨WF, hWF⟩ : ∃ WF, WF = ((((((u1.setCell ⟨bs, 0, none⟩ (.int .u8 3)).setCell ⟨bs, 1, none⟩ (.int .i64 q)).setCell ⟨bs, 2, none⟩ (.string k)).setCell ⟨bs, 3, none⟩ (.string ⟨#[]⟩)).setCell ⟨bs, 4, none⟩ (.string ⟨#[]⟩)).setCell ⟨bs, 5, none⟩ (.int .u64 u)) := ⟨_, rfl⟩
  rw [← hWF] at ZF BF ⊢
  clear hWF
  obtain ⟨k0, k1, k2, k3, k4, k5⟩ := cells6 ZF
  refine bodyPost_ret (v := .agg #[.int .u8 3, .int .i64 q, .string k, .string ⟨#[]⟩, .string ⟨#[]⟩, .int .u64 u]) (by simp [results, Tryz.results57, go_sem, k0, k1, k2, k3, k4, k5]) rfl ⟨rfl, BF⟩
theorem rmsg_any {B g b n : Nat} {t : ByteArray} {ln : Int} {ws : List ByteArray} {w : World} (hr : RB nV aV w g t ln) (hb : GB B w) (hn : ws.length = n) (h00 : 0 < n) (hn2 : n ≤ 4000000) (hA : ES.Rd w (some ⟨b, 0, none⟩) ws) (hs : ∀ i, (wdA ws i).size ≤ 1000000) :
    Calls Tryz.prog 57 #[.pointer (some ⟨g, 0, none⟩), .slice (some ⟨b, 0, none⟩) n n] w (RN ((mgB ws).map M.v) ln w) := by
  unfold mgB
  cases h0 : isB ws ⟨#[112, 117, 116]⟩ 3 with
  | true =>
    rw [if_pos rfl]
    cases hh : mgH ws with
    | none => exact rm_bad0 hr hb hn h00 hn2 hA hs h0 hh
    | some y =>
      obtain ⟨q, k⟩ := y
      cases hv : txtB (wdA ws 3) with
      | none => exact rm_put_bad hr hb hn h00 hn2 hA hs h0 hh hv
      | some v => exact rm_put_ok hr hb hn h00 hn2 hA hs h0 hh hv
  | false =>
  rw [if_neg (by decide)]
  cases h1 : isB ws ⟨#[100, 101, 108, 101, 116, 101]⟩ 2 with
  | true =>
    rw [if_pos rfl]
    cases hh : mgH ws with
    | none => exact rm_bad1 hr hb hn h00 hn2 hA hs h0 h1 hh
    | some y =>
      obtain ⟨q, k⟩ := y
      exact rm_delete_ok hr hb hn h00 hn2 hA hs h0 h1 hh
  | false =>
  rw [if_neg (by decide)]
  cases h2 : isB ws ⟨#[97, 100, 100]⟩ 3 with
  | true =>
    rw [if_pos rfl]
    cases hh : mgH ws with
    | none => exact rm_bad2 hr hb hn h00 hn2 hA hs h0 h1 h2 hh
    | some y =>
      obtain ⟨q, k⟩ := y
      cases hv : delB (wdA ws 3) with
      | none => exact rm_add_bad hr hb hn h00 hn2 hA hs h0 h1 h2 hh hv
      | some v => exact rm_add_ok hr hb hn h00 hn2 hA hs h0 h1 h2 hh hv
  | false =>
  rw [if_neg (by decide)]
  cases h3 : isB ws ⟨#[99, 108, 101, 97, 114]⟩ 3 with
  | true =>
    rw [if_pos rfl]
    cases hh : mgH ws with
    | none => exact rm_bad3 hr hb hn h00 hn2 hA hs h0 h1 h2 h3 hh
    | some y =>
      obtain ⟨q, k⟩ := y
      cases hv : txtB (wdA ws 3) with
      | none => exact rm_clear_bad hr hb hn h00 hn2 hA hs h0 h1 h2 h3 hh hv
      | some v => exact rm_clear_ok hr hb hn h00 hn2 hA hs h0 h1 h2 h3 hh hv
  | false =>
  rw [if_neg (by decide)]
  exact rm_none hr hb hn h00 hn2 hA hs h0 h1 h2 h3
end Go.Proofs.YtdebedeebmmleaaGreatDoor
namespace Go.Proofs.YtdebedeebmmleaaGreatDoor
open Go.RowKit Go.Maps
/-- One cell of one element is written. -/
theorem RE.all_set {α : Type} (E : RE α) : ∀ {xs : List α} {i j : Nat} {x y : α} {v : Value}, xs[i]? = some x → j < E.k → E.cs y = (E.cs x).set j v → (E.all xs).set (i * E.k + j) v = E.all (xs.set i y)
  | [], i, j, x, y, v, h, hj, hy => by simp at h
  | a :: xs, 0, j, x, y, v, h, hj, hy => by
    simp at h
    subst h
    rw [List.set_cons_zero, E.all_cons, E.all_cons, hy, Nat.zero_mul, Nat.zero_add, List.set_append_left _ _ (by rw [E.len]; omega)]
  | a :: xs, i + 1, j, x, y, v, h, hj, hy => by
    rw [List.set_cons_succ, E.all_cons, E.all_cons, List.set_append_right _ _ (by rw [E.len, Nat.succ_mul]; omega), E.len, show (i + 1) * E.k + j - E.k = i * E.k + j by rw [Nat.succ_mul]; omega]
    rw [RE.all_set E (by simpa using h) hj hy]
/-- The block of nodes. -/
def NB (w : World) (nb : Nat) (ns : List NC) : Prop := w.heap[nb]? = some (.cells (EN.all ns).toArray 44 (0, 0))
theorem NB.lt {w : World} {nb : Nat} {ns : List NC} (h : NB w nb ns) : nb < w.heap.size := heap_lt h
theorem NB.later {w w' : World} {nb : Nat} {ns : List NC} (h : NB w nb ns) (b : Below w.heap.size w w') : NB w' nb ns := keep_bel b h
theorem NB.chg {D : Nat → Prop} {w w' : World} {nb : Nat} {ns : List NC} (h : NB w nb ns) (c : Chg D w w') (hn : ¬ D nb) : NB w' nb ns := c.keep h hn
theorem NB.fr {w : World} {nb : Nat} {ns : List NC} (h : NB w nb ns) (j : Nat) : w.frozen? ⟨nb, j, none⟩ = false := froh h
theorem NB.get {w : World} {nb z : Nat} {ns : List NC} {x : NC} (h : NB w nb ns) (hx : ns[z]? = some x) {j : Nat} {u : Value} (hu : (EN.cs x)[j]? = some u) : w.cell? ⟨nb, z * 5 + j, none⟩ = some u :=
  cellh h (by have q : (EN.all ns)[z * 5 + j]? = some u := EN.all_get hx hu; simpa using q)
theorem NB.c0 {w : World} {nb z : Nat} {ns : List NC} {x : NC} (h : NB w nb ns) (hx : ns[z]? = some x) : w.cell? ⟨nb, z * 5, none⟩ = some (.int .u8 x.k) := h.get hx (j := 0) rfl
theorem NB.c1 {w : World} {nb z : Nat} {ns : List NC} {x : NC} (h : NB w nb ns) (hx : ns[z]? = some x) : w.cell? ⟨nb, z * 5 + 1, none⟩ = some (.slice x.p.A x.p.n x.p.c) := h.get hx (j := 1) rfl
theorem NB.c2 {w : World} {nb z : Nat} {ns : List NC} {x : NC} (h : NB w nb ns) (hx : ns[z]? = some x) : w.cell? ⟨nb, z * 5 + 2, none⟩ = some (.slice x.q.A x.q.n x.q.c) := h.get hx (j := 2) rfl
theorem NB.c3 {w : World} {nb z : Nat} {ns : List NC} {x : NC} (h : NB w nb ns) (hx : ns[z]? = some x) : w.cell? ⟨nb, z * 5 + 3, none⟩ = some (.slice x.m.A x.m.n x.m.c) := h.get hx (j := 3) rfl
theorem NB.c4 {w : World} {nb z : Nat} {ns : List NC} {x : NC} (h : NB w nb ns) (hx : ns[z]? = some x) : w.cell? ⟨nb, z * 5 + 4, none⟩ = some (.slice x.b.A x.b.n x.b.c) := h.get hx (j := 4) rfl
theorem NB.set {w : World} {nb z j : Nat} {ns : List NC} {x y : NC} {v : Value} (h : NB w nb ns) (hx : ns[z]? = some x) (hj : j < 5) (hy : EN.cs y = (EN.cs x).set j v) : NB (w.setCell ⟨nb, z * 5 + j, none⟩ v) nb (ns.set z y) := by
  have q := hset (i := z * 5 + j) h v
  unfold NB
  rw [q, ← RE.all_set EN hx hj hy]
  simp
  rfl
theorem NB.s0 {w : World} {nb z : Nat} {ns : List NC} {x : NC} (h : NB w nb ns) (hx : ns[z]? = some x) (k : Int) : NB (w.setCell ⟨nb, z * 5, none⟩ (.int .u8 k)) nb (ns.set z { x with k := k }) := h.set hx (j := 0) (by omega) rfl
theorem NB.s1 {w : World} {nb z : Nat} {ns : List NC} {x : NC} (h : NB w nb ns) (hx : ns[z]? = some x) (p : Hd) : NB (w.setCell ⟨nb, z * 5 + 1, none⟩ (.slice p.A p.n p.c)) nb (ns.set z { x with p := p }) := h.set hx (j := 1) (by omega) rfl
theorem NB.s2 {w : World} {nb z : Nat} {ns : List NC} {x : NC} (h : NB w nb ns) (hx : ns[z]? = some x) (p : Hd) : NB (w.setCell ⟨nb, z * 5 + 2, none⟩ (.slice p.A p.n p.c)) nb (ns.set z { x with q := p }) := h.set hx (j := 2) (by omega) rfl
theorem NB.s3 {w : World} {nb z : Nat} {ns : List NC} {x : NC} (h : NB w nb ns) (hx : ns[z]? = some x) (p : Hd) : NB (w.setCell ⟨nb, z * 5 + 3, none⟩ (.slice p.A p.n p.c)) nb (ns.set z { x with m := p }) := h.set hx (j := 3) (by omega) rfl
theorem NB.s4 {w : World} {nb z : Nat} {ns : List NC} {x : NC} (h : NB w nb ns) (hx : ns[z]? = some x) (p : Hd) : NB (w.setCell ⟨nb, z * 5 + 4, none⟩ (.slice p.A p.n p.c)) nb (ns.set z { x with b := p }) := h.set hx (j := 4) (by omega) rfl
/-- A row in memory of its own behind a header, and whose its block is. -/
def OwR {α : Type} (E : RE α) (w : World) (lo : Nat) (O : Nat → Nat × Nat) (who : Nat × Nat) (h : Hd) (l : List α) : Prop :=
  h.n = l.length ∧ E.Row w lo h.A l h.c ∧ ∀ b, RE.fp h.A h.c = some b → O b = who
theorem OwR.later {α : Type} {E : RE α} {w w' : World} {lo : Nat} {O : Nat → Nat × Nat} {who : Nat × Nat} {h : Hd} {l : List α} (r : OwR E w lo O who h l) (b : Below w.heap.size w w') : OwR E w' lo O who h l := ⟨r.1, r.2.1.later b, r.2.2⟩
/-- What is written is somebody else's. -/
theorem OwR.other {α : Type} {E : RE α} {D : Nat → Prop} {w w' : World} {lo : Nat} {O : Nat → Nat × Nat} {who : Nat × Nat} {h : Hd} {l : List α} (r : OwR E w lo O who h l) (c : Chg D w w') (hD : ∀ b, D b → b < lo ∨ w.heap.size ≤ b ∨ O b ≠ who) : OwR E w' lo O who h l := by
  refine ⟨r.1, r.2.1.chg c fun g hg hd => ?_, r.2.2⟩
  have hb := r.2.1.fp_lt hg
  have ho := r.2.2 g hg
  rcases hD g hd with q | q | q
  · omega
  · omega
  · exact q ho
/-- Owners are told of blocks that are new. -/
theorem OwR.tell {α : Type} {E : RE α} {w : World} {lo : Nat} {O O' : Nat → Nat × Nat} {who : Nat × Nat} {h : Hd} {l : List α} (r : OwR E w lo O who h l) (q : ∀ b, b < w.heap.size → O' b = O b) : OwR E w lo O' who h l :=
  ⟨r.1, r.2.1, fun b hb => by rw [q b (r.2.1.fp_lt hb).2]; exact r.2.2 b hb⟩
/-- Blocks of entries, told one by one: they are read and never written. -/
def BlR (w : World) (lo : Nat) (O : Nat → Nat × Nat) (who : Nat × Nat) (hs : List Hd) (bl : List (List EnV)) : Prop :=
  hs.length = bl.length ∧ ∀ (i : Nat) (h : Hd) (l : List EnV), hs[i]? = some h → bl[i]? = some l → OwR EE w lo O who h l
/-- A node's rows. -/
structure NR (w : World) (lo : Nat) (O : Nat → Nat × Nat) (i : Nat) (x : NC) (y : NdV) : Prop where
  k : x.k = y.k
  p : OwR ES w lo O (i, 1) x.p y.piv
  q : OwR EI w lo O (i, 2) x.q y.kids
  m : OwR EM w lo O (i, 3) x.m y.ms
  b : ∃ hs, OwR EH w lo O (i, 4) x.b hs ∧ BlR w lo O (i, 5) hs y.bl
theorem NR.later {w w' : World} {lo i : Nat} {O : Nat → Nat × Nat} {x : NC} {y : NdV} (h : NR w lo O i x y) (b : Below w.heap.size w w') : NR w' lo O i x y :=
  ⟨h.k, h.p.later b, h.q.later b, h.m.later b, by
    obtain ⟨hs, h1, h2, h3⟩ := h.b
    exact ⟨hs, h1.later b, h2, fun i g l hg hl => (h3 i g l hg hl).later b⟩⟩
theorem NR.tell {w : World} {lo i : Nat} {O O' : Nat → Nat × Nat} {x : NC} {y : NdV} (h : NR w lo O i x y) (q : ∀ b, b < w.heap.size → O' b = O b) : NR w lo O' i x y :=
  ⟨h.k, h.p.tell q, h.q.tell q, h.m.tell q, by
    obtain ⟨hs, h1, h2, h3⟩ := h.b
    exact ⟨hs, h1.tell q, h2, fun i g l hg hl => (h3 i g l hg hl).tell q⟩⟩
theorem NR.other {D : Nat → Prop} {w w' : World} {lo i : Nat} {O : Nat → Nat × Nat} {x : NC} {y : NdV} (h : NR w lo O i x y) (c : Chg D w w') (hD : ∀ b, D b → b < lo ∨ w.heap.size ≤ b ∨ (O b).1 ≠ i) : NR w' lo O i x y := by
  have go : ∀ f, ∀ b, D b → b < lo ∨ w.heap.size ≤ b ∨ O b ≠ (i, f) := fun f b hb => by
    rcases hD b hb with q | q | q
    · exact .inl q
    · exact .inr (.inl q)
    · exact .inr (.inr fun e => q (by rw [e]))
  refine ⟨h.k, h.p.other c (go 1), h.q.other c (go 2), h.m.other c (go 3), ?_⟩
  obtain ⟨hs, h1, h2, h3⟩ := h.b
  exact ⟨hs, h1.other c (go 4), h2, fun i g l hg hl => (h3 i g l hg hl).other c (go 5)⟩
/-- All nodes' rows. -/
structure NS (w : World) (lo nb : Nat) (O : Nat → Nat × Nat) (ns : List NC) (ys : List NdV) : Prop where
  blk : NB w nb ns
  lt : nb < lo
  len : ns.length = ys.length
  row : ∀ (i : Nat) (x : NC) (y : NdV), ns[i]? = some x → ys[i]? = some y → NR w lo O i x y
theorem NS.later {w w' : World} {lo nb : Nat} {O : Nat → Nat × Nat} {ns : List NC} {ys : List NdV} (h : NS w lo nb O ns ys) (b : Below w.heap.size w w') : NS w' lo nb O ns ys :=
  ⟨h.blk.later b, h.lt, h.len, fun i x y hx hy => (h.row i x y hx hy).later b⟩
theorem NS.tell {w : World} {lo nb : Nat} {O O' : Nat → Nat × Nat} {ns : List NC} {ys : List NdV} (h : NS w lo nb O ns ys) (q : ∀ b, b < w.heap.size → O' b = O b) : NS w lo nb O' ns ys :=
  ⟨h.blk, h.lt, h.len, fun i x y hx hy => (h.row i x y hx hy).tell q⟩
/-- Something below all rows, and not the nodes, is written. -/
theorem NS.chg {D : Nat → Prop} {w w' : World} {lo nb : Nat} {O : Nat → Nat × Nat} {ns : List NC} {ys : List NdV} (h : NS w lo nb O ns ys) (c : Chg D w w') (hD : ∀ b, D b → b < lo ∧ b ≠ nb) : NS w' lo nb O ns ys :=
  ⟨h.blk.chg c (fun e => (hD nb e).2 rfl), h.lt, h.len, fun i x y hx hy => (h.row i x y hx hy).other c (fun b hb => .inl (hD b hb).1)⟩
/-- One node's cells and rows are written, and nobody else's. -/
theorem NS.node {D : Nat → Prop} {w w' : World} {lo nb z : Nat} {O O' : Nat → Nat × Nat} {ns : List NC} {ys : List NdV} {x' : NC} {y' : NdV} (h : NS w lo nb O ns ys) (c : Chg D w w') (hO : ∀ b, b < w.heap.size → O' b = O b) (hD : ∀ b, D b → b < lo ∨ w.heap.size ≤ b ∨ (O b).1 = z) (hz : z < ns.length) (hb : NB w' nb (ns.set z x')) (hn : NR w' lo O' z x' y') : NS w' lo nb O' (ns.set z x') (ys.set z y') := by
  refine ⟨hb, h.lt, by simp [h.len], fun i x y hx hy => ?_⟩
  by_cases e : z = i
  · subst e
    have hz2 : z < ys.length := by rw [← h.len]; exact hz
    rw [List.getElem?_set_self hz] at hx
    rw [List.getElem?_set_self hz2] at hy
    injection hx with hx
    injection hy with hy
    subst hx hy
    exact hn
  · rw [List.getElem?_set_ne e] at hx hy
    have r := (h.row i x y hx hy)
    have r2 : NR w' lo O i x y := r.other c fun b hb => by
      rcases hD b hb with q | q | q
      · exact .inl q
      · exact .inr (.inl q)
      · exact .inr (.inr fun e2 => e (by omega))
    refine ⟨r2.k, ?_, ?_, ?_, ?_⟩
    · exact ⟨r2.p.1, r2.p.2.1, fun b hb => by rw [hO b (r.p.2.1.fp_lt hb).2]; exact r.p.2.2 b hb⟩
    · exact ⟨r2.q.1, r2.q.2.1, fun b hb => by rw [hO b (r.q.2.1.fp_lt hb).2]; exact r.q.2.2 b hb⟩
    · exact ⟨r2.m.1, r2.m.2.1, fun b hb => by rw [hO b (r.m.2.1.fp_lt hb).2]; exact r.m.2.2 b hb⟩
    · obtain ⟨hs, h1, h2, h3⟩ := r.b
      have c1 : ∀ f, ∀ b, D b → b < lo ∨ w.heap.size ≤ b ∨ O b ≠ (i, f) := fun f b hb => by
        rcases hD b hb with q | q | q
        · exact .inl q
        · exact .inr (.inl q)
        · exact .inr (.inr fun e2 => e (by rw [e2] at q; exact q.symm))
      have go : ∀ {α : Type} {E : RE α} {f : Nat} {g : Hd} {l : List α}, OwR E w lo O (i, f) g l → OwR E w' lo O' (i, f) g l := fun {α E f g l} r => ⟨r.1, (r.other c (c1 f)).2.1, fun b hb => by rw [hO b (r.2.1.fp_lt hb).2]; exact r.2.2 b hb⟩
      exact ⟨hs, go h1, h2, fun j g l hg hl => go (h3 j g l hg hl)⟩
end Go.Proofs.YtdebedeebmmleaaGreatDoor
