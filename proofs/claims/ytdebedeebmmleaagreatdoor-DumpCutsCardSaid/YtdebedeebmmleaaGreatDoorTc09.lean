/- The reader: is a line a message's? -/
import Derived.Test.YtdebedeebmmleaaGreatDoorTc01
import Derived.Test.YtdebedeebmmleaaGreatDoorTc08
set_option linter.unusedVariables false
set_option linter.unusedSimpArgs false
namespace Go.Proofs.YtdebedeebmmleaaGreatDoor
open Go.RowKit Go.Maps
variable {nV aV : Value}
theorem Chg.cell {D : Nat → Prop} {w w' : World} (h : Chg D w w') {b o : Nat} {v : Value} (hc : w.cell? ⟨b, o, none⟩ = some v) (hn : ¬ D b) : w'.cell? ⟨b, o, none⟩ = some v := by
  rw [World.cell?_of_block (a := ⟨b, o, none⟩) (h.block b (World.block_lt_of_cell? w _ hc) hn)]
  exact hc
set_option maxHeartbeats 2000000 in
set_option maxRecDepth 100000 in
theorem is_b1 {B g b n bw br bm : Nat} {t : ByteArray} {ln : Int} {ws : List ByteArray} {w : World} (x : ByteArray) (m : Nat) (kd : Int) (hr : RB nV aV w g t ln) (hb : GB B w) (hn : ws.length = n) (hn2 : n ≤ 4000000) (hA : ES.Rd w (some ⟨b, 0, none⟩) ws) (hs : ∀ i, (wdA ws i).size ≤ 1000000) (hm : 2 ≤ m ∧ m ≤ 10)
    (hw : w.cell? ⟨bw, 0, none⟩ = some (.slice (some ⟨b, 0, none⟩) n n)) (hp : w.cell? ⟨br, 0, none⟩ = some (.pointer (some ⟨g, 0, none⟩))) (hz : w.heap[bm]? = some (.cells #[.int .u8 0, .int .i64 0, .string ⟨#[]⟩, .string ⟨#[]⟩, .string ⟨#[]⟩, .int .u64 0] 73 (0, 0))) (hne : b ≠ bm ∧ bw ≠ bm ∧ br ≠ bm ∧ g ≠ bm) (hBm : B ≤ bm) (hi : isB ws x m = true) (hq : rgB (-1099511627776) 1099511627776 (wdA ws 1) = none) :
    Calls Tryz.prog 75 #[.string x, .int .i64 (m : Int), .int .u8 kd, .pointer (some ⟨bw, 0, none⟩), .pointer (some ⟨br, 0, none⟩), .pointer (some ⟨bm, 0, none⟩)] w fun e w' => e = .panicked [FP ln 3] ∧ Chg (fun x => x = bm) w w' := by
  have hlen : n = m + 1 := by rw [← hn]; exact (isB_true hi).2
  have hx0 := (isB_true hi).1
  have c0 : w.cell? ⟨b, 0, none⟩ = some (.string x) := by
    have h := wd_cell hA (i := 0) (by omega)
    have h2 := wd_at (ws := ws) (i := 0) (by omega)
    rw [hx0] at h2
    injection h2 with h2
    rw [← h2] at h
    exact h
  have HRC := Lib.hid (fun V (h : Chg (fun x => x = bm) w V) => (show RB nV aV V g t ln from h.keep hr hne.2.2.2))
  have HGC := Lib.hid (fun V (h : Chg (fun x => x = bm) w V) => hb.chg h hBm)
  have HX1 := Lib.hid (wd_cell hA (i := 1) (by omega))
  have HX2 := Lib.hid (wd_cell hA (i := 2) (by omega))
  have CQ := Lib.hid (fun V (h : Chg (fun x => x = bm) w V) => rnumber_any (s := wdA ws 1) (-1099511627776) 1099511627776 (HRC.out V h) (HGC.out V h) (Nat.le_trans (hs 1) (by omega)))
  have CT := Lib.hid (fun V (h : Chg (fun x => x = bm) w V) => rtext_any (s := wdA ws 2) (HRC.out V h) (HGC.out V h) (hs 2))
  unfold RN at CQ CT
  generalize wdA ws 1 = x1 at *
  generalize wdA ws 2 = x2 at *
  have HW := Lib.hid hw
  have HRP := Lib.hid hp
  have HNW := Lib.hid hne.2.1
  have HNR := Lib.hid hne.2.2.1
  have HNB := Lib.hid hne.1
  have n0 : (0 : Int) < (n : Int) := by omega
  have n1 : (1 : Int) < (n : Int) := by omega
  have n2 : (2 : Int) < (n : Int) := by omega
  have wm : IntKind.i64.wrap ((m : Int) + 1) = (m : Int) + 1 := IntWalk.i64_in _ (by omega)
  have hmn : (n : Int) = (m : Int) + 1 := by omega
  have hmn2 : ((n : Int) == (m : Int) + 1) = true := by rw [hmn]; simp
  have hxx : (x.toList == x.toList) = true := by simp
  rw [hq] at CQ
  clear hr hb hn hn2 hA hs hm hp hz hne hBm hi hlen hx0 hmn hq CT
  go_enter Tryz.func75, Tryz.ntmps75
  go_upto_region 3 with fail
  clear hw c0 n0 wm hmn2 hxx
  refine wp_region_held_drew (S := (fun V : World => Chg (fun x => x = bm) w V)) (by kernel_rfl) ?_ (fun hHeld => ?_)
  · exact (Chg.refl _ w).drew
  have HHeld := Lib.hid hHeld; clear hHeld
  refine wT (i := 0) (oi := { dst := some 22, op := Op.move (Operand.tmp 2), type := 70, pos := "parse.go:142", after := #[{ on := 11, ground := Ground.gcOnly Departure.inlinedCapture }], guard := none }) (v := ?_) rfl (Or.inl ⟨by rfl, ?_⟩) HHeld.out ?_
  rotate_left
  · intro w hSw; clear hSw; go_simp; try with_reducible rfl
  try simp only [pu, pn, s1, s2, s3]
  refine wT (i := 1) (oi := { dst := some 23, op := Op.load 64 (Operand.tmp 4), type := 64, pos := "parse.go:142", after := #[], guard := none }) (v := (.pointer (some ⟨g, 0, none⟩) : Value)) rfl (Or.inl ⟨by rfl, ?_⟩) HHeld.out ?_
  · intro V hV; have hc0 := hV.cell HRP.out HNR.out; clear hV; go_simp
  try simp only [pu, pn, s1, s2, s3]
  refine wT (i := 2) (oi := { dst := some 24, op := Op.load 39 (Operand.tmp 3), type := 39, pos := "parse.go:142", after := #[], guard := none }) (v := (.slice (some ⟨b, 0, none⟩) n n : Value)) rfl (Or.inl ⟨by rfl, ?_⟩) HHeld.out ?_
  · intro V hV; have hc0 := hV.cell HW.out HNW.out; clear hV; go_simp
  try simp only [pu, pn, s1, s2, s3]
  refine wT (i := 3) (oi := { dst := some 25, op := Op.indexAddr 39 (Operand.tmp 24) (Operand.const (Value.int IntKind.i64 1)), type := 0, pos := "parse.go:142", after := #[{ on := 2, ground := Ground.data }], guard := none }) (v := ?_) rfl (Or.inl ⟨by rfl, ?_⟩) HHeld.out ?_
  rotate_left
  · intro w hSw; clear hSw; go_simp; try with_reducible rfl
  try simp only [pu, pn, s1, s2, s3]
  refine wT (i := 4) (oi := { dst := some 26, op := Op.load 9 (Operand.tmp 25), type := 9, pos := "parse.go:142", after := #[{ on := 3, ground := Ground.data }], guard := none }) (v := (.string x1 : Value)) rfl (Or.inl ⟨by rfl, ?_⟩) HHeld.out ?_
  · intro V hV; have hc0 := hV.cell HX1.out HNB.out; clear hV; go_simp
  try simp only [pu, pn, s1, s2, s3]
  refine wT (i := 6) (oi := { dst := some 28, op := Op.load 64 (Operand.tmp 4), type := 64, pos := "parse.go:142", after := #[], guard := none }) (v := (.pointer (some ⟨g, 0, none⟩) : Value)) rfl (Or.inl ⟨by rfl, ?_⟩) HHeld.out ?_
  · intro V hV; have hc0 := hV.cell HRP.out HNR.out; clear hV; go_simp
  try simp only [pu, pn, s1, s2, s3]
  refine wT (i := 7) (oi := { dst := some 29, op := Op.load 39 (Operand.tmp 3), type := 39, pos := "parse.go:142", after := #[], guard := none }) (v := (.slice (some ⟨b, 0, none⟩) n n : Value)) rfl (Or.inl ⟨by rfl, ?_⟩) HHeld.out ?_
  · intro V hV; have hc0 := hV.cell HW.out HNW.out; clear hV; go_simp
  try simp only [pu, pn, s1, s2, s3]
  refine wT (i := 8) (oi := { dst := some 30, op := Op.indexAddr 39 (Operand.tmp 29) (Operand.const (Value.int IntKind.i64 2)), type := 0, pos := "parse.go:142", after := #[{ on := 7, ground := Ground.data }], guard := none }) (v := ?_) rfl (Or.inl ⟨by rfl, ?_⟩) HHeld.out ?_
  rotate_left
  · intro w hSw; clear hSw; go_simp; try with_reducible rfl
  try simp only [pu, pn, s1, s2, s3]
  refine wT (i := 9) (oi := { dst := some 31, op := Op.load 9 (Operand.tmp 30), type := 9, pos := "parse.go:142", after := #[{ on := 8, ground := Ground.data }], guard := none }) (v := (.string x2 : Value)) rfl (Or.inl ⟨by rfl, ?_⟩) HHeld.out ?_
  · intro V hV; have hc0 := hV.cell HX2.out HNB.out; clear hV; go_simp
  try simp only [pu, pn, s1, s2, s3]
  refine wpAnyH_ready (rs := [5]) (by kernel_rfl) (by simp) ?_
  refine AllReadyH.cons (o := { dst := some 27, op := Op.call { callee := Callee.value (Operand.func 52), args := #[Operand.tmp 23, Operand.tmp 26, Operand.const (Value.int IntKind.i64 (-1099511627776)), Operand.const (Value.int IntKind.i64 1099511627776)], argTypes := #[64, 9, 3, 3] }, type := 3, pos := "parse.go:142", after := #[{ on := 1, ground := Ground.data }, { on := 4, ground := Ground.data }], guard := none }) rfl (fun K hK => ?_) AllReadyH.nil
  go_simp
  (go_at_call 52; ((with_reducible refine (CQ.out _ HHeld.out).mono ?_); rintro e v0 ⟨rfl, bb⟩; have C0 := Lib.hid (HHeld.out.later bb); clear bb))
  exact ⟨rfl, rfl, C0.out⟩
set_option maxHeartbeats 2000000 in
set_option maxRecDepth 100000 in
theorem is_b2 {B g b n bw br bm : Nat} {t : ByteArray} {ln : Int} {ws : List ByteArray} {w : World} (x : ByteArray) (m : Nat) (kd : Int) (hr : RB nV aV w g t ln) (hb : GB B w) (hn : ws.length = n) (hn2 : n ≤ 4000000) (hA : ES.Rd w (some ⟨b, 0, none⟩) ws) (hs : ∀ i, (wdA ws i).size ≤ 1000000) (hm : 2 ≤ m ∧ m ≤ 10)
    (hw : w.cell? ⟨bw, 0, none⟩ = some (.slice (some ⟨b, 0, none⟩) n n)) (hp : w.cell? ⟨br, 0, none⟩ = some (.pointer (some ⟨g, 0, none⟩))) (hz : w.heap[bm]? = some (.cells #[.int .u8 0, .int .i64 0, .string ⟨#[]⟩, .string ⟨#[]⟩, .string ⟨#[]⟩, .int .u64 0] 73 (0, 0))) (hne : b ≠ bm ∧ bw ≠ bm ∧ br ≠ bm ∧ g ≠ bm) (hBm : B ≤ bm) {q : Int} (hi : isB ws x m = true) (hq : rgB (-1099511627776) 1099511627776 (wdA ws 1) = some q) (ht : txtB (wdA ws 2) = none) :
    Calls Tryz.prog 75 #[.string x, .int .i64 (m : Int), .int .u8 kd, .pointer (some ⟨bw, 0, none⟩), .pointer (some ⟨br, 0, none⟩), .pointer (some ⟨bm, 0, none⟩)] w fun e w' => e = .panicked [FP ln 3] ∧ Chg (fun x => x = bm) w w' := by
  have hlen : n = m + 1 := by rw [← hn]; exact (isB_true hi).2
  have hx0 := (isB_true hi).1
  have c0 : w.cell? ⟨b, 0, none⟩ = some (.string x) := by
    have h := wd_cell hA (i := 0) (by omega)
    have h2 := wd_at (ws := ws) (i := 0) (by omega)
    rw [hx0] at h2
    injection h2 with h2
    rw [← h2] at h
    exact h
  have HRC := Lib.hid (fun V (h : Chg (fun x => x = bm) w V) => (show RB nV aV V g t ln from h.keep hr hne.2.2.2))
  have HGC := Lib.hid (fun V (h : Chg (fun x => x = bm) w V) => hb.chg h hBm)
  have HX1 := Lib.hid (wd_cell hA (i := 1) (by omega))
  have HX2 := Lib.hid (wd_cell hA (i := 2) (by omega))
  have CQ := Lib.hid (fun V (h : Chg (fun x => x = bm) w V) => rnumber_any (s := wdA ws 1) (-1099511627776) 1099511627776 (HRC.out V h) (HGC.out V h) (Nat.le_trans (hs 1) (by omega)))
  have CT := Lib.hid (fun V (h : Chg (fun x => x = bm) w V) => rtext_any (s := wdA ws 2) (HRC.out V h) (HGC.out V h) (hs 2))
  unfold RN at CQ CT
  generalize wdA ws 1 = x1 at *
  generalize wdA ws 2 = x2 at *
  have HW := Lib.hid hw
  have HRP := Lib.hid hp
  have HNW := Lib.hid hne.2.1
  have HNR := Lib.hid hne.2.2.1
  have HNB := Lib.hid hne.1
  have n0 : (0 : Int) < (n : Int) := by omega
  have n1 : (1 : Int) < (n : Int) := by omega
  have n2 : (2 : Int) < (n : Int) := by omega
  have wm : IntKind.i64.wrap ((m : Int) + 1) = (m : Int) + 1 := IntWalk.i64_in _ (by omega)
  have hmn : (n : Int) = (m : Int) + 1 := by omega
  have hmn2 : ((n : Int) == (m : Int) + 1) = true := by rw [hmn]; simp
  have hxx : (x.toList == x.toList) = true := by simp
  rw [hq] at CQ
  rw [ht] at CT
  clear hr hb hn hn2 hA hs hm hp hz hne hBm hi hlen hx0 hmn hq ht
  go_enter Tryz.func75, Tryz.ntmps75
  go_upto_region 3 with fail
  clear hw c0 n0 wm hmn2 hxx
  refine wp_region_held_drew (S := (fun V : World => Chg (fun x => x = bm) w V)) (by kernel_rfl) ?_ (fun hHeld => ?_)
  · exact (Chg.refl _ w).drew
  have HHeld := Lib.hid hHeld; clear hHeld
  refine wT (i := 0) (oi := { dst := some 22, op := Op.move (Operand.tmp 2), type := 70, pos := "parse.go:142", after := #[{ on := 11, ground := Ground.gcOnly Departure.inlinedCapture }], guard := none }) (v := ?_) rfl (Or.inl ⟨by rfl, ?_⟩) HHeld.out ?_
  rotate_left
  · intro w hSw; clear hSw; go_simp; try with_reducible rfl
  try simp only [pu, pn, s1, s2, s3]
  refine wT (i := 1) (oi := { dst := some 23, op := Op.load 64 (Operand.tmp 4), type := 64, pos := "parse.go:142", after := #[], guard := none }) (v := (.pointer (some ⟨g, 0, none⟩) : Value)) rfl (Or.inl ⟨by rfl, ?_⟩) HHeld.out ?_
  · intro V hV; have hc0 := hV.cell HRP.out HNR.out; clear hV; go_simp
  try simp only [pu, pn, s1, s2, s3]
  refine wT (i := 2) (oi := { dst := some 24, op := Op.load 39 (Operand.tmp 3), type := 39, pos := "parse.go:142", after := #[], guard := none }) (v := (.slice (some ⟨b, 0, none⟩) n n : Value)) rfl (Or.inl ⟨by rfl, ?_⟩) HHeld.out ?_
  · intro V hV; have hc0 := hV.cell HW.out HNW.out; clear hV; go_simp
  try simp only [pu, pn, s1, s2, s3]
  refine wT (i := 3) (oi := { dst := some 25, op := Op.indexAddr 39 (Operand.tmp 24) (Operand.const (Value.int IntKind.i64 1)), type := 0, pos := "parse.go:142", after := #[{ on := 2, ground := Ground.data }], guard := none }) (v := ?_) rfl (Or.inl ⟨by rfl, ?_⟩) HHeld.out ?_
  rotate_left
  · intro w hSw; clear hSw; go_simp; try with_reducible rfl
  try simp only [pu, pn, s1, s2, s3]
  refine wT (i := 4) (oi := { dst := some 26, op := Op.load 9 (Operand.tmp 25), type := 9, pos := "parse.go:142", after := #[{ on := 3, ground := Ground.data }], guard := none }) (v := (.string x1 : Value)) rfl (Or.inl ⟨by rfl, ?_⟩) HHeld.out ?_
  · intro V hV; have hc0 := hV.cell HX1.out HNB.out; clear hV; go_simp
  try simp only [pu, pn, s1, s2, s3]
  refine wT (i := 6) (oi := { dst := some 28, op := Op.load 64 (Operand.tmp 4), type := 64, pos := "parse.go:142", after := #[], guard := none }) (v := (.pointer (some ⟨g, 0, none⟩) : Value)) rfl (Or.inl ⟨by rfl, ?_⟩) HHeld.out ?_
  · intro V hV; have hc0 := hV.cell HRP.out HNR.out; clear hV; go_simp
  try simp only [pu, pn, s1, s2, s3]
  refine wT (i := 7) (oi := { dst := some 29, op := Op.load 39 (Operand.tmp 3), type := 39, pos := "parse.go:142", after := #[], guard := none }) (v := (.slice (some ⟨b, 0, none⟩) n n : Value)) rfl (Or.inl ⟨by rfl, ?_⟩) HHeld.out ?_
  · intro V hV; have hc0 := hV.cell HW.out HNW.out; clear hV; go_simp
  try simp only [pu, pn, s1, s2, s3]
  refine wT (i := 8) (oi := { dst := some 30, op := Op.indexAddr 39 (Operand.tmp 29) (Operand.const (Value.int IntKind.i64 2)), type := 0, pos := "parse.go:142", after := #[{ on := 7, ground := Ground.data }], guard := none }) (v := ?_) rfl (Or.inl ⟨by rfl, ?_⟩) HHeld.out ?_
  rotate_left
  · intro w hSw; clear hSw; go_simp; try with_reducible rfl
  try simp only [pu, pn, s1, s2, s3]
  refine wT (i := 9) (oi := { dst := some 31, op := Op.load 9 (Operand.tmp 30), type := 9, pos := "parse.go:142", after := #[{ on := 8, ground := Ground.data }], guard := none }) (v := (.string x2 : Value)) rfl (Or.inl ⟨by rfl, ?_⟩) HHeld.out ?_
  · intro V hV; have hc0 := hV.cell HX2.out HNB.out; clear hV; go_simp
  try simp only [pu, pn, s1, s2, s3]
  refine wpAnyH_ready (rs := [5]) (by kernel_rfl) (by simp) ?_
  refine AllReadyH.cons (o := { dst := some 27, op := Op.call { callee := Callee.value (Operand.func 52), args := #[Operand.tmp 23, Operand.tmp 26, Operand.const (Value.int IntKind.i64 (-1099511627776)), Operand.const (Value.int IntKind.i64 1099511627776)], argTypes := #[64, 9, 3, 3] }, type := 3, pos := "parse.go:142", after := #[{ on := 1, ground := Ground.data }, { on := 4, ground := Ground.data }], guard := none }) rfl (fun K hK => ?_) AllReadyH.nil
  go_simp
  (go_at_call 52; ((with_reducible refine (CQ.out _ HHeld.out).mono ?_); rintro e v0 ⟨rfl, bb⟩; have C0 := Lib.hid (HHeld.out.later bb); clear bb))
  refine hK.out _ _ ?_ (fun hHeld => ?_)
  · exact C0.out
  clear HHeld; have HHeld := Lib.hid hHeld; clear hHeld
  clear hK K
  try simp only [pu, pn, s1, s2, s3]
  refine wpAnyH_ready (rs := [10]) (by kernel_rfl) (by simp) ?_
  refine AllReadyH.cons (o := { dst := some 32, op := Op.call { callee := Callee.value (Operand.func 74), args := #[Operand.tmp 28, Operand.tmp 31], argTypes := #[64, 9] }, type := 9, pos := "parse.go:142", after := #[{ on := 6, ground := Ground.data }, { on := 9, ground := Ground.data }, { on := 5, ground := Ground.chain }], guard := none }) rfl (fun K hK => ?_) AllReadyH.nil
  go_simp
  (go_at_call 74; ((with_reducible refine (CT.out _ HHeld.out).mono ?_); rintro e v1 ⟨rfl, bb⟩; have C1 := Lib.hid (HHeld.out.later bb); clear bb))
  exact ⟨rfl, rfl, C1.out⟩
set_option maxHeartbeats 2000000 in
set_option maxRecDepth 100000 in
theorem is_ok {B g b n bw br bm : Nat} {t : ByteArray} {ln : Int} {ws : List ByteArray} {w : World} (x : ByteArray) (m : Nat) (kd : Int) (hr : RB nV aV w g t ln) (hb : GB B w) (hn : ws.length = n) (hn2 : n ≤ 4000000) (hA : ES.Rd w (some ⟨b, 0, none⟩) ws) (hs : ∀ i, (wdA ws i).size ≤ 1000000) (hm : 2 ≤ m ∧ m ≤ 10)
    (hw : w.cell? ⟨bw, 0, none⟩ = some (.slice (some ⟨b, 0, none⟩) n n)) (hp : w.cell? ⟨br, 0, none⟩ = some (.pointer (some ⟨g, 0, none⟩))) (hz : w.heap[bm]? = some (.cells #[.int .u8 0, .int .i64 0, .string ⟨#[]⟩, .string ⟨#[]⟩, .string ⟨#[]⟩, .int .u64 0] 73 (0, 0))) (hne : b ≠ bm ∧ bw ≠ bm ∧ br ≠ bm ∧ g ≠ bm) (hBm : B ≤ bm) {q : Int} {k : ByteArray} (hi : isB ws x m = true) (hq : rgB (-1099511627776) 1099511627776 (wdA ws 1) = some q) (ht : txtB (wdA ws 2) = some k) :
    Calls Tryz.prog 75 #[.string x, .int .i64 (m : Int), .int .u8 kd, .pointer (some ⟨bw, 0, none⟩), .pointer (some ⟨br, 0, none⟩), .pointer (some ⟨bm, 0, none⟩)] w fun e w' => e = .returned (.bool true) ∧ w'.heap[bm]? = some (.cells #[.int .u8 kd, .int .i64 q, .string k, .string ⟨#[]⟩, .string ⟨#[]⟩, .int .u64 0] 73 (0, 0)) ∧ Chg (fun x => x = bm) w w' := by
  have hlen : n = m + 1 := by rw [← hn]; exact (isB_true hi).2
  have hx0 := (isB_true hi).1
  have c0 : w.cell? ⟨b, 0, none⟩ = some (.string x) := by
    have h := wd_cell hA (i := 0) (by omega)
    have h2 := wd_at (ws := ws) (i := 0) (by omega)
    rw [hx0] at h2
    injection h2 with h2
    rw [← h2] at h
    exact h
  have HRC := Lib.hid (fun V (h : Chg (fun x => x = bm) w V) => (show RB nV aV V g t ln from h.keep hr hne.2.2.2))
  have HGC := Lib.hid (fun V (h : Chg (fun x => x = bm) w V) => hb.chg h hBm)
  have HX1 := Lib.hid (wd_cell hA (i := 1) (by omega))
  have HX2 := Lib.hid (wd_cell hA (i := 2) (by omega))
  have CQ := Lib.hid (fun V (h : Chg (fun x => x = bm) w V) => rnumber_any (s := wdA ws 1) (-1099511627776) 1099511627776 (HRC.out V h) (HGC.out V h) (Nat.le_trans (hs 1) (by omega)))
  have CT := Lib.hid (fun V (h : Chg (fun x => x = bm) w V) => rtext_any (s := wdA ws 2) (HRC.out V h) (HGC.out V h) (hs 2))
  unfold RN at CQ CT
  generalize wdA ws 1 = x1 at *
  generalize wdA ws 2 = x2 at *
  have HW := Lib.hid hw
  have HRP := Lib.hid hp
  have HNW := Lib.hid hne.2.1
  have HNR := Lib.hid hne.2.2.1
  have HNB := Lib.hid hne.1
  have n0 : (0 : Int) < (n : Int) := by omega
  have n1 : (1 : Int) < (n : Int) := by omega
  have n2 : (2 : Int) < (n : Int) := by omega
  have wm : IntKind.i64.wrap ((m : Int) + 1) = (m : Int) + 1 := IntWalk.i64_in _ (by omega)
  have hmn : (n : Int) = (m : Int) + 1 := by omega
  have hmn2 : ((n : Int) == (m : Int) + 1) = true := by rw [hmn]; simp
  have hxx : (x.toList == x.toList) = true := by simp
  have ZM := Lib.hid hz
  rw [hq] at CQ
  rw [ht] at CT
  clear hr hb hn hn2 hA hs hm hp hz hne hBm hi hlen hx0 hmn hq ht
  go_enter Tryz.func75, Tryz.ntmps75
  go_upto_region 3 with fail
  clear hw c0 n0 wm hmn2 hxx
  refine wp_region_held_drew (S := (fun V : World => Chg (fun x => x = bm) w V)) (by kernel_rfl) ?_ (fun hHeld => ?_)
  · exact (Chg.refl _ w).drew
  have HHeld := Lib.hid hHeld; clear hHeld
  refine wT (i := 0) (oi := { dst := some 22, op := Op.move (Operand.tmp 2), type := 70, pos := "parse.go:142", after := #[{ on := 11, ground := Ground.gcOnly Departure.inlinedCapture }], guard := none }) (v := ?_) rfl (Or.inl ⟨by rfl, ?_⟩) HHeld.out ?_
  rotate_left
  · intro w hSw; clear hSw; go_simp; try with_reducible rfl
  try simp only [pu, pn, s1, s2, s3]
  refine wT (i := 1) (oi := { dst := some 23, op := Op.load 64 (Operand.tmp 4), type := 64, pos := "parse.go:142", after := #[], guard := none }) (v := (.pointer (some ⟨g, 0, none⟩) : Value)) rfl (Or.inl ⟨by rfl, ?_⟩) HHeld.out ?_
  · intro V hV; have hc0 := hV.cell HRP.out HNR.out; clear hV; go_simp
  try simp only [pu, pn, s1, s2, s3]
  refine wT (i := 2) (oi := { dst := some 24, op := Op.load 39 (Operand.tmp 3), type := 39, pos := "parse.go:142", after := #[], guard := none }) (v := (.slice (some ⟨b, 0, none⟩) n n : Value)) rfl (Or.inl ⟨by rfl, ?_⟩) HHeld.out ?_
  · intro V hV; have hc0 := hV.cell HW.out HNW.out; clear hV; go_simp
  try simp only [pu, pn, s1, s2, s3]
  refine wT (i := 3) (oi := { dst := some 25, op := Op.indexAddr 39 (Operand.tmp 24) (Operand.const (Value.int IntKind.i64 1)), type := 0, pos := "parse.go:142", after := #[{ on := 2, ground := Ground.data }], guard := none }) (v := ?_) rfl (Or.inl ⟨by rfl, ?_⟩) HHeld.out ?_
  rotate_left
  · intro w hSw; clear hSw; go_simp; try with_reducible rfl
  try simp only [pu, pn, s1, s2, s3]
  refine wT (i := 4) (oi := { dst := some 26, op := Op.load 9 (Operand.tmp 25), type := 9, pos := "parse.go:142", after := #[{ on := 3, ground := Ground.data }], guard := none }) (v := (.string x1 : Value)) rfl (Or.inl ⟨by rfl, ?_⟩) HHeld.out ?_
  · intro V hV; have hc0 := hV.cell HX1.out HNB.out; clear hV; go_simp
  try simp only [pu, pn, s1, s2, s3]
  refine wT (i := 6) (oi := { dst := some 28, op := Op.load 64 (Operand.tmp 4), type := 64, pos := "parse.go:142", after := #[], guard := none }) (v := (.pointer (some ⟨g, 0, none⟩) : Value)) rfl (Or.inl ⟨by rfl, ?_⟩) HHeld.out ?_
  · intro V hV; have hc0 := hV.cell HRP.out HNR.out; clear hV; go_simp
  try simp only [pu, pn, s1, s2, s3]
  refine wT (i := 7) (oi := { dst := some 29, op := Op.load 39 (Operand.tmp 3), type := 39, pos := "parse.go:142", after := #[], guard := none }) (v := (.slice (some ⟨b, 0, none⟩) n n : Value)) rfl (Or.inl ⟨by rfl, ?_⟩) HHeld.out ?_
  · intro V hV; have hc0 := hV.cell HW.out HNW.out; clear hV; go_simp
  try simp only [pu, pn, s1, s2, s3]
  refine wT (i := 8) (oi := { dst := some 30, op := Op.indexAddr 39 (Operand.tmp 29) (Operand.const (Value.int IntKind.i64 2)), type := 0, pos := "parse.go:142", after := #[{ on := 7, ground := Ground.data }], guard := none }) (v := ?_) rfl (Or.inl ⟨by rfl, ?_⟩) HHeld.out ?_
  rotate_left
  · intro w hSw; clear hSw; go_simp; try with_reducible rfl
  try simp only [pu, pn, s1, s2, s3]
  refine wT (i := 9) (oi := { dst := some 31, op := Op.load 9 (Operand.tmp 30), type := 9, pos := "parse.go:142", after := #[{ on := 8, ground := Ground.data }], guard := none }) (v := (.string x2 : Value)) rfl (Or.inl ⟨by rfl, ?_⟩) HHeld.out ?_
  · intro V hV; have hc0 := hV.cell HX2.out HNB.out; clear hV; go_simp
  try simp only [pu, pn, s1, s2, s3]
  refine wpAnyH_ready (rs := [5]) (by kernel_rfl) (by simp) ?_
  refine AllReadyH.cons (o := { dst := some 27, op := Op.call { callee := Callee.value (Operand.func 52), args := #[Operand.tmp 23, Operand.tmp 26, Operand.const (Value.int IntKind.i64 (-1099511627776)), Operand.const (Value.int IntKind.i64 1099511627776)], argTypes := #[64, 9, 3, 3] }, type := 3, pos := "parse.go:142", after := #[{ on := 1, ground := Ground.data }, { on := 4, ground := Ground.data }], guard := none }) rfl (fun K hK => ?_) AllReadyH.nil
  go_simp
  (go_at_call 52; ((with_reducible refine (CQ.out _ HHeld.out).mono ?_); rintro e v0 ⟨rfl, bb⟩; have C0 := Lib.hid (HHeld.out.later bb); have Z0 := Lib.hid (keep_bel (bel_dr bb) ZM.out); clear bb))
  refine hK.out _ _ ?_ (fun hHeld => ?_)
  · exact C0.out
  clear HHeld; have HHeld := Lib.hid hHeld; clear hHeld
  clear hK K
  try simp only [pu, pn, s1, s2, s3]
  refine wpAnyH_ready (rs := [10]) (by kernel_rfl) (by simp) ?_
  refine AllReadyH.cons (o := { dst := some 32, op := Op.call { callee := Callee.value (Operand.func 74), args := #[Operand.tmp 28, Operand.tmp 31], argTypes := #[64, 9] }, type := 9, pos := "parse.go:142", after := #[{ on := 6, ground := Ground.data }, { on := 9, ground := Ground.data }, { on := 5, ground := Ground.chain }], guard := none }) rfl (fun K hK => ?_) AllReadyH.nil
  go_simp
  (go_at_call 74; ((with_reducible refine (CT.out _ HHeld.out).mono ?_); rintro e v1 ⟨rfl, bb⟩; have C1 := Lib.hid (HHeld.out.later bb); have Z1 := Lib.hid (keep_bel bb Z0.out); clear bb))
  refine hK.out _ _ ?_ (fun hHeld => ?_)
  · exact C1.out
  clear HHeld; have HHeld := Lib.hid hHeld; clear hHeld
  clear hK K
  try simp only [pu, pn, s1, s2, s3]
  refine wpAnyH_ready (rs := [11]) (by kernel_rfl) (by simp) ?_
  refine AllReadyH.cons (o := { dst := none, op := Op.store 73 (Operand.tmp 5) (Operand.const (Value.agg #[Value.int IntKind.u8 0, Value.int IntKind.i64 0, Value.string { data := #[] }, Value.string { data := #[] }, Value.string { data := #[] }, Value.int IntKind.u64 0])), type := 0, pos := "parse.go:142", after := #[{ on := 10, ground := Ground.chain }, { on := 0, ground := Ground.textOnly Departure.inlinedCapture }, { on := 1, ground := Ground.textOnly Departure.inlinedCapture }, { on := 2, ground := Ground.textOnly Departure.inlinedCapture }, { on := 3, ground := Ground.textOnly Departure.inlinedCapture }, { on := 4, ground := Ground.textOnly Departure.inlinedCapture }, { on := 5, ground := Ground.textOnly Departure.inlinedCapture }, { on := 6, ground := Ground.textOnly Departure.inlinedCapture }, { on := 7, ground := Ground.textOnly Departure.inlinedCapture }, { on := 8, ground := Ground.textOnly Departure.inlinedCapture }, { on := 9, ground := Ground.textOnly Departure.inlinedCapture }, { on := 10, ground := Ground.textOnly Departure.inlinedCapture }], guard := none }) rfl (fun K hK => ?_) AllReadyH.nil
  obtain ⟨k0, k1, k2, k3, k4, k5⟩ := cells6 Z1.out
  obtain ⟨f0, f1, f2, f3, f4, f5⟩ := froz6 Z1.out
  go_simp
  clear k0 k1 k2 k3 k4 k5 f0 f1 f2 f3 f4 f5
  have ZS0 : ((((((v1.setCell ⟨bm, 0, none⟩ (.int .u8 0)).setCell ⟨bm, 1, none⟩ (.int .i64 0)).setCell ⟨bm, 2, none⟩ (.string ⟨#[]⟩)).setCell ⟨bm, 3, none⟩ (.string ⟨#[]⟩)).setCell ⟨bm, 4, none⟩ (.string ⟨#[]⟩)).setCell ⟨bm, 5, none⟩ (.int .u64 0)).heap[bm]? = some (.cells #[.int .u8 0, .int .i64 0, .string ⟨#[]⟩, .string ⟨#[]⟩, .string ⟨#[]⟩, .int .u64 0] 73 (0, 0)) := set6w Z1.out (.int .u8 0) (.int .i64 0) (.string ⟨#[]⟩) (.string ⟨#[]⟩) (.string ⟨#[]⟩) (.int .u64 0)
  have GS0 : Chg (fun x => x = bm) v1 ((((((v1.setCell ⟨bm, 0, none⟩ (.int .u8 0)).setCell ⟨bm, 1, none⟩ (.int .i64 0)).setCell ⟨bm, 2, none⟩ (.string ⟨#[]⟩)).setCell ⟨bm, 3, none⟩ (.string ⟨#[]⟩)).setCell ⟨bm, 4, none⟩ (.string ⟨#[]⟩)).setCell ⟨bm, 5, none⟩ (.int .u64 0)) := chg6 _ _ _ _ _ _ _ _
  obtain ⟨u0, hu0⟩ : ∃ u, u = ((((((v1.setCell ⟨bm, 0, none⟩ (.int .u8 0)).setCell ⟨bm, 1, none⟩ (.int .i64 0)).setCell ⟨bm, 2, none⟩ (.string ⟨#[]⟩)).setCell ⟨bm, 3, none⟩ (.string ⟨#[]⟩)).setCell ⟨bm, 4, none⟩ (.string ⟨#[]⟩)).setCell ⟨bm, 5, none⟩ (.int .u64 0)) := ⟨_, rfl⟩
  rw [← hu0] at ZS0 GS0 ⊢
  clear hu0
  replace ZS0 := Lib.hid ZS0
  replace GS0 := Lib.hid GS0
  refine hK.out _ _ ?_ (fun hHeld => ?_)
  · exact HHeld.out.then GS0.out
  clear HHeld; have HHeld := Lib.hid hHeld; clear hHeld
  clear hK K
  try simp only [pu, pn, s1, s2, s3]
  refine wT (i := 12) (oi := { dst := some 33, op := Op.fieldAddr 73 (Operand.tmp 5) 0, type := 0, pos := "parse.go:142", after := #[{ on := 0, ground := Ground.phase }, { on := 1, ground := Ground.textOnly Departure.inlinedCapture }, { on := 2, ground := Ground.textOnly Departure.inlinedCapture }, { on := 3, ground := Ground.textOnly Departure.inlinedCapture }, { on := 4, ground := Ground.textOnly Departure.inlinedCapture }, { on := 5, ground := Ground.textOnly Departure.inlinedCapture }, { on := 6, ground := Ground.textOnly Departure.inlinedCapture }, { on := 7, ground := Ground.textOnly Departure.inlinedCapture }, { on := 8, ground := Ground.textOnly Departure.inlinedCapture }, { on := 9, ground := Ground.textOnly Departure.inlinedCapture }, { on := 10, ground := Ground.textOnly Departure.inlinedCapture }, { on := 11, ground := Ground.phase }], guard := none }) (v := ?_) rfl (Or.inl ⟨by rfl, ?_⟩) HHeld.out ?_
  rotate_left
  · intro w hSw; clear hSw; go_simp; try with_reducible rfl
  try simp only [pu, pn, s1, s2, s3]
  refine wpAnyH_ready (rs := [13]) (by kernel_rfl) (by simp) ?_
  refine AllReadyH.cons (o := { dst := none, op := Op.store 70 (Operand.tmp 33) (Operand.tmp 22), type := 0, pos := "parse.go:142", after := #[{ on := 12, ground := Ground.data }, { on := 0, ground := Ground.data }, { on := 11, ground := Ground.chain }, { on := 0, ground := Ground.phase }, { on := 1, ground := Ground.textOnly Departure.inlinedCapture }, { on := 2, ground := Ground.textOnly Departure.inlinedCapture }, { on := 3, ground := Ground.textOnly Departure.inlinedCapture }, { on := 4, ground := Ground.textOnly Departure.inlinedCapture }, { on := 5, ground := Ground.textOnly Departure.inlinedCapture }, { on := 6, ground := Ground.textOnly Departure.inlinedCapture }, { on := 7, ground := Ground.textOnly Departure.inlinedCapture }, { on := 8, ground := Ground.textOnly Departure.inlinedCapture }, { on := 9, ground := Ground.textOnly Departure.inlinedCapture }, { on := 10, ground := Ground.textOnly Departure.inlinedCapture }, { on := 11, ground := Ground.phase }], guard := none }) rfl (fun K hK => ?_) AllReadyH.nil
  obtain ⟨k0, k1, k2, k3, k4, k5⟩ := cells6 ZS0.out
  obtain ⟨f0, f1, f2, f3, f4, f5⟩ := froz6 ZS0.out
  go_simp
  clear k0 k1 k2 k3 k4 k5 f0 f1 f2 f3 f4 f5
  have ZS1 : (u0.setCell ⟨bm, 0, none⟩ (.int .u8 kd)).heap[bm]? = some (.cells #[.int .u8 kd, .int .i64 0, .string ⟨#[]⟩, .string ⟨#[]⟩, .string ⟨#[]⟩, .int .u64 0] 73 (0, 0)) := hset ZS0.out (.int .u8 kd)
  have GS1 : Chg (fun x => x = bm) u0 (u0.setCell ⟨bm, 0, none⟩ (.int .u8 kd)) := Chg.set _ _ rfl
  obtain ⟨u1, hu1⟩ : ∃ u, u = (u0.setCell ⟨bm, 0, none⟩ (.int .u8 kd)) := ⟨_, rfl⟩
  rw [← hu1] at ZS1 GS1 ⊢
  clear hu1
  replace ZS1 := Lib.hid ZS1
  replace GS1 := Lib.hid GS1
  refine hK.out _ _ ?_ (fun hHeld => ?_)
  · exact HHeld.out.then GS1.out
  clear HHeld; have HHeld := Lib.hid hHeld; clear hHeld
  clear hK K
  try simp only [pu, pn, s1, s2, s3]
  refine wT (i := 14) (oi := { dst := some 34, op := Op.fieldAddr 73 (Operand.tmp 5) 1, type := 0, pos := "parse.go:142", after := #[{ on := 0, ground := Ground.phase }, { on := 1, ground := Ground.phase }, { on := 2, ground := Ground.phase }, { on := 3, ground := Ground.phase }, { on := 4, ground := Ground.phase }, { on := 5, ground := Ground.phase }, { on := 6, ground := Ground.textOnly Departure.inlinedCapture }, { on := 7, ground := Ground.textOnly Departure.inlinedCapture }, { on := 8, ground := Ground.textOnly Departure.inlinedCapture }, { on := 9, ground := Ground.textOnly Departure.inlinedCapture }, { on := 10, ground := Ground.textOnly Departure.inlinedCapture }, { on := 11, ground := Ground.phase }, { on := 12, ground := Ground.phase }, { on := 13, ground := Ground.phase }], guard := none }) (v := ?_) rfl (Or.inl ⟨by rfl, ?_⟩) HHeld.out ?_
  rotate_left
  · intro w hSw; clear hSw; go_simp; try with_reducible rfl
  try simp only [pu, pn, s1, s2, s3]
  refine wpAnyH_ready (rs := [15]) (by kernel_rfl) (by simp) ?_
  refine AllReadyH.cons (o := { dst := none, op := Op.store 3 (Operand.tmp 34) (Operand.tmp 27), type := 0, pos := "parse.go:142", after := #[{ on := 14, ground := Ground.data }, { on := 5, ground := Ground.data }, { on := 13, ground := Ground.chain }, { on := 0, ground := Ground.phase }, { on := 1, ground := Ground.phase }, { on := 2, ground := Ground.phase }, { on := 3, ground := Ground.phase }, { on := 4, ground := Ground.phase }, { on := 5, ground := Ground.phase }, { on := 6, ground := Ground.textOnly Departure.inlinedCapture }, { on := 7, ground := Ground.textOnly Departure.inlinedCapture }, { on := 8, ground := Ground.textOnly Departure.inlinedCapture }, { on := 9, ground := Ground.textOnly Departure.inlinedCapture }, { on := 10, ground := Ground.textOnly Departure.inlinedCapture }, { on := 11, ground := Ground.phase }, { on := 12, ground := Ground.phase }, { on := 13, ground := Ground.phase }], guard := none }) rfl (fun K hK => ?_) AllReadyH.nil
  obtain ⟨k0, k1, k2, k3, k4, k5⟩ := cells6 ZS1.out
  obtain ⟨f0, f1, f2, f3, f4, f5⟩ := froz6 ZS1.out
  go_simp
  clear k0 k1 k2 k3 k4 k5 f0 f1 f2 f3 f4 f5
  have ZS2 : (u1.setCell ⟨bm, 1, none⟩ (.int .i64 q)).heap[bm]? = some (.cells #[.int .u8 kd, .int .i64 q, .string ⟨#[]⟩, .string ⟨#[]⟩, .string ⟨#[]⟩, .int .u64 0] 73 (0, 0)) := hset ZS1.out (.int .i64 q)
  have GS2 : Chg (fun x => x = bm) u1 (u1.setCell ⟨bm, 1, none⟩ (.int .i64 q)) := Chg.set _ _ rfl
  obtain ⟨u2, hu2⟩ : ∃ u, u = (u1.setCell ⟨bm, 1, none⟩ (.int .i64 q)) := ⟨_, rfl⟩
  rw [← hu2] at ZS2 GS2 ⊢
  clear hu2
  replace ZS2 := Lib.hid ZS2
  replace GS2 := Lib.hid GS2
  refine hK.out _ _ ?_ (fun hHeld => ?_)
  · exact HHeld.out.then GS2.out
  clear HHeld; have HHeld := Lib.hid hHeld; clear hHeld
  clear hK K
  try simp only [pu, pn, s1, s2, s3]
  refine wT (i := 16) (oi := { dst := some 35, op := Op.fieldAddr 73 (Operand.tmp 5) 2, type := 0, pos := "parse.go:142", after := #[{ on := 0, ground := Ground.phase }, { on := 1, ground := Ground.phase }, { on := 2, ground := Ground.phase }, { on := 3, ground := Ground.phase }, { on := 4, ground := Ground.phase }, { on := 5, ground := Ground.phase }, { on := 6, ground := Ground.phase }, { on := 7, ground := Ground.phase }, { on := 8, ground := Ground.phase }, { on := 9, ground := Ground.phase }, { on := 10, ground := Ground.phase }, { on := 11, ground := Ground.phase }, { on := 12, ground := Ground.phase }, { on := 13, ground := Ground.phase }, { on := 14, ground := Ground.phase }, { on := 15, ground := Ground.phase }], guard := none }) (v := ?_) rfl (Or.inl ⟨by rfl, ?_⟩) HHeld.out ?_
  rotate_left
  · intro w hSw; clear hSw; go_simp; try with_reducible rfl
  try simp only [pu, pn, s1, s2, s3]
  refine wpAnyH_ready (rs := [17]) (by kernel_rfl) (by simp) ?_
  refine AllReadyH.cons (o := { dst := none, op := Op.store 9 (Operand.tmp 35) (Operand.tmp 32), type := 0, pos := "parse.go:142", after := #[{ on := 16, ground := Ground.data }, { on := 10, ground := Ground.data }, { on := 15, ground := Ground.chain }, { on := 0, ground := Ground.phase }, { on := 1, ground := Ground.phase }, { on := 2, ground := Ground.phase }, { on := 3, ground := Ground.phase }, { on := 4, ground := Ground.phase }, { on := 5, ground := Ground.phase }, { on := 6, ground := Ground.phase }, { on := 7, ground := Ground.phase }, { on := 8, ground := Ground.phase }, { on := 9, ground := Ground.phase }, { on := 10, ground := Ground.phase }, { on := 11, ground := Ground.phase }, { on := 12, ground := Ground.phase }, { on := 13, ground := Ground.phase }, { on := 14, ground := Ground.phase }, { on := 15, ground := Ground.phase }], guard := none }) rfl (fun K hK => ?_) AllReadyH.nil
  obtain ⟨k0, k1, k2, k3, k4, k5⟩ := cells6 ZS2.out
  obtain ⟨f0, f1, f2, f3, f4, f5⟩ := froz6 ZS2.out
  go_simp
  clear k0 k1 k2 k3 k4 k5 f0 f1 f2 f3 f4 f5
  have ZS3 : (u2.setCell ⟨bm, 2, none⟩ (.string k)).heap[bm]? = some (.cells #[.int .u8 kd, .int .i64 q, .string k, .string ⟨#[]⟩, .string ⟨#[]⟩, .int .u64 0] 73 (0, 0)) := hset ZS2.out (.string k)
  have GS3 : Chg (fun x => x = bm) u2 (u2.setCell ⟨bm, 2, none⟩ (.string k)) := Chg.set _ _ rfl
  obtain ⟨u3, hu3⟩ : ∃ u, u = (u2.setCell ⟨bm, 2, none⟩ (.string k)) := ⟨_, rfl⟩
  rw [← hu3] at ZS3 GS3 ⊢
  clear hu3
  replace ZS3 := Lib.hid ZS3
  replace GS3 := Lib.hid GS3
  refine hK.out _ _ ?_ (fun hHeld => ?_)
  · exact HHeld.out.then GS3.out
  clear HHeld; have HHeld := Lib.hid hHeld; clear hHeld
  clear hK K
  try simp only [pu, pn, s1, s2, s3]
  refine wpAnyH_done (by kernel_rfl) ?_ _
  have CE := Lib.hid HHeld.out
  clear HHeld
  go_wp2
  go_ret
  exact ⟨rfl, ZS3.out, CE.out⟩
set_option maxHeartbeats 2000000 in
set_option maxRecDepth 100000 in
theorem is_no {B g b n bw br bm : Nat} {t : ByteArray} {ln : Int} {ws : List ByteArray} {w : World} (x : ByteArray) (m : Nat) (kd : Int) (hr : RB nV aV w g t ln) (hb : GB B w) (hn : ws.length = n) (hn2 : n ≤ 4000000) (hA : ES.Rd w (some ⟨b, 0, none⟩) ws) (hs : ∀ i, (wdA ws i).size ≤ 1000000) (hm : 2 ≤ m ∧ m ≤ 10)
    (hw : w.cell? ⟨bw, 0, none⟩ = some (.slice (some ⟨b, 0, none⟩) n n)) (hp : w.cell? ⟨br, 0, none⟩ = some (.pointer (some ⟨g, 0, none⟩))) (hz : w.heap[bm]? = some (.cells #[.int .u8 0, .int .i64 0, .string ⟨#[]⟩, .string ⟨#[]⟩, .string ⟨#[]⟩, .int .u64 0] 73 (0, 0))) (hne : b ≠ bm ∧ bw ≠ bm ∧ br ≠ bm ∧ g ≠ bm) (hBm : B ≤ bm) (hi : isB ws x m = false) (hn0 : 0 < n) :
    Calls Tryz.prog 75 #[.string x, .int .i64 (m : Int), .int .u8 kd, .pointer (some ⟨bw, 0, none⟩), .pointer (some ⟨br, 0, none⟩), .pointer (some ⟨bm, 0, none⟩)] w fun e w' => e = .returned (.bool false) ∧ w' = w := by
  have c0 := wd_cell hA (i := 0) (by omega)
  have h2 := wd_at (ws := ws) (i := 0) (by omega)
  obtain ⟨y, hy⟩ : ∃ y, wdA ws 0 = y := ⟨_, rfl⟩
  rw [hy] at c0 h2
  have n0 : (0 : Int) < (n : Int) := by omega
  have wm : IntKind.i64.wrap ((m : Int) + 1) = (m : Int) + 1 := IntWalk.i64_in _ (by omega)
  unfold isB at hi
  rw [h2, hn] at hi
  have hq : ¬ y = x ∨ (y = x ∧ ¬ n = m + 1) := by
    by_cases h : y = x
    · right
      refine ⟨h, fun e => ?_⟩
      rw [h, e] at hi
      simp at hi
    · exact .inl h
  clear hr hb hn hn2 hA hs hm hp hz hne hBm hi h2 hy
  rcases hq with h | ⟨rfl, h⟩
  · have h' : (y.toList == x.toList) = false := bytes_ne h
    clear h
    go_enter Tryz.func75, Tryz.ntmps75
    go_wp2
    go_ret
    exact ⟨rfl, rfl⟩
  · have h0 : ¬ (n : Int) = (m : Int) + 1 := by omega
    have h' : ((n : Int) == (m : Int) + 1) = false := beq_eq_false_iff_ne.2 h0
    have hxx : (y.toList == y.toList) = true := by simp
    clear h
    go_enter Tryz.func75, Tryz.ntmps75
    go_wp2
    go_ret
    exact ⟨rfl, rfl⟩
end Go.Proofs.YtdebedeebmmleaaGreatDoor
