/- A message's line. -/
import Derived.Test.YtelpkajlejbbgaaGreatDoorTd01
import Derived.Test.YtelpkajlejbbgaaGreatDoorTd12
set_option linter.unusedVariables false
set_option linter.unusedSimpArgs false
namespace Go.Proofs.YtelpkajlejbbgaaGreatDoor
open Go.RowKit Go.Maps
theorem Chg.cell {D : Nat → Prop} {w w' : World} (h : Chg D w w') {b o : Nat} {v : Value} (hc : w.cell? ⟨b, o, none⟩ = some v) (hn : ¬ D b) : w'.cell? ⟨b, o, none⟩ = some v := by
  rw [World.cell?_of_block (a := ⟨b, o, none⟩) (h.block b (World.block_lt_of_cell? w _ hc) hn)]
  exact hc
theorem rtext_ok {B g : Nat} {t s k : ByteArray} {ln : Int} {w : World} (hr : RB w g t ln) (hb : GB B w) (hs : s.size ≤ 1000000) (hk : txtB s = some k) :
    Calls Tryz.prog 77 #[.pointer (some ⟨g, 0, none⟩), .string s] w fun e w' => e = .returned (.string k) ∧ Below w.heap.size w w' :=
  (rtext_any hr hb hs).mono fun e w' h => by unfold RN at h; rw [hk] at h; exact h
theorem rtext_bad {B g : Nat} {t s : ByteArray} {ln : Int} {w : World} (hr : RB w g t ln) (hb : GB B w) (hs : s.size ≤ 1000000) (hk : txtB s = none) :
    Calls Tryz.prog 77 #[.pointer (some ⟨g, 0, none⟩), .string s] w fun e w' => e = .panicked [FP ln 3] ∧ Below w.heap.size w w' :=
  (rtext_any hr hb hs).mono fun e w' h => by unfold RN at h; rw [hk] at h; exact h
theorem rnumber_ok {B g : Nat} {t s : ByteArray} {ln k : Int} {w : World} (hr : RB w g t ln) (hb : GB B w) (hs : s.size ≤ 4000000) (hk : numB s = some k) :
    Calls Tryz.prog 75 #[.pointer (some ⟨g, 0, none⟩), .string s] w fun e w' => e = .returned (.int .i64 k) ∧ Below w.heap.size w w' :=
  (rnumber_any hr hb hs).mono fun e w' h => by unfold RN at h; rw [hk] at h; exact h
theorem rnumber_bad {B g : Nat} {t s : ByteArray} {ln : Int} {w : World} (hr : RB w g t ln) (hb : GB B w) (hs : s.size ≤ 4000000) (hk : numB s = none) :
    Calls Tryz.prog 75 #[.pointer (some ⟨g, 0, none⟩), .string s] w fun e w' => e = .panicked [FP ln 3] ∧ Below w.heap.size w w' :=
  (rnumber_any hr hb hs).mono fun e w' h => by unfold RN at h; rw [hk] at h; exact h
theorem delta_ok {s : ByteArray} {k : Nat} {w : World} (hg : GW w) (hs : s.size ≤ 4000000) (hk : delB s = some k) :
    Calls Tryz.prog 102 #[.string s] w fun e w' => e = .returned (.tuple #[.int .u64 k, .bool true]) ∧ Below w.heap.size w w' :=
  (delta_any s (by omega) w hg).mono fun e w' h => by unfold delV at h; rw [hk] at h; exact h
theorem delta_bad {s : ByteArray} {w : World} (hg : GW w) (hs : s.size ≤ 4000000) (hk : delB s = none) :
    Calls Tryz.prog 102 #[.string s] w fun e w' => e = .returned (.tuple #[.int .u64 0, .bool false]) ∧ Below w.heap.size w w' :=
  (delta_any s (by omega) w hg).mono fun e w' h => by unfold delV at h; rw [hk] at h; exact h
set_option maxHeartbeats 1000000 in
set_option maxRecDepth 100000 in
theorem rput_ok {B g b : Nat} {t : ByteArray} {ln : Int} {ws : List ByteArray} {w : World} (hr : RB w g t ln) (hb : GB B w) (hA : ES.Rd w (some ⟨b, 0, none⟩) ws) (hs : ∀ i, (wdA ws i).size ≤ 1000000) (hi : isB ws ⟨#[112, 117, 116]⟩ 2 = true) (ka : ByteArray) (hq0 : txtB (wdA ws 1) = some ka) (kb : ByteArray) (hq1 : txtB (wdA ws 2) = some kb) :
    Calls Tryz.prog 89 #[.pointer (some ⟨g, 0, none⟩), .slice (some ⟨b, 0, none⟩) 3 3] w (RN (some (.agg #[.int .u8 1, .int .i64 0, .string ka, .string ⟨#[]⟩, .string kb, .int .u64 0])) ln w) := by
  have hn : ws.length = 3 := (isB_true hi).2
  have hz0 := hs 1
  have hz1 := hs 2
  have hbl := rd_lt hA (by omega)
  have hgl := hr.lt
  have hBw := hb.le
  obtain ⟨W0, hW0⟩ : ∃ W0, W0 = (w.alloc (.cells #[.slice (some ⟨b, 0, none⟩) 3 3] 83)).alloc (.cells #[.int .u8 0, .int .i64 0, .string ⟨#[]⟩, .string ⟨#[]⟩, .string ⟨#[]⟩, .int .u64 0] 51) := ⟨_, rfl⟩
  have HB0 := Lib.hid (show Below w.heap.size w W0 by rw [hW0]; exact bel_alloc (alb w _) _)
  have ZB := Lib.hid (show W0.heap[w.heap.size]? = some (.cells #[.slice (some ⟨b, 0, none⟩) 3 3] 83) by rw [hW0]; exact keep_bel (alb _ _) (heap_alloc_new w _))
  have ZR := Lib.hid (show W0.heap[w.heap.size + 1]? = some (.cells #[.int .u8 0, .int .i64 0, .string ⟨#[]⟩, .string ⟨#[]⟩, .string ⟨#[]⟩, .int .u64 0] 51) by rw [hW0]; have := heap_alloc_new (w.alloc (.cells #[.slice (some ⟨b, 0, none⟩) 3 3] 83)) (.cells #[.int .u8 0, .int .i64 0, .string ⟨#[]⟩, .string ⟨#[]⟩, .string ⟨#[]⟩, .int .u64 0] 51); simpa using this)
  have HRC := Lib.hid (fun V (h : Chg (fun x => x = w.heap.size + 1) W0 V) => (show RB V g t ln from h.keep (hr.later HB0.out) (by omega)))
  have HGC := Lib.hid (fun V (h : Chg (fun x => x = w.heap.size + 1) W0 V) => (hb.later HB0.out).chg h (by omega))
  have HA0 := Lib.hid (hA.later HB0.out)
  have IS0 := Lib.hid (is101 ⟨#[112, 117, 116]⟩ 2 2 rfl w.heap.size b 3 ws W0 (by omega) hn (by omega) (by omega) (cellh ZB.out rfl) HA0.out)
  rw [hi] at IS0
  have CF0 := Lib.hid (fun V (h : Chg (fun x => x = w.heap.size + 1) W0 V) => rtext_ok (HRC.out V h) (HGC.out V h) hz0 hq0)
  have CF1 := Lib.hid (fun V (h : Chg (fun x => x = w.heap.size + 1) W0 V) => rtext_ok (HRC.out V h) (HGC.out V h) hz1 hq1)
  have hw0 := wd_cell HA0.out (i := 1) (by omega)
  obtain ⟨x0, hx0⟩ : ∃ x, wdA ws 1 = x := ⟨_, rfl⟩
  rw [hx0] at hw0
  rw [hx0] at CF0
  have hw1 := wd_cell HA0.out (i := 2) (by omega)
  obtain ⟨x1, hx1⟩ : ∃ x, wdA ws 2 = x := ⟨_, rfl⟩
  rw [hx1] at hw1
  rw [hx1] at CF1
  have hbx : W0.cell? ⟨w.heap.size, 0, none⟩ = some (.slice (some ⟨b, 0, none⟩) 3 3) := cellh ZB.out rfl
  have HBX := Lib.hid hbx
  have HW0 := Lib.hid hw0
  have HW1 := Lib.hid hw1
  have HNB := Lib.hid (show ¬ w.heap.size = w.heap.size + 1 by omega)
  have HNE := Lib.hid (show ¬ b = w.heap.size + 1 by omega)
  clear hr hb hA hs hi hn hbl hgl hBw hz0 hq0 hz1 hq1 hx0 hx1
  go_enter Tryz.func89, Tryz.ntmps89
  go_upto_region 2 with fail
  rw [← hW0]
  clear hW0
  go_upto_region 3 with (first
    | (go_at_call 101; ((with_reducible refine IS0.out.mono ?_); rintro e w0 ⟨rfl, rfl⟩))
    | fail)
  refine wp_region_held_drew (S := (fun V : World => Chg (fun x => x = w.heap.size + 1) W0 V)) (by kernel_rfl) ?_ (fun hHeld => ?_)
  · exact (Chg.refl _ W0).drew
  have HHeld := Lib.hid hHeld; clear hHeld
  refine wT (i := 0) (oi := { dst := some 12, op := Op.move (Operand.tmp 0), type := 77, pos := "parse.go:139", after := #[], guard := none }) (v := ?_) rfl (Or.inl ⟨by rfl, ?_⟩) HHeld.out ?_
  rotate_left
  · intro w hSw; clear hSw; go_simp; try with_reducible rfl
  try simp only [pu, pn, s1, s2, s3]
  refine wT (i := 1) (oi := { dst := some 13, op := Op.load 83 (Operand.tmp 3), type := 83, pos := "parse.go:139", after := #[], guard := none }) (v := (.slice (some ⟨b, 0, none⟩) 3 3 : Value)) rfl (Or.inl ⟨by rfl, ?_⟩) HHeld.out ?_
  · intro V hV; have hc0 := hV.cell HBX.out HNB.out; clear hV; go_simp
  try simp only [pu, pn, s1, s2, s3]
  refine wT (i := 2) (oi := { dst := some 14, op := Op.indexAddr 83 (Operand.tmp 13) (Operand.const (Value.int IntKind.i64 1)), type := 0, pos := "parse.go:139", after := #[{ on := 1, ground := Ground.data }], guard := none }) (v := ?_) rfl (Or.inl ⟨by rfl, ?_⟩) HHeld.out ?_
  rotate_left
  · intro w hSw; clear hSw; go_simp; try with_reducible rfl
  try simp only [pu, pn, s1, s2, s3]
  refine wT (i := 3) (oi := { dst := some 15, op := Op.load 9 (Operand.tmp 14), type := 9, pos := "parse.go:139", after := #[{ on := 2, ground := Ground.data }], guard := none }) (v := (.string x0 : Value)) rfl (Or.inl ⟨by rfl, ?_⟩) HHeld.out ?_
  · intro V hV; have hc0 := hV.cell HW0.out HNE.out; clear hV; go_simp
  try simp only [pu, pn, s1, s2, s3]
  refine wT (i := 5) (oi := { dst := some 17, op := Op.move (Operand.tmp 0), type := 77, pos := "parse.go:139", after := #[], guard := none }) (v := ?_) rfl (Or.inl ⟨by rfl, ?_⟩) HHeld.out ?_
  rotate_left
  · intro w hSw; clear hSw; go_simp; try with_reducible rfl
  try simp only [pu, pn, s1, s2, s3]
  refine wT (i := 6) (oi := { dst := some 18, op := Op.load 83 (Operand.tmp 3), type := 83, pos := "parse.go:139", after := #[], guard := none }) (v := (.slice (some ⟨b, 0, none⟩) 3 3 : Value)) rfl (Or.inl ⟨by rfl, ?_⟩) HHeld.out ?_
  · intro V hV; have hc0 := hV.cell HBX.out HNB.out; clear hV; go_simp
  try simp only [pu, pn, s1, s2, s3]
  refine wT (i := 7) (oi := { dst := some 19, op := Op.indexAddr 83 (Operand.tmp 18) (Operand.const (Value.int IntKind.i64 2)), type := 0, pos := "parse.go:139", after := #[{ on := 6, ground := Ground.data }], guard := none }) (v := ?_) rfl (Or.inl ⟨by rfl, ?_⟩) HHeld.out ?_
  rotate_left
  · intro w hSw; clear hSw; go_simp; try with_reducible rfl
  try simp only [pu, pn, s1, s2, s3]
  refine wT (i := 8) (oi := { dst := some 20, op := Op.load 9 (Operand.tmp 19), type := 9, pos := "parse.go:139", after := #[{ on := 7, ground := Ground.data }], guard := none }) (v := (.string x1 : Value)) rfl (Or.inl ⟨by rfl, ?_⟩) HHeld.out ?_
  · intro V hV; have hc0 := hV.cell HW1.out HNE.out; clear hV; go_simp
  try simp only [pu, pn, s1, s2, s3]
  refine wpAnyH_ready (rs := [4]) (by kernel_rfl) (by simp) ?_
  refine AllReadyH.cons (o := { dst := some 16, op := Op.call { callee := Callee.value (Operand.func 77), args := #[Operand.tmp 12, Operand.tmp 15], argTypes := #[77, 9] }, type := 9, pos := "parse.go:139", after := #[{ on := 0, ground := Ground.data }, { on := 3, ground := Ground.data }], guard := none }) rfl (fun K hK => ?_) AllReadyH.nil
  go_simp
  go_at_call 77; ((with_reducible refine (CF0.out _ HHeld.out).mono ?_); rintro e v0 ⟨rfl, bb⟩; have B0 := Lib.hid (bel_trans HB0.out (bel_dr bb)); have C0 := Lib.hid (HHeld.out.later bb); have Z0 := Lib.hid (keep_bel (bel_dr bb) ZR.out); clear bb)
  refine hK.out _ _ ?_ (fun hHeld => ?_)
  · exact C0.out
  clear HHeld; have HHeld := Lib.hid hHeld; clear hHeld
  clear hK K
  try simp only [pu, pn, s1, s2, s3]
  refine wpAnyH_ready (rs := [9]) (by kernel_rfl) (by simp) ?_
  refine AllReadyH.cons (o := { dst := some 21, op := Op.call { callee := Callee.value (Operand.func 77), args := #[Operand.tmp 17, Operand.tmp 20], argTypes := #[77, 9] }, type := 9, pos := "parse.go:139", after := #[{ on := 5, ground := Ground.data }, { on := 8, ground := Ground.data }, { on := 4, ground := Ground.chain }], guard := none }) rfl (fun K hK => ?_) AllReadyH.nil
  go_simp
  go_at_call 77; ((with_reducible refine (CF1.out _ HHeld.out).mono ?_); rintro e v1 ⟨rfl, bb⟩; have B1 := Lib.hid (bel_trans B0.out bb); have C1 := Lib.hid (HHeld.out.later bb); have Z1 := Lib.hid (keep_bel bb Z0.out); clear bb)
  refine hK.out _ _ ?_ (fun hHeld => ?_)
  · exact C1.out
  clear HHeld; have HHeld := Lib.hid hHeld; clear hHeld
  clear hK K
  try simp only [pu, pn, s1, s2, s3]
  refine wT (i := 10) (oi := { dst := some 22, op := Op.build 51 #[(0, Operand.const (Value.int IntKind.u8 1)), (2, Operand.tmp 16), (4, Operand.tmp 21)], type := 51, pos := "parse.go:139", after := #[{ on := 4, ground := Ground.data }, { on := 9, ground := Ground.data }], guard := none }) (v := ?_) rfl (Or.inl ⟨by rfl, ?_⟩) HHeld.out ?_
  rotate_left
  · intro w hSw; clear hSw; go_simp; try with_reducible rfl
  try simp only [pu, pn, s1, s2, s3]
  refine wpAnyH_ready (rs := [11]) (by kernel_rfl) (by simp) ?_
  refine AllReadyH.cons (o := { dst := none, op := Op.store 51 (Operand.tmp 4) (Operand.tmp 22), type := 0, pos := "parse.go:139", after := #[{ on := 10, ground := Ground.data }, { on := 9, ground := Ground.chain }, { on := 0, ground := Ground.phase }, { on := 1, ground := Ground.phase }, { on := 2, ground := Ground.phase }, { on := 3, ground := Ground.phase }, { on := 4, ground := Ground.phase }, { on := 5, ground := Ground.phase }, { on := 6, ground := Ground.phase }, { on := 7, ground := Ground.phase }, { on := 8, ground := Ground.phase }, { on := 9, ground := Ground.phase }, { on := 10, ground := Ground.phase }], guard := none }) rfl (fun K hK => ?_) AllReadyH.nil
  obtain ⟨c0, c1, c2, c3, c4, c5⟩ := cells6 Z1.out
  obtain ⟨f0, f1, f2, f3, f4, f5⟩ := froz6 Z1.out
  go_simp
  refine hK.out _ _ ?_ (fun hHeld => ?_)
  · exact HHeld.out.then (chg6 _ _ _ _ _ _ _ _)
  clear HHeld; have HHeld := Lib.hid hHeld; clear hHeld
  clear hK K
  try simp only [pu, pn, s1, s2, s3]
  refine wpAnyH_done (by kernel_rfl) ?_ _
  clear HHeld
  try go_wp2
  have ZF := Lib.hid (set6w Z1.out (.int .u8 1) (.int .i64 0) (.string ka) (.string ⟨#[]⟩) (.string kb) (.int .u64 0))
  have BF := Lib.hid (show Below w.heap.size w ((((((v1.setCell ⟨w.heap.size + 1, 0, none⟩ (.int .u8 1)).setCell ⟨w.heap.size + 1, 1, none⟩ (.int .i64 0)).setCell ⟨w.heap.size + 1, 2, none⟩ (.string ka)).setCell ⟨w.heap.size + 1, 3, none⟩ (.string ⟨#[]⟩)).setCell ⟨w.heap.size + 1, 4, none⟩ (.string kb)).setCell ⟨w.heap.size + 1, 5, none⟩ (.int .u64 0)) from ((chg6 v1 (w.heap.size + 1) (.int .u8 1) (.int .i64 0) (.string ka) (.string ⟨#[]⟩) (.string kb) (.int .u64 0)).below (lo := w.heap.size) (fun x e => by omega) (B1.out.size)) |> fun q => B1.out.trans q)
  obtain ⟨WF, hWF⟩ : ∃ WF, WF = ((((((v1.setCell ⟨w.heap.size + 1, 0, none⟩ (.int .u8 1)).setCell ⟨w.heap.size + 1, 1, none⟩ (.int .i64 0)).setCell ⟨w.heap.size + 1, 2, none⟩ (.string ka)).setCell ⟨w.heap.size + 1, 3, none⟩ (.string ⟨#[]⟩)).setCell ⟨w.heap.size + 1, 4, none⟩ (.string kb)).setCell ⟨w.heap.size + 1, 5, none⟩ (.int .u64 0)) := ⟨_, rfl⟩
  rw [← hWF] at ZF BF ⊢
  clear hWF
  obtain ⟨k0, k1, k2, k3, k4, k5⟩ := cells6 ZF.out
  refine bodyPost_ret (v := .agg #[.int .u8 1, .int .i64 0, .string ka, .string ⟨#[]⟩, .string kb, .int .u64 0]) (by simp [results, Tryz.results89, go_sem, k0, k1, k2, k3, k4, k5]) rfl ⟨rfl, BF.out⟩
set_option maxHeartbeats 1000000 in
set_option maxRecDepth 100000 in
theorem rput_b0 {B g b : Nat} {t : ByteArray} {ln : Int} {ws : List ByteArray} {w : World} (hr : RB w g t ln) (hb : GB B w) (hA : ES.Rd w (some ⟨b, 0, none⟩) ws) (hs : ∀ i, (wdA ws i).size ≤ 1000000) (hi : isB ws ⟨#[112, 117, 116]⟩ 2 = true) (hq0 : txtB (wdA ws 1) = none) :
    Calls Tryz.prog 89 #[.pointer (some ⟨g, 0, none⟩), .slice (some ⟨b, 0, none⟩) 3 3] w (RN none ln w) := by
  have hn : ws.length = 3 := (isB_true hi).2
  have hz0 := hs 1
  have hbl := rd_lt hA (by omega)
  have hgl := hr.lt
  have hBw := hb.le
  obtain ⟨W0, hW0⟩ : ∃ W0, W0 = (w.alloc (.cells #[.slice (some ⟨b, 0, none⟩) 3 3] 83)).alloc (.cells #[.int .u8 0, .int .i64 0, .string ⟨#[]⟩, .string ⟨#[]⟩, .string ⟨#[]⟩, .int .u64 0] 51) := ⟨_, rfl⟩
  have HB0 := Lib.hid (show Below w.heap.size w W0 by rw [hW0]; exact bel_alloc (alb w _) _)
  have ZB := Lib.hid (show W0.heap[w.heap.size]? = some (.cells #[.slice (some ⟨b, 0, none⟩) 3 3] 83) by rw [hW0]; exact keep_bel (alb _ _) (heap_alloc_new w _))
  have ZR := Lib.hid (show W0.heap[w.heap.size + 1]? = some (.cells #[.int .u8 0, .int .i64 0, .string ⟨#[]⟩, .string ⟨#[]⟩, .string ⟨#[]⟩, .int .u64 0] 51) by rw [hW0]; have := heap_alloc_new (w.alloc (.cells #[.slice (some ⟨b, 0, none⟩) 3 3] 83)) (.cells #[.int .u8 0, .int .i64 0, .string ⟨#[]⟩, .string ⟨#[]⟩, .string ⟨#[]⟩, .int .u64 0] 51); simpa using this)
  have HRC := Lib.hid (fun V (h : Chg (fun x => x = w.heap.size + 1) W0 V) => (show RB V g t ln from h.keep (hr.later HB0.out) (by omega)))
  have HGC := Lib.hid (fun V (h : Chg (fun x => x = w.heap.size + 1) W0 V) => (hb.later HB0.out).chg h (by omega))
  have HA0 := Lib.hid (hA.later HB0.out)
  have IS0 := Lib.hid (is101 ⟨#[112, 117, 116]⟩ 2 2 rfl w.heap.size b 3 ws W0 (by omega) hn (by omega) (by omega) (cellh ZB.out rfl) HA0.out)
  rw [hi] at IS0
  have CF0 := Lib.hid (fun V (h : Chg (fun x => x = w.heap.size + 1) W0 V) => rtext_bad (HRC.out V h) (HGC.out V h) hz0 hq0)
  have hw0 := wd_cell HA0.out (i := 1) (by omega)
  obtain ⟨x0, hx0⟩ : ∃ x, wdA ws 1 = x := ⟨_, rfl⟩
  rw [hx0] at hw0
  rw [hx0] at CF0
  have hw1 := wd_cell HA0.out (i := 2) (by omega)
  obtain ⟨x1, hx1⟩ : ∃ x, wdA ws 2 = x := ⟨_, rfl⟩
  rw [hx1] at hw1
  have hbx : W0.cell? ⟨w.heap.size, 0, none⟩ = some (.slice (some ⟨b, 0, none⟩) 3 3) := cellh ZB.out rfl
  have HBX := Lib.hid hbx
  have HW0 := Lib.hid hw0
  have HW1 := Lib.hid hw1
  have HNB := Lib.hid (show ¬ w.heap.size = w.heap.size + 1 by omega)
  have HNE := Lib.hid (show ¬ b = w.heap.size + 1 by omega)
  clear hr hb hA hs hi hn hbl hgl hBw hz0 hq0 hx0 hx1
  go_enter Tryz.func89, Tryz.ntmps89
  go_upto_region 2 with fail
  rw [← hW0]
  clear hW0
  go_upto_region 3 with (first
    | (go_at_call 101; ((with_reducible refine IS0.out.mono ?_); rintro e w0 ⟨rfl, rfl⟩))
    | fail)
  refine wp_region_held_drew (S := (fun V : World => Chg (fun x => x = w.heap.size + 1) W0 V)) (by kernel_rfl) ?_ (fun hHeld => ?_)
  · exact (Chg.refl _ W0).drew
  have HHeld := Lib.hid hHeld; clear hHeld
  refine wT (i := 0) (oi := { dst := some 12, op := Op.move (Operand.tmp 0), type := 77, pos := "parse.go:139", after := #[], guard := none }) (v := ?_) rfl (Or.inl ⟨by rfl, ?_⟩) HHeld.out ?_
  rotate_left
  · intro w hSw; clear hSw; go_simp; try with_reducible rfl
  try simp only [pu, pn, s1, s2, s3]
  refine wT (i := 1) (oi := { dst := some 13, op := Op.load 83 (Operand.tmp 3), type := 83, pos := "parse.go:139", after := #[], guard := none }) (v := (.slice (some ⟨b, 0, none⟩) 3 3 : Value)) rfl (Or.inl ⟨by rfl, ?_⟩) HHeld.out ?_
  · intro V hV; have hc0 := hV.cell HBX.out HNB.out; clear hV; go_simp
  try simp only [pu, pn, s1, s2, s3]
  refine wT (i := 2) (oi := { dst := some 14, op := Op.indexAddr 83 (Operand.tmp 13) (Operand.const (Value.int IntKind.i64 1)), type := 0, pos := "parse.go:139", after := #[{ on := 1, ground := Ground.data }], guard := none }) (v := ?_) rfl (Or.inl ⟨by rfl, ?_⟩) HHeld.out ?_
  rotate_left
  · intro w hSw; clear hSw; go_simp; try with_reducible rfl
  try simp only [pu, pn, s1, s2, s3]
  refine wT (i := 3) (oi := { dst := some 15, op := Op.load 9 (Operand.tmp 14), type := 9, pos := "parse.go:139", after := #[{ on := 2, ground := Ground.data }], guard := none }) (v := (.string x0 : Value)) rfl (Or.inl ⟨by rfl, ?_⟩) HHeld.out ?_
  · intro V hV; have hc0 := hV.cell HW0.out HNE.out; clear hV; go_simp
  try simp only [pu, pn, s1, s2, s3]
  refine wT (i := 5) (oi := { dst := some 17, op := Op.move (Operand.tmp 0), type := 77, pos := "parse.go:139", after := #[], guard := none }) (v := ?_) rfl (Or.inl ⟨by rfl, ?_⟩) HHeld.out ?_
  rotate_left
  · intro w hSw; clear hSw; go_simp; try with_reducible rfl
  try simp only [pu, pn, s1, s2, s3]
  refine wT (i := 6) (oi := { dst := some 18, op := Op.load 83 (Operand.tmp 3), type := 83, pos := "parse.go:139", after := #[], guard := none }) (v := (.slice (some ⟨b, 0, none⟩) 3 3 : Value)) rfl (Or.inl ⟨by rfl, ?_⟩) HHeld.out ?_
  · intro V hV; have hc0 := hV.cell HBX.out HNB.out; clear hV; go_simp
  try simp only [pu, pn, s1, s2, s3]
  refine wT (i := 7) (oi := { dst := some 19, op := Op.indexAddr 83 (Operand.tmp 18) (Operand.const (Value.int IntKind.i64 2)), type := 0, pos := "parse.go:139", after := #[{ on := 6, ground := Ground.data }], guard := none }) (v := ?_) rfl (Or.inl ⟨by rfl, ?_⟩) HHeld.out ?_
  rotate_left
  · intro w hSw; clear hSw; go_simp; try with_reducible rfl
  try simp only [pu, pn, s1, s2, s3]
  refine wT (i := 8) (oi := { dst := some 20, op := Op.load 9 (Operand.tmp 19), type := 9, pos := "parse.go:139", after := #[{ on := 7, ground := Ground.data }], guard := none }) (v := (.string x1 : Value)) rfl (Or.inl ⟨by rfl, ?_⟩) HHeld.out ?_
  · intro V hV; have hc0 := hV.cell HW1.out HNE.out; clear hV; go_simp
  try simp only [pu, pn, s1, s2, s3]
  refine wpAnyH_ready (rs := [4]) (by kernel_rfl) (by simp) ?_
  refine AllReadyH.cons (o := { dst := some 16, op := Op.call { callee := Callee.value (Operand.func 77), args := #[Operand.tmp 12, Operand.tmp 15], argTypes := #[77, 9] }, type := 9, pos := "parse.go:139", after := #[{ on := 0, ground := Ground.data }, { on := 3, ground := Ground.data }], guard := none }) rfl (fun K hK => ?_) AllReadyH.nil
  go_simp
  go_at_call 77; ((with_reducible refine (CF0.out _ HHeld.out).mono ?_); rintro e v0 ⟨rfl, bb⟩)
  exact ⟨rfl, rfl, bel_trans HB0.out (bel_dr bb)⟩
set_option maxHeartbeats 1000000 in
set_option maxRecDepth 100000 in
theorem rput_b1 {B g b : Nat} {t : ByteArray} {ln : Int} {ws : List ByteArray} {w : World} (hr : RB w g t ln) (hb : GB B w) (hA : ES.Rd w (some ⟨b, 0, none⟩) ws) (hs : ∀ i, (wdA ws i).size ≤ 1000000) (hi : isB ws ⟨#[112, 117, 116]⟩ 2 = true) (ka : ByteArray) (hq0 : txtB (wdA ws 1) = some ka) (hq1 : txtB (wdA ws 2) = none) :
    Calls Tryz.prog 89 #[.pointer (some ⟨g, 0, none⟩), .slice (some ⟨b, 0, none⟩) 3 3] w (RN none ln w) := by
  have hn : ws.length = 3 := (isB_true hi).2
  have hz0 := hs 1
  have hz1 := hs 2
  have hbl := rd_lt hA (by omega)
  have hgl := hr.lt
  have hBw := hb.le
  obtain ⟨W0, hW0⟩ : ∃ W0, W0 = (w.alloc (.cells #[.slice (some ⟨b, 0, none⟩) 3 3] 83)).alloc (.cells #[.int .u8 0, .int .i64 0, .string ⟨#[]⟩, .string ⟨#[]⟩, .string ⟨#[]⟩, .int .u64 0] 51) := ⟨_, rfl⟩
  have HB0 := Lib.hid (show Below w.heap.size w W0 by rw [hW0]; exact bel_alloc (alb w _) _)
  have ZB := Lib.hid (show W0.heap[w.heap.size]? = some (.cells #[.slice (some ⟨b, 0, none⟩) 3 3] 83) by rw [hW0]; exact keep_bel (alb _ _) (heap_alloc_new w _))
  have ZR := Lib.hid (show W0.heap[w.heap.size + 1]? = some (.cells #[.int .u8 0, .int .i64 0, .string ⟨#[]⟩, .string ⟨#[]⟩, .string ⟨#[]⟩, .int .u64 0] 51) by rw [hW0]; have := heap_alloc_new (w.alloc (.cells #[.slice (some ⟨b, 0, none⟩) 3 3] 83)) (.cells #[.int .u8 0, .int .i64 0, .string ⟨#[]⟩, .string ⟨#[]⟩, .string ⟨#[]⟩, .int .u64 0] 51); simpa using this)
  have HRC := Lib.hid (fun V (h : Chg (fun x => x = w.heap.size + 1) W0 V) => (show RB V g t ln from h.keep (hr.later HB0.out) (by omega)))
  have HGC := Lib.hid (fun V (h : Chg (fun x => x = w.heap.size + 1) W0 V) => (hb.later HB0.out).chg h (by omega))
  have HA0 := Lib.hid (hA.later HB0.out)
  have IS0 := Lib.hid (is101 ⟨#[112, 117, 116]⟩ 2 2 rfl w.heap.size b 3 ws W0 (by omega) hn (by omega) (by omega) (cellh ZB.out rfl) HA0.out)
  rw [hi] at IS0
  have CF0 := Lib.hid (fun V (h : Chg (fun x => x = w.heap.size + 1) W0 V) => rtext_ok (HRC.out V h) (HGC.out V h) hz0 hq0)
  have CF1 := Lib.hid (fun V (h : Chg (fun x => x = w.heap.size + 1) W0 V) => rtext_bad (HRC.out V h) (HGC.out V h) hz1 hq1)
  have hw0 := wd_cell HA0.out (i := 1) (by omega)
  obtain ⟨x0, hx0⟩ : ∃ x, wdA ws 1 = x := ⟨_, rfl⟩
  rw [hx0] at hw0
  rw [hx0] at CF0
  have hw1 := wd_cell HA0.out (i := 2) (by omega)
  obtain ⟨x1, hx1⟩ : ∃ x, wdA ws 2 = x := ⟨_, rfl⟩
  rw [hx1] at hw1
  rw [hx1] at CF1
  have hbx : W0.cell? ⟨w.heap.size, 0, none⟩ = some (.slice (some ⟨b, 0, none⟩) 3 3) := cellh ZB.out rfl
  have HBX := Lib.hid hbx
  have HW0 := Lib.hid hw0
  have HW1 := Lib.hid hw1
  have HNB := Lib.hid (show ¬ w.heap.size = w.heap.size + 1 by omega)
  have HNE := Lib.hid (show ¬ b = w.heap.size + 1 by omega)
  clear hr hb hA hs hi hn hbl hgl hBw hz0 hq0 hz1 hq1 hx0 hx1
  go_enter Tryz.func89, Tryz.ntmps89
  go_upto_region 2 with fail
  rw [← hW0]
  clear hW0
  go_upto_region 3 with (first
    | (go_at_call 101; ((with_reducible refine IS0.out.mono ?_); rintro e w0 ⟨rfl, rfl⟩))
    | fail)
  refine wp_region_held_drew (S := (fun V : World => Chg (fun x => x = w.heap.size + 1) W0 V)) (by kernel_rfl) ?_ (fun hHeld => ?_)
  · exact (Chg.refl _ W0).drew
  have HHeld := Lib.hid hHeld; clear hHeld
  refine wT (i := 0) (oi := { dst := some 12, op := Op.move (Operand.tmp 0), type := 77, pos := "parse.go:139", after := #[], guard := none }) (v := ?_) rfl (Or.inl ⟨by rfl, ?_⟩) HHeld.out ?_
  rotate_left
  · intro w hSw; clear hSw; go_simp; try with_reducible rfl
  try simp only [pu, pn, s1, s2, s3]
  refine wT (i := 1) (oi := { dst := some 13, op := Op.load 83 (Operand.tmp 3), type := 83, pos := "parse.go:139", after := #[], guard := none }) (v := (.slice (some ⟨b, 0, none⟩) 3 3 : Value)) rfl (Or.inl ⟨by rfl, ?_⟩) HHeld.out ?_
  · intro V hV; have hc0 := hV.cell HBX.out HNB.out; clear hV; go_simp
  try simp only [pu, pn, s1, s2, s3]
  refine wT (i := 2) (oi := { dst := some 14, op := Op.indexAddr 83 (Operand.tmp 13) (Operand.const (Value.int IntKind.i64 1)), type := 0, pos := "parse.go:139", after := #[{ on := 1, ground := Ground.data }], guard := none }) (v := ?_) rfl (Or.inl ⟨by rfl, ?_⟩) HHeld.out ?_
  rotate_left
  · intro w hSw; clear hSw; go_simp; try with_reducible rfl
  try simp only [pu, pn, s1, s2, s3]
  refine wT (i := 3) (oi := { dst := some 15, op := Op.load 9 (Operand.tmp 14), type := 9, pos := "parse.go:139", after := #[{ on := 2, ground := Ground.data }], guard := none }) (v := (.string x0 : Value)) rfl (Or.inl ⟨by rfl, ?_⟩) HHeld.out ?_
  · intro V hV; have hc0 := hV.cell HW0.out HNE.out; clear hV; go_simp
  try simp only [pu, pn, s1, s2, s3]
  refine wT (i := 5) (oi := { dst := some 17, op := Op.move (Operand.tmp 0), type := 77, pos := "parse.go:139", after := #[], guard := none }) (v := ?_) rfl (Or.inl ⟨by rfl, ?_⟩) HHeld.out ?_
  rotate_left
  · intro w hSw; clear hSw; go_simp; try with_reducible rfl
  try simp only [pu, pn, s1, s2, s3]
  refine wT (i := 6) (oi := { dst := some 18, op := Op.load 83 (Operand.tmp 3), type := 83, pos := "parse.go:139", after := #[], guard := none }) (v := (.slice (some ⟨b, 0, none⟩) 3 3 : Value)) rfl (Or.inl ⟨by rfl, ?_⟩) HHeld.out ?_
  · intro V hV; have hc0 := hV.cell HBX.out HNB.out; clear hV; go_simp
  try simp only [pu, pn, s1, s2, s3]
  refine wT (i := 7) (oi := { dst := some 19, op := Op.indexAddr 83 (Operand.tmp 18) (Operand.const (Value.int IntKind.i64 2)), type := 0, pos := "parse.go:139", after := #[{ on := 6, ground := Ground.data }], guard := none }) (v := ?_) rfl (Or.inl ⟨by rfl, ?_⟩) HHeld.out ?_
  rotate_left
  · intro w hSw; clear hSw; go_simp; try with_reducible rfl
  try simp only [pu, pn, s1, s2, s3]
  refine wT (i := 8) (oi := { dst := some 20, op := Op.load 9 (Operand.tmp 19), type := 9, pos := "parse.go:139", after := #[{ on := 7, ground := Ground.data }], guard := none }) (v := (.string x1 : Value)) rfl (Or.inl ⟨by rfl, ?_⟩) HHeld.out ?_
  · intro V hV; have hc0 := hV.cell HW1.out HNE.out; clear hV; go_simp
  try simp only [pu, pn, s1, s2, s3]
  refine wpAnyH_ready (rs := [4]) (by kernel_rfl) (by simp) ?_
  refine AllReadyH.cons (o := { dst := some 16, op := Op.call { callee := Callee.value (Operand.func 77), args := #[Operand.tmp 12, Operand.tmp 15], argTypes := #[77, 9] }, type := 9, pos := "parse.go:139", after := #[{ on := 0, ground := Ground.data }, { on := 3, ground := Ground.data }], guard := none }) rfl (fun K hK => ?_) AllReadyH.nil
  go_simp
  go_at_call 77; ((with_reducible refine (CF0.out _ HHeld.out).mono ?_); rintro e v0 ⟨rfl, bb⟩; have B0 := Lib.hid (bel_trans HB0.out (bel_dr bb)); have C0 := Lib.hid (HHeld.out.later bb); have Z0 := Lib.hid (keep_bel (bel_dr bb) ZR.out); clear bb)
  refine hK.out _ _ ?_ (fun hHeld => ?_)
  · exact C0.out
  clear HHeld; have HHeld := Lib.hid hHeld; clear hHeld
  clear hK K
  try simp only [pu, pn, s1, s2, s3]
  refine wpAnyH_ready (rs := [9]) (by kernel_rfl) (by simp) ?_
  refine AllReadyH.cons (o := { dst := some 21, op := Op.call { callee := Callee.value (Operand.func 77), args := #[Operand.tmp 17, Operand.tmp 20], argTypes := #[77, 9] }, type := 9, pos := "parse.go:139", after := #[{ on := 5, ground := Ground.data }, { on := 8, ground := Ground.data }, { on := 4, ground := Ground.chain }], guard := none }) rfl (fun K hK => ?_) AllReadyH.nil
  go_simp
  go_at_call 77; ((with_reducible refine (CF1.out _ HHeld.out).mono ?_); rintro e v1 ⟨rfl, bb⟩)
  exact ⟨rfl, rfl, bel_trans B0.out bb⟩
set_option maxHeartbeats 1000000 in
set_option maxRecDepth 100000 in
theorem rdel_ok {B g b : Nat} {t : ByteArray} {ln : Int} {ws : List ByteArray} {w : World} (hr : RB w g t ln) (hb : GB B w) (hA : ES.Rd w (some ⟨b, 0, none⟩) ws) (hs : ∀ i, (wdA ws i).size ≤ 1000000) (hi : isB ws ⟨#[100, 101, 108, 101, 116, 101]⟩ 1 = true) (ka : ByteArray) (hq0 : txtB (wdA ws 1) = some ka) :
    Calls Tryz.prog 89 #[.pointer (some ⟨g, 0, none⟩), .slice (some ⟨b, 0, none⟩) 2 2] w (RN (some (.agg #[.int .u8 2, .int .i64 0, .string ka, .string ⟨#[]⟩, .string ⟨#[]⟩, .int .u64 0])) ln w) := by
  have hn : ws.length = 2 := (isB_true hi).2
  have hz0 := hs 1
  have hbl := rd_lt hA (by omega)
  have hgl := hr.lt
  have hBw := hb.le
  obtain ⟨W0, hW0⟩ : ∃ W0, W0 = (w.alloc (.cells #[.slice (some ⟨b, 0, none⟩) 2 2] 83)).alloc (.cells #[.int .u8 0, .int .i64 0, .string ⟨#[]⟩, .string ⟨#[]⟩, .string ⟨#[]⟩, .int .u64 0] 51) := ⟨_, rfl⟩
  have HB0 := Lib.hid (show Below w.heap.size w W0 by rw [hW0]; exact bel_alloc (alb w _) _)
  have ZB := Lib.hid (show W0.heap[w.heap.size]? = some (.cells #[.slice (some ⟨b, 0, none⟩) 2 2] 83) by rw [hW0]; exact keep_bel (alb _ _) (heap_alloc_new w _))
  have ZR := Lib.hid (show W0.heap[w.heap.size + 1]? = some (.cells #[.int .u8 0, .int .i64 0, .string ⟨#[]⟩, .string ⟨#[]⟩, .string ⟨#[]⟩, .int .u64 0] 51) by rw [hW0]; have := heap_alloc_new (w.alloc (.cells #[.slice (some ⟨b, 0, none⟩) 2 2] 83)) (.cells #[.int .u8 0, .int .i64 0, .string ⟨#[]⟩, .string ⟨#[]⟩, .string ⟨#[]⟩, .int .u64 0] 51); simpa using this)
  have HRC := Lib.hid (fun V (h : Chg (fun x => x = w.heap.size + 1) W0 V) => (show RB V g t ln from h.keep (hr.later HB0.out) (by omega)))
  have HGC := Lib.hid (fun V (h : Chg (fun x => x = w.heap.size + 1) W0 V) => (hb.later HB0.out).chg h (by omega))
  have HA0 := Lib.hid (hA.later HB0.out)
  have IS0 := Lib.hid (is101 ⟨#[112, 117, 116]⟩ 2 2 rfl w.heap.size b 2 ws W0 (by omega) hn (by omega) (by omega) (cellh ZB.out rfl) HA0.out)
  rw [isB_other hi (by decide)] at IS0
  have IS1 := Lib.hid (is101 ⟨#[100, 101, 108, 101, 116, 101]⟩ 1 1 rfl w.heap.size b 2 ws W0 (by omega) hn (by omega) (by omega) (cellh ZB.out rfl) HA0.out)
  rw [hi] at IS1
  have CF0 := Lib.hid (fun V (h : Chg (fun x => x = w.heap.size + 1) W0 V) => rtext_ok (HRC.out V h) (HGC.out V h) hz0 hq0)
  have hw0 := wd_cell HA0.out (i := 1) (by omega)
  obtain ⟨x0, hx0⟩ : ∃ x, wdA ws 1 = x := ⟨_, rfl⟩
  rw [hx0] at hw0
  rw [hx0] at CF0
  have hbx : W0.cell? ⟨w.heap.size, 0, none⟩ = some (.slice (some ⟨b, 0, none⟩) 2 2) := cellh ZB.out rfl
  have HBX := Lib.hid hbx
  have HW0 := Lib.hid hw0
  have HNB := Lib.hid (show ¬ w.heap.size = w.heap.size + 1 by omega)
  have HNE := Lib.hid (show ¬ b = w.heap.size + 1 by omega)
  clear hr hb hA hs hi hn hbl hgl hBw hz0 hq0 hx0
  go_enter Tryz.func89, Tryz.ntmps89
  go_upto_region 2 with fail
  rw [← hW0]
  clear hW0
  go_wp2_with (first
    | (go_at_call 101; ((with_reducible refine IS0.out.mono ?_); rintro e w0 ⟨rfl, rfl⟩))
    | (go_at_call 101; ((with_reducible refine IS1.out.mono ?_); rintro e w0 ⟨rfl, rfl⟩))
    | (go_at_call 77; ((with_reducible refine (CF0.out _ (Chg.refl (fun x => x = w.heap.size + 1) W0)).mono ?_); rintro e v0 ⟨rfl, bb⟩; have B0 := Lib.hid (bel_trans HB0.out bb); have C0 := Lib.hid ((Chg.refl (fun x => x = w.heap.size + 1) W0).later bb); have Z0 := Lib.hid (keep_bel bb ZR.out); have hb0 := (C0.out.cell HBX.out HNB.out); have hv0 := (C0.out.cell HW0.out HNE.out); obtain ⟨c0, c1, c2, c3, c4, c5⟩ := cells6 Z0.out; obtain ⟨f0, f1, f2, f3, f4, f5⟩ := froz6 Z0.out; clear bb))
    | fail)
  try go_wp2
  have ZF := Lib.hid (set6w Z0.out (.int .u8 2) (.int .i64 0) (.string ka) (.string ⟨#[]⟩) (.string ⟨#[]⟩) (.int .u64 0))
  have BF := Lib.hid (show Below w.heap.size w ((((((v0.setCell ⟨w.heap.size + 1, 0, none⟩ (.int .u8 2)).setCell ⟨w.heap.size + 1, 1, none⟩ (.int .i64 0)).setCell ⟨w.heap.size + 1, 2, none⟩ (.string ka)).setCell ⟨w.heap.size + 1, 3, none⟩ (.string ⟨#[]⟩)).setCell ⟨w.heap.size + 1, 4, none⟩ (.string ⟨#[]⟩)).setCell ⟨w.heap.size + 1, 5, none⟩ (.int .u64 0)) from ((chg6 v0 (w.heap.size + 1) (.int .u8 2) (.int .i64 0) (.string ka) (.string ⟨#[]⟩) (.string ⟨#[]⟩) (.int .u64 0)).below (lo := w.heap.size) (fun x e => by omega) (B0.out.size)) |> fun q => B0.out.trans q)
  obtain ⟨WF, hWF⟩ : ∃ WF, WF = ((((((v0.setCell ⟨w.heap.size + 1, 0, none⟩ (.int .u8 2)).setCell ⟨w.heap.size + 1, 1, none⟩ (.int .i64 0)).setCell ⟨w.heap.size + 1, 2, none⟩ (.string ka)).setCell ⟨w.heap.size + 1, 3, none⟩ (.string ⟨#[]⟩)).setCell ⟨w.heap.size + 1, 4, none⟩ (.string ⟨#[]⟩)).setCell ⟨w.heap.size + 1, 5, none⟩ (.int .u64 0)) := ⟨_, rfl⟩
  rw [← hWF] at ZF BF ⊢
  clear hWF
  obtain ⟨k0, k1, k2, k3, k4, k5⟩ := cells6 ZF.out
  refine bodyPost_ret (v := .agg #[.int .u8 2, .int .i64 0, .string ka, .string ⟨#[]⟩, .string ⟨#[]⟩, .int .u64 0]) (by simp [results, Tryz.results89, go_sem, k0, k1, k2, k3, k4, k5]) rfl ⟨rfl, BF.out⟩
set_option maxHeartbeats 1000000 in
set_option maxRecDepth 100000 in
theorem rdel_b0 {B g b : Nat} {t : ByteArray} {ln : Int} {ws : List ByteArray} {w : World} (hr : RB w g t ln) (hb : GB B w) (hA : ES.Rd w (some ⟨b, 0, none⟩) ws) (hs : ∀ i, (wdA ws i).size ≤ 1000000) (hi : isB ws ⟨#[100, 101, 108, 101, 116, 101]⟩ 1 = true) (hq0 : txtB (wdA ws 1) = none) :
    Calls Tryz.prog 89 #[.pointer (some ⟨g, 0, none⟩), .slice (some ⟨b, 0, none⟩) 2 2] w (RN none ln w) := by
  have hn : ws.length = 2 := (isB_true hi).2
  have hz0 := hs 1
  have hbl := rd_lt hA (by omega)
  have hgl := hr.lt
  have hBw := hb.le
  obtain ⟨W0, hW0⟩ : ∃ W0, W0 = (w.alloc (.cells #[.slice (some ⟨b, 0, none⟩) 2 2] 83)).alloc (.cells #[.int .u8 0, .int .i64 0, .string ⟨#[]⟩, .string ⟨#[]⟩, .string ⟨#[]⟩, .int .u64 0] 51) := ⟨_, rfl⟩
  have HB0 := Lib.hid (show Below w.heap.size w W0 by rw [hW0]; exact bel_alloc (alb w _) _)
  have ZB := Lib.hid (show W0.heap[w.heap.size]? = some (.cells #[.slice (some ⟨b, 0, none⟩) 2 2] 83) by rw [hW0]; exact keep_bel (alb _ _) (heap_alloc_new w _))
  have ZR := Lib.hid (show W0.heap[w.heap.size + 1]? = some (.cells #[.int .u8 0, .int .i64 0, .string ⟨#[]⟩, .string ⟨#[]⟩, .string ⟨#[]⟩, .int .u64 0] 51) by rw [hW0]; have := heap_alloc_new (w.alloc (.cells #[.slice (some ⟨b, 0, none⟩) 2 2] 83)) (.cells #[.int .u8 0, .int .i64 0, .string ⟨#[]⟩, .string ⟨#[]⟩, .string ⟨#[]⟩, .int .u64 0] 51); simpa using this)
  have HRC := Lib.hid (fun V (h : Chg (fun x => x = w.heap.size + 1) W0 V) => (show RB V g t ln from h.keep (hr.later HB0.out) (by omega)))
  have HGC := Lib.hid (fun V (h : Chg (fun x => x = w.heap.size + 1) W0 V) => (hb.later HB0.out).chg h (by omega))
  have HA0 := Lib.hid (hA.later HB0.out)
  have IS0 := Lib.hid (is101 ⟨#[112, 117, 116]⟩ 2 2 rfl w.heap.size b 2 ws W0 (by omega) hn (by omega) (by omega) (cellh ZB.out rfl) HA0.out)
  rw [isB_other hi (by decide)] at IS0
  have IS1 := Lib.hid (is101 ⟨#[100, 101, 108, 101, 116, 101]⟩ 1 1 rfl w.heap.size b 2 ws W0 (by omega) hn (by omega) (by omega) (cellh ZB.out rfl) HA0.out)
  rw [hi] at IS1
  have CF0 := Lib.hid (fun V (h : Chg (fun x => x = w.heap.size + 1) W0 V) => rtext_bad (HRC.out V h) (HGC.out V h) hz0 hq0)
  have hw0 := wd_cell HA0.out (i := 1) (by omega)
  obtain ⟨x0, hx0⟩ : ∃ x, wdA ws 1 = x := ⟨_, rfl⟩
  rw [hx0] at hw0
  rw [hx0] at CF0
  have hbx : W0.cell? ⟨w.heap.size, 0, none⟩ = some (.slice (some ⟨b, 0, none⟩) 2 2) := cellh ZB.out rfl
  have HBX := Lib.hid hbx
  have HW0 := Lib.hid hw0
  have HNB := Lib.hid (show ¬ w.heap.size = w.heap.size + 1 by omega)
  have HNE := Lib.hid (show ¬ b = w.heap.size + 1 by omega)
  clear hr hb hA hs hi hn hbl hgl hBw hz0 hq0 hx0
  go_enter Tryz.func89, Tryz.ntmps89
  go_upto_region 2 with fail
  rw [← hW0]
  clear hW0
  go_wp2_with (first
    | (go_at_call 101; ((with_reducible refine IS0.out.mono ?_); rintro e w0 ⟨rfl, rfl⟩))
    | (go_at_call 101; ((with_reducible refine IS1.out.mono ?_); rintro e w0 ⟨rfl, rfl⟩))
    | (go_at_call 77; ((with_reducible refine (CF0.out _ (Chg.refl (fun x => x = w.heap.size + 1) W0)).mono ?_); rintro e v0 ⟨rfl, bb⟩; have B0 := Lib.hid (bel_trans HB0.out bb); clear bb))
    | fail)
  exact ⟨rfl, rfl, B0.out⟩
set_option maxHeartbeats 1000000 in
set_option maxRecDepth 100000 in
theorem radd_ok {B g b : Nat} {t : ByteArray} {ln : Int} {ws : List ByteArray} {w : World} (hr : RB w g t ln) (hb : GB B w) (hA : ES.Rd w (some ⟨b, 0, none⟩) ws) (hs : ∀ i, (wdA ws i).size ≤ 1000000) (hi : isB ws ⟨#[97, 100, 100]⟩ 2 = true) (ka : Nat) (hq0 : delB (wdA ws 2) = some ka) (kb : ByteArray) (hq1 : txtB (wdA ws 1) = some kb) :
    Calls Tryz.prog 89 #[.pointer (some ⟨g, 0, none⟩), .slice (some ⟨b, 0, none⟩) 3 3] w (RN (some (.agg #[.int .u8 3, .int .i64 0, .string kb, .string ⟨#[]⟩, .string ⟨#[]⟩, .int .u64 ka])) ln w) := by
  have hn : ws.length = 3 := (isB_true hi).2
  have hz0 := hs 2
  have hz1 := hs 1
  have hbl := rd_lt hA (by omega)
  have hgl := hr.lt
  have hBw := hb.le
  obtain ⟨W0, hW0⟩ : ∃ W0, W0 = (w.alloc (.cells #[.slice (some ⟨b, 0, none⟩) 3 3] 83)).alloc (.cells #[.int .u8 0, .int .i64 0, .string ⟨#[]⟩, .string ⟨#[]⟩, .string ⟨#[]⟩, .int .u64 0] 51) := ⟨_, rfl⟩
  have HB0 := Lib.hid (show Below w.heap.size w W0 by rw [hW0]; exact bel_alloc (alb w _) _)
  have ZB := Lib.hid (show W0.heap[w.heap.size]? = some (.cells #[.slice (some ⟨b, 0, none⟩) 3 3] 83) by rw [hW0]; exact keep_bel (alb _ _) (heap_alloc_new w _))
  have ZR := Lib.hid (show W0.heap[w.heap.size + 1]? = some (.cells #[.int .u8 0, .int .i64 0, .string ⟨#[]⟩, .string ⟨#[]⟩, .string ⟨#[]⟩, .int .u64 0] 51) by rw [hW0]; have := heap_alloc_new (w.alloc (.cells #[.slice (some ⟨b, 0, none⟩) 3 3] 83)) (.cells #[.int .u8 0, .int .i64 0, .string ⟨#[]⟩, .string ⟨#[]⟩, .string ⟨#[]⟩, .int .u64 0] 51); simpa using this)
  have HRC := Lib.hid (fun V (h : Chg (fun x => x = w.heap.size + 1) W0 V) => (show RB V g t ln from h.keep (hr.later HB0.out) (by omega)))
  have HGC := Lib.hid (fun V (h : Chg (fun x => x = w.heap.size + 1) W0 V) => (hb.later HB0.out).chg h (by omega))
  have HA0 := Lib.hid (hA.later HB0.out)
  have IS0 := Lib.hid (is101 ⟨#[112, 117, 116]⟩ 2 2 rfl w.heap.size b 3 ws W0 (by omega) hn (by omega) (by omega) (cellh ZB.out rfl) HA0.out)
  rw [isB_other hi (by decide)] at IS0
  have IS1 := Lib.hid (is101 ⟨#[100, 101, 108, 101, 116, 101]⟩ 1 1 rfl w.heap.size b 3 ws W0 (by omega) hn (by omega) (by omega) (cellh ZB.out rfl) HA0.out)
  rw [isB_other hi (by decide)] at IS1
  have IS2 := Lib.hid (is101 ⟨#[97, 100, 100]⟩ 2 2 rfl w.heap.size b 3 ws W0 (by omega) hn (by omega) (by omega) (cellh ZB.out rfl) HA0.out)
  rw [hi] at IS2
  have CF0 := Lib.hid (fun V (h : Chg (fun x => x = w.heap.size + 1) W0 V) => delta_ok (HGC.out V h).gw (Nat.le_trans hz0 (by omega)) hq0)
  have CF1 := Lib.hid (fun V (h : Chg (fun x => x = w.heap.size + 1) W0 V) => rtext_ok (HRC.out V h) (HGC.out V h) hz1 hq1)
  have hw0 := wd_cell HA0.out (i := 2) (by omega)
  obtain ⟨x0, hx0⟩ : ∃ x, wdA ws 2 = x := ⟨_, rfl⟩
  rw [hx0] at hw0
  rw [hx0] at CF0
  have hw1 := wd_cell HA0.out (i := 1) (by omega)
  obtain ⟨x1, hx1⟩ : ∃ x, wdA ws 1 = x := ⟨_, rfl⟩
  rw [hx1] at hw1
  rw [hx1] at CF1
  have hbx : W0.cell? ⟨w.heap.size, 0, none⟩ = some (.slice (some ⟨b, 0, none⟩) 3 3) := cellh ZB.out rfl
  have HBX := Lib.hid hbx
  have HW0 := Lib.hid hw0
  have HW1 := Lib.hid hw1
  have HNB := Lib.hid (show ¬ w.heap.size = w.heap.size + 1 by omega)
  have HNE := Lib.hid (show ¬ b = w.heap.size + 1 by omega)
  clear hr hb hA hs hi hn hbl hgl hBw hz0 hq0 hz1 hq1 hx0 hx1
  go_enter Tryz.func89, Tryz.ntmps89
  go_upto_region 2 with fail
  rw [← hW0]
  clear hW0
  go_wp2_with (first
    | (go_at_call 101; ((with_reducible refine IS0.out.mono ?_); rintro e w0 ⟨rfl, rfl⟩))
    | (go_at_call 101; ((with_reducible refine IS1.out.mono ?_); rintro e w0 ⟨rfl, rfl⟩))
    | (go_at_call 101; ((with_reducible refine IS2.out.mono ?_); rintro e w0 ⟨rfl, rfl⟩))
    | (go_at_call 102; ((with_reducible refine (CF0.out _ (Chg.refl (fun x => x = w.heap.size + 1) W0)).mono ?_); rintro e v0 ⟨rfl, bb⟩; have B0 := Lib.hid (bel_trans HB0.out bb); have C0 := Lib.hid ((Chg.refl (fun x => x = w.heap.size + 1) W0).later bb); have Z0 := Lib.hid (keep_bel bb ZR.out); have hb0 := (C0.out.cell HBX.out HNB.out); have hv0 := (C0.out.cell HW1.out HNE.out); obtain ⟨c0, c1, c2, c3, c4, c5⟩ := cells6 Z0.out; obtain ⟨f0, f1, f2, f3, f4, f5⟩ := froz6 Z0.out; clear bb))
    | (go_at_call 42; ((with_reducible refine (check_ok g 3 _).mono ?_); rintro e w0 ⟨rfl, rfl⟩))
    | (go_at_call 77; ((with_reducible refine (CF1.out _ C0.out).mono ?_); rintro e v1 ⟨rfl, bb⟩; have B1 := Lib.hid (bel_trans B0.out bb); have C1 := Lib.hid (C0.out.later bb); have Z1 := Lib.hid (keep_bel bb Z0.out); have hb1 := (C1.out.cell HBX.out HNB.out); have hv1 := (C1.out.cell HW1.out HNE.out); obtain ⟨c0, c1, c2, c3, c4, c5⟩ := cells6 Z1.out; obtain ⟨f0, f1, f2, f3, f4, f5⟩ := froz6 Z1.out; clear bb))
    | fail)
  try go_wp2
  have ZF := Lib.hid (set6w Z1.out (.int .u8 3) (.int .i64 0) (.string kb) (.string ⟨#[]⟩) (.string ⟨#[]⟩) (.int .u64 ka))
  have BF := Lib.hid (show Below w.heap.size w ((((((v1.setCell ⟨w.heap.size + 1, 0, none⟩ (.int .u8 3)).setCell ⟨w.heap.size + 1, 1, none⟩ (.int .i64 0)).setCell ⟨w.heap.size + 1, 2, none⟩ (.string kb)).setCell ⟨w.heap.size + 1, 3, none⟩ (.string ⟨#[]⟩)).setCell ⟨w.heap.size + 1, 4, none⟩ (.string ⟨#[]⟩)).setCell ⟨w.heap.size + 1, 5, none⟩ (.int .u64 ka)) from ((chg6 v1 (w.heap.size + 1) (.int .u8 3) (.int .i64 0) (.string kb) (.string ⟨#[]⟩) (.string ⟨#[]⟩) (.int .u64 ka)).below (lo := w.heap.size) (fun x e => by omega) (B1.out.size)) |> fun q => B1.out.trans q)
  obtain ⟨WF, hWF⟩ : ∃ WF, WF = ((((((v1.setCell ⟨w.heap.size + 1, 0, none⟩ (.int .u8 3)).setCell ⟨w.heap.size + 1, 1, none⟩ (.int .i64 0)).setCell ⟨w.heap.size + 1, 2, none⟩ (.string kb)).setCell ⟨w.heap.size + 1, 3, none⟩ (.string ⟨#[]⟩)).setCell ⟨w.heap.size + 1, 4, none⟩ (.string ⟨#[]⟩)).setCell ⟨w.heap.size + 1, 5, none⟩ (.int .u64 ka)) := ⟨_, rfl⟩
  rw [← hWF] at ZF BF ⊢
  clear hWF
  obtain ⟨k0, k1, k2, k3, k4, k5⟩ := cells6 ZF.out
  refine bodyPost_ret (v := .agg #[.int .u8 3, .int .i64 0, .string kb, .string ⟨#[]⟩, .string ⟨#[]⟩, .int .u64 ka]) (by simp [results, Tryz.results89, go_sem, k0, k1, k2, k3, k4, k5]) rfl ⟨rfl, BF.out⟩
set_option maxHeartbeats 1000000 in
set_option maxRecDepth 100000 in
theorem radd_b0 {B g b : Nat} {t : ByteArray} {ln : Int} {ws : List ByteArray} {w : World} (hr : RB w g t ln) (hb : GB B w) (hA : ES.Rd w (some ⟨b, 0, none⟩) ws) (hs : ∀ i, (wdA ws i).size ≤ 1000000) (hi : isB ws ⟨#[97, 100, 100]⟩ 2 = true) (hq0 : delB (wdA ws 2) = none) :
    Calls Tryz.prog 89 #[.pointer (some ⟨g, 0, none⟩), .slice (some ⟨b, 0, none⟩) 3 3] w (RN none ln w) := by
  have hn : ws.length = 3 := (isB_true hi).2
  have hz0 := hs 2
  have hbl := rd_lt hA (by omega)
  have hgl := hr.lt
  have hBw := hb.le
  obtain ⟨W0, hW0⟩ : ∃ W0, W0 = (w.alloc (.cells #[.slice (some ⟨b, 0, none⟩) 3 3] 83)).alloc (.cells #[.int .u8 0, .int .i64 0, .string ⟨#[]⟩, .string ⟨#[]⟩, .string ⟨#[]⟩, .int .u64 0] 51) := ⟨_, rfl⟩
  have HB0 := Lib.hid (show Below w.heap.size w W0 by rw [hW0]; exact bel_alloc (alb w _) _)
  have ZB := Lib.hid (show W0.heap[w.heap.size]? = some (.cells #[.slice (some ⟨b, 0, none⟩) 3 3] 83) by rw [hW0]; exact keep_bel (alb _ _) (heap_alloc_new w _))
  have ZR := Lib.hid (show W0.heap[w.heap.size + 1]? = some (.cells #[.int .u8 0, .int .i64 0, .string ⟨#[]⟩, .string ⟨#[]⟩, .string ⟨#[]⟩, .int .u64 0] 51) by rw [hW0]; have := heap_alloc_new (w.alloc (.cells #[.slice (some ⟨b, 0, none⟩) 3 3] 83)) (.cells #[.int .u8 0, .int .i64 0, .string ⟨#[]⟩, .string ⟨#[]⟩, .string ⟨#[]⟩, .int .u64 0] 51); simpa using this)
  have HRC := Lib.hid (fun V (h : Chg (fun x => x = w.heap.size + 1) W0 V) => (show RB V g t ln from h.keep (hr.later HB0.out) (by omega)))
  have HGC := Lib.hid (fun V (h : Chg (fun x => x = w.heap.size + 1) W0 V) => (hb.later HB0.out).chg h (by omega))
  have HA0 := Lib.hid (hA.later HB0.out)
  have IS0 := Lib.hid (is101 ⟨#[112, 117, 116]⟩ 2 2 rfl w.heap.size b 3 ws W0 (by omega) hn (by omega) (by omega) (cellh ZB.out rfl) HA0.out)
  rw [isB_other hi (by decide)] at IS0
  have IS1 := Lib.hid (is101 ⟨#[100, 101, 108, 101, 116, 101]⟩ 1 1 rfl w.heap.size b 3 ws W0 (by omega) hn (by omega) (by omega) (cellh ZB.out rfl) HA0.out)
  rw [isB_other hi (by decide)] at IS1
  have IS2 := Lib.hid (is101 ⟨#[97, 100, 100]⟩ 2 2 rfl w.heap.size b 3 ws W0 (by omega) hn (by omega) (by omega) (cellh ZB.out rfl) HA0.out)
  rw [hi] at IS2
  have CF0 := Lib.hid (fun V (h : Chg (fun x => x = w.heap.size + 1) W0 V) => delta_bad (HGC.out V h).gw (Nat.le_trans hz0 (by omega)) hq0)
  have hw0 := wd_cell HA0.out (i := 2) (by omega)
  obtain ⟨x0, hx0⟩ : ∃ x, wdA ws 2 = x := ⟨_, rfl⟩
  rw [hx0] at hw0
  rw [hx0] at CF0
  have hw1 := wd_cell HA0.out (i := 1) (by omega)
  obtain ⟨x1, hx1⟩ : ∃ x, wdA ws 1 = x := ⟨_, rfl⟩
  rw [hx1] at hw1
  have hbx : W0.cell? ⟨w.heap.size, 0, none⟩ = some (.slice (some ⟨b, 0, none⟩) 3 3) := cellh ZB.out rfl
  have HBX := Lib.hid hbx
  have HW0 := Lib.hid hw0
  have HW1 := Lib.hid hw1
  have HNB := Lib.hid (show ¬ w.heap.size = w.heap.size + 1 by omega)
  have HNE := Lib.hid (show ¬ b = w.heap.size + 1 by omega)
  clear hr hb hA hs hi hn hbl hgl hBw hz0 hq0 hx0 hx1
  go_enter Tryz.func89, Tryz.ntmps89
  go_upto_region 2 with fail
  rw [← hW0]
  clear hW0
  go_wp2_with (first
    | (go_at_call 101; ((with_reducible refine IS0.out.mono ?_); rintro e w0 ⟨rfl, rfl⟩))
    | (go_at_call 101; ((with_reducible refine IS1.out.mono ?_); rintro e w0 ⟨rfl, rfl⟩))
    | (go_at_call 101; ((with_reducible refine IS2.out.mono ?_); rintro e w0 ⟨rfl, rfl⟩))
    | (go_at_call 102; ((with_reducible refine (CF0.out _ (Chg.refl (fun x => x = w.heap.size + 1) W0)).mono ?_); rintro e v0 ⟨rfl, bb⟩; have B0 := Lib.hid (bel_trans HB0.out bb); have C0 := Lib.hid ((Chg.refl (fun x => x = w.heap.size + 1) W0).later bb); have Z0 := Lib.hid (keep_bel bb ZR.out); have hb0 := (C0.out.cell HBX.out HNB.out); have hv0 := (C0.out.cell HW1.out HNE.out); obtain ⟨c0, c1, c2, c3, c4, c5⟩ := cells6 Z0.out; obtain ⟨f0, f1, f2, f3, f4, f5⟩ := froz6 Z0.out; clear bb))
    | (go_at_call 42; ((with_reducible refine (check_bad g 3 _ (HRC.out _ C0.out)).mono ?_); rintro e w0 ⟨rfl, rfl⟩))
    | fail)
  exact ⟨rfl, rfl, B0.out⟩
set_option maxHeartbeats 1000000 in
set_option maxRecDepth 100000 in
theorem radd_b1 {B g b : Nat} {t : ByteArray} {ln : Int} {ws : List ByteArray} {w : World} (hr : RB w g t ln) (hb : GB B w) (hA : ES.Rd w (some ⟨b, 0, none⟩) ws) (hs : ∀ i, (wdA ws i).size ≤ 1000000) (hi : isB ws ⟨#[97, 100, 100]⟩ 2 = true) (ka : Nat) (hq0 : delB (wdA ws 2) = some ka) (hq1 : txtB (wdA ws 1) = none) :
    Calls Tryz.prog 89 #[.pointer (some ⟨g, 0, none⟩), .slice (some ⟨b, 0, none⟩) 3 3] w (RN none ln w) := by
  have hn : ws.length = 3 := (isB_true hi).2
  have hz0 := hs 2
  have hz1 := hs 1
  have hbl := rd_lt hA (by omega)
  have hgl := hr.lt
  have hBw := hb.le
  obtain ⟨W0, hW0⟩ : ∃ W0, W0 = (w.alloc (.cells #[.slice (some ⟨b, 0, none⟩) 3 3] 83)).alloc (.cells #[.int .u8 0, .int .i64 0, .string ⟨#[]⟩, .string ⟨#[]⟩, .string ⟨#[]⟩, .int .u64 0] 51) := ⟨_, rfl⟩
  have HB0 := Lib.hid (show Below w.heap.size w W0 by rw [hW0]; exact bel_alloc (alb w _) _)
  have ZB := Lib.hid (show W0.heap[w.heap.size]? = some (.cells #[.slice (some ⟨b, 0, none⟩) 3 3] 83) by rw [hW0]; exact keep_bel (alb _ _) (heap_alloc_new w _))
  have ZR := Lib.hid (show W0.heap[w.heap.size + 1]? = some (.cells #[.int .u8 0, .int .i64 0, .string ⟨#[]⟩, .string ⟨#[]⟩, .string ⟨#[]⟩, .int .u64 0] 51) by rw [hW0]; have := heap_alloc_new (w.alloc (.cells #[.slice (some ⟨b, 0, none⟩) 3 3] 83)) (.cells #[.int .u8 0, .int .i64 0, .string ⟨#[]⟩, .string ⟨#[]⟩, .string ⟨#[]⟩, .int .u64 0] 51); simpa using this)
  have HRC := Lib.hid (fun V (h : Chg (fun x => x = w.heap.size + 1) W0 V) => (show RB V g t ln from h.keep (hr.later HB0.out) (by omega)))
  have HGC := Lib.hid (fun V (h : Chg (fun x => x = w.heap.size + 1) W0 V) => (hb.later HB0.out).chg h (by omega))
  have HA0 := Lib.hid (hA.later HB0.out)
  have IS0 := Lib.hid (is101 ⟨#[112, 117, 116]⟩ 2 2 rfl w.heap.size b 3 ws W0 (by omega) hn (by omega) (by omega) (cellh ZB.out rfl) HA0.out)
  rw [isB_other hi (by decide)] at IS0
  have IS1 := Lib.hid (is101 ⟨#[100, 101, 108, 101, 116, 101]⟩ 1 1 rfl w.heap.size b 3 ws W0 (by omega) hn (by omega) (by omega) (cellh ZB.out rfl) HA0.out)
  rw [isB_other hi (by decide)] at IS1
  have IS2 := Lib.hid (is101 ⟨#[97, 100, 100]⟩ 2 2 rfl w.heap.size b 3 ws W0 (by omega) hn (by omega) (by omega) (cellh ZB.out rfl) HA0.out)
  rw [hi] at IS2
  have CF0 := Lib.hid (fun V (h : Chg (fun x => x = w.heap.size + 1) W0 V) => delta_ok (HGC.out V h).gw (Nat.le_trans hz0 (by omega)) hq0)
  have CF1 := Lib.hid (fun V (h : Chg (fun x => x = w.heap.size + 1) W0 V) => rtext_bad (HRC.out V h) (HGC.out V h) hz1 hq1)
  have hw0 := wd_cell HA0.out (i := 2) (by omega)
  obtain ⟨x0, hx0⟩ : ∃ x, wdA ws 2 = x := ⟨_, rfl⟩
  rw [hx0] at hw0
  rw [hx0] at CF0
  have hw1 := wd_cell HA0.out (i := 1) (by omega)
  obtain ⟨x1, hx1⟩ : ∃ x, wdA ws 1 = x := ⟨_, rfl⟩
  rw [hx1] at hw1
  rw [hx1] at CF1
  have hbx : W0.cell? ⟨w.heap.size, 0, none⟩ = some (.slice (some ⟨b, 0, none⟩) 3 3) := cellh ZB.out rfl
  have HBX := Lib.hid hbx
  have HW0 := Lib.hid hw0
  have HW1 := Lib.hid hw1
  have HNB := Lib.hid (show ¬ w.heap.size = w.heap.size + 1 by omega)
  have HNE := Lib.hid (show ¬ b = w.heap.size + 1 by omega)
  clear hr hb hA hs hi hn hbl hgl hBw hz0 hq0 hz1 hq1 hx0 hx1
  go_enter Tryz.func89, Tryz.ntmps89
  go_upto_region 2 with fail
  rw [← hW0]
  clear hW0
  go_wp2_with (first
    | (go_at_call 101; ((with_reducible refine IS0.out.mono ?_); rintro e w0 ⟨rfl, rfl⟩))
    | (go_at_call 101; ((with_reducible refine IS1.out.mono ?_); rintro e w0 ⟨rfl, rfl⟩))
    | (go_at_call 101; ((with_reducible refine IS2.out.mono ?_); rintro e w0 ⟨rfl, rfl⟩))
    | (go_at_call 102; ((with_reducible refine (CF0.out _ (Chg.refl (fun x => x = w.heap.size + 1) W0)).mono ?_); rintro e v0 ⟨rfl, bb⟩; have B0 := Lib.hid (bel_trans HB0.out bb); have C0 := Lib.hid ((Chg.refl (fun x => x = w.heap.size + 1) W0).later bb); have Z0 := Lib.hid (keep_bel bb ZR.out); have hb0 := (C0.out.cell HBX.out HNB.out); have hv0 := (C0.out.cell HW1.out HNE.out); obtain ⟨c0, c1, c2, c3, c4, c5⟩ := cells6 Z0.out; obtain ⟨f0, f1, f2, f3, f4, f5⟩ := froz6 Z0.out; clear bb))
    | (go_at_call 42; ((with_reducible refine (check_ok g 3 _).mono ?_); rintro e w0 ⟨rfl, rfl⟩))
    | (go_at_call 77; ((with_reducible refine (CF1.out _ C0.out).mono ?_); rintro e v1 ⟨rfl, bb⟩; have B1 := Lib.hid (bel_trans B0.out bb); clear bb))
    | fail)
  exact ⟨rfl, rfl, B1.out⟩
set_option maxHeartbeats 1000000 in
set_option maxRecDepth 100000 in
theorem rclr_ok {B g b : Nat} {t : ByteArray} {ln : Int} {ws : List ByteArray} {w : World} (hr : RB w g t ln) (hb : GB B w) (hA : ES.Rd w (some ⟨b, 0, none⟩) ws) (hs : ∀ i, (wdA ws i).size ≤ 1000000) (hi : isB ws ⟨#[99, 108, 101, 97, 114]⟩ 2 = true) (ka : ByteArray) (hq0 : txtB (wdA ws 1) = some ka) (kb : ByteArray) (hq1 : txtB (wdA ws 2) = some kb) :
    Calls Tryz.prog 89 #[.pointer (some ⟨g, 0, none⟩), .slice (some ⟨b, 0, none⟩) 3 3] w (RN (some (.agg #[.int .u8 4, .int .i64 0, .string ka, .string kb, .string ⟨#[]⟩, .int .u64 0])) ln w) := by
  have hn : ws.length = 3 := (isB_true hi).2
  have hz0 := hs 1
  have hz1 := hs 2
  have hbl := rd_lt hA (by omega)
  have hgl := hr.lt
  have hBw := hb.le
  obtain ⟨W0, hW0⟩ : ∃ W0, W0 = (w.alloc (.cells #[.slice (some ⟨b, 0, none⟩) 3 3] 83)).alloc (.cells #[.int .u8 0, .int .i64 0, .string ⟨#[]⟩, .string ⟨#[]⟩, .string ⟨#[]⟩, .int .u64 0] 51) := ⟨_, rfl⟩
  have HB0 := Lib.hid (show Below w.heap.size w W0 by rw [hW0]; exact bel_alloc (alb w _) _)
  have ZB := Lib.hid (show W0.heap[w.heap.size]? = some (.cells #[.slice (some ⟨b, 0, none⟩) 3 3] 83) by rw [hW0]; exact keep_bel (alb _ _) (heap_alloc_new w _))
  have ZR := Lib.hid (show W0.heap[w.heap.size + 1]? = some (.cells #[.int .u8 0, .int .i64 0, .string ⟨#[]⟩, .string ⟨#[]⟩, .string ⟨#[]⟩, .int .u64 0] 51) by rw [hW0]; have := heap_alloc_new (w.alloc (.cells #[.slice (some ⟨b, 0, none⟩) 3 3] 83)) (.cells #[.int .u8 0, .int .i64 0, .string ⟨#[]⟩, .string ⟨#[]⟩, .string ⟨#[]⟩, .int .u64 0] 51); simpa using this)
  have HRC := Lib.hid (fun V (h : Chg (fun x => x = w.heap.size + 1) W0 V) => (show RB V g t ln from h.keep (hr.later HB0.out) (by omega)))
  have HGC := Lib.hid (fun V (h : Chg (fun x => x = w.heap.size + 1) W0 V) => (hb.later HB0.out).chg h (by omega))
  have HA0 := Lib.hid (hA.later HB0.out)
  have IS0 := Lib.hid (is101 ⟨#[112, 117, 116]⟩ 2 2 rfl w.heap.size b 3 ws W0 (by omega) hn (by omega) (by omega) (cellh ZB.out rfl) HA0.out)
  rw [isB_other hi (by decide)] at IS0
  have IS1 := Lib.hid (is101 ⟨#[100, 101, 108, 101, 116, 101]⟩ 1 1 rfl w.heap.size b 3 ws W0 (by omega) hn (by omega) (by omega) (cellh ZB.out rfl) HA0.out)
  rw [isB_other hi (by decide)] at IS1
  have IS2 := Lib.hid (is101 ⟨#[97, 100, 100]⟩ 2 2 rfl w.heap.size b 3 ws W0 (by omega) hn (by omega) (by omega) (cellh ZB.out rfl) HA0.out)
  rw [isB_other hi (by decide)] at IS2
  have IS3 := Lib.hid (is101 ⟨#[99, 108, 101, 97, 114]⟩ 2 2 rfl w.heap.size b 3 ws W0 (by omega) hn (by omega) (by omega) (cellh ZB.out rfl) HA0.out)
  rw [hi] at IS3
  have CF0 := Lib.hid (fun V (h : Chg (fun x => x = w.heap.size + 1) W0 V) => rtext_ok (HRC.out V h) (HGC.out V h) hz0 hq0)
  have CF1 := Lib.hid (fun V (h : Chg (fun x => x = w.heap.size + 1) W0 V) => rtext_ok (HRC.out V h) (HGC.out V h) hz1 hq1)
  have hw0 := wd_cell HA0.out (i := 1) (by omega)
  obtain ⟨x0, hx0⟩ : ∃ x, wdA ws 1 = x := ⟨_, rfl⟩
  rw [hx0] at hw0
  rw [hx0] at CF0
  have hw1 := wd_cell HA0.out (i := 2) (by omega)
  obtain ⟨x1, hx1⟩ : ∃ x, wdA ws 2 = x := ⟨_, rfl⟩
  rw [hx1] at hw1
  rw [hx1] at CF1
  have hbx : W0.cell? ⟨w.heap.size, 0, none⟩ = some (.slice (some ⟨b, 0, none⟩) 3 3) := cellh ZB.out rfl
  have HBX := Lib.hid hbx
  have HW0 := Lib.hid hw0
  have HW1 := Lib.hid hw1
  have HNB := Lib.hid (show ¬ w.heap.size = w.heap.size + 1 by omega)
  have HNE := Lib.hid (show ¬ b = w.heap.size + 1 by omega)
  clear hr hb hA hs hi hn hbl hgl hBw hz0 hq0 hz1 hq1 hx0 hx1
  go_enter Tryz.func89, Tryz.ntmps89
  go_upto_region 2 with fail
  rw [← hW0]
  clear hW0
  go_upto_region 11 with (first
    | (go_at_call 101; ((with_reducible refine IS0.out.mono ?_); rintro e w0 ⟨rfl, rfl⟩))
    | (go_at_call 101; ((with_reducible refine IS1.out.mono ?_); rintro e w0 ⟨rfl, rfl⟩))
    | (go_at_call 101; ((with_reducible refine IS2.out.mono ?_); rintro e w0 ⟨rfl, rfl⟩))
    | (go_at_call 101; ((with_reducible refine IS3.out.mono ?_); rintro e w0 ⟨rfl, rfl⟩))
    | (go_at_call 42; ((with_reducible refine (check_ok g 3 _).mono ?_); rintro e w0 ⟨rfl, rfl⟩))
    | fail)
  refine wp_region_held_drew (S := (fun V : World => Chg (fun x => x = w.heap.size + 1) W0 V)) (by kernel_rfl) ?_ (fun hHeld => ?_)
  · exact (Chg.refl _ W0).drew
  have HHeld := Lib.hid hHeld; clear hHeld
  refine wT (i := 0) (oi := { dst := some 56, op := Op.move (Operand.tmp 0), type := 77, pos := "parse.go:148", after := #[], guard := none }) (v := ?_) rfl (Or.inl ⟨by rfl, ?_⟩) HHeld.out ?_
  rotate_left
  · intro w hSw; clear hSw; go_simp; try with_reducible rfl
  try simp only [pu, pn, s1, s2, s3]
  refine wT (i := 1) (oi := { dst := some 57, op := Op.load 83 (Operand.tmp 3), type := 83, pos := "parse.go:148", after := #[], guard := none }) (v := (.slice (some ⟨b, 0, none⟩) 3 3 : Value)) rfl (Or.inl ⟨by rfl, ?_⟩) HHeld.out ?_
  · intro V hV; have hc0 := hV.cell HBX.out HNB.out; clear hV; go_simp
  try simp only [pu, pn, s1, s2, s3]
  refine wT (i := 2) (oi := { dst := some 58, op := Op.indexAddr 83 (Operand.tmp 57) (Operand.const (Value.int IntKind.i64 1)), type := 0, pos := "parse.go:148", after := #[{ on := 1, ground := Ground.data }], guard := none }) (v := ?_) rfl (Or.inl ⟨by rfl, ?_⟩) HHeld.out ?_
  rotate_left
  · intro w hSw; clear hSw; go_simp; try with_reducible rfl
  try simp only [pu, pn, s1, s2, s3]
  refine wT (i := 3) (oi := { dst := some 59, op := Op.load 9 (Operand.tmp 58), type := 9, pos := "parse.go:148", after := #[{ on := 2, ground := Ground.data }], guard := none }) (v := (.string x0 : Value)) rfl (Or.inl ⟨by rfl, ?_⟩) HHeld.out ?_
  · intro V hV; have hc0 := hV.cell HW0.out HNE.out; clear hV; go_simp
  try simp only [pu, pn, s1, s2, s3]
  refine wT (i := 5) (oi := { dst := some 61, op := Op.move (Operand.tmp 0), type := 77, pos := "parse.go:148", after := #[], guard := none }) (v := ?_) rfl (Or.inl ⟨by rfl, ?_⟩) HHeld.out ?_
  rotate_left
  · intro w hSw; clear hSw; go_simp; try with_reducible rfl
  try simp only [pu, pn, s1, s2, s3]
  refine wT (i := 6) (oi := { dst := some 62, op := Op.load 83 (Operand.tmp 3), type := 83, pos := "parse.go:148", after := #[], guard := none }) (v := (.slice (some ⟨b, 0, none⟩) 3 3 : Value)) rfl (Or.inl ⟨by rfl, ?_⟩) HHeld.out ?_
  · intro V hV; have hc0 := hV.cell HBX.out HNB.out; clear hV; go_simp
  try simp only [pu, pn, s1, s2, s3]
  refine wT (i := 7) (oi := { dst := some 63, op := Op.indexAddr 83 (Operand.tmp 62) (Operand.const (Value.int IntKind.i64 2)), type := 0, pos := "parse.go:148", after := #[{ on := 6, ground := Ground.data }], guard := none }) (v := ?_) rfl (Or.inl ⟨by rfl, ?_⟩) HHeld.out ?_
  rotate_left
  · intro w hSw; clear hSw; go_simp; try with_reducible rfl
  try simp only [pu, pn, s1, s2, s3]
  refine wT (i := 8) (oi := { dst := some 64, op := Op.load 9 (Operand.tmp 63), type := 9, pos := "parse.go:148", after := #[{ on := 7, ground := Ground.data }], guard := none }) (v := (.string x1 : Value)) rfl (Or.inl ⟨by rfl, ?_⟩) HHeld.out ?_
  · intro V hV; have hc0 := hV.cell HW1.out HNE.out; clear hV; go_simp
  try simp only [pu, pn, s1, s2, s3]
  refine wpAnyH_ready (rs := [4]) (by kernel_rfl) (by simp) ?_
  refine AllReadyH.cons (o := { dst := some 60, op := Op.call { callee := Callee.value (Operand.func 77), args := #[Operand.tmp 56, Operand.tmp 59], argTypes := #[77, 9] }, type := 9, pos := "parse.go:148", after := #[{ on := 0, ground := Ground.data }, { on := 3, ground := Ground.data }], guard := none }) rfl (fun K hK => ?_) AllReadyH.nil
  go_simp
  go_at_call 77; ((with_reducible refine (CF0.out _ HHeld.out).mono ?_); rintro e v0 ⟨rfl, bb⟩; have B0 := Lib.hid (bel_trans HB0.out (bel_dr bb)); have C0 := Lib.hid (HHeld.out.later bb); have Z0 := Lib.hid (keep_bel (bel_dr bb) ZR.out); clear bb)
  refine hK.out _ _ ?_ (fun hHeld => ?_)
  · exact C0.out
  clear HHeld; have HHeld := Lib.hid hHeld; clear hHeld
  clear hK K
  try simp only [pu, pn, s1, s2, s3]
  refine wpAnyH_ready (rs := [9]) (by kernel_rfl) (by simp) ?_
  refine AllReadyH.cons (o := { dst := some 65, op := Op.call { callee := Callee.value (Operand.func 77), args := #[Operand.tmp 61, Operand.tmp 64], argTypes := #[77, 9] }, type := 9, pos := "parse.go:148", after := #[{ on := 5, ground := Ground.data }, { on := 8, ground := Ground.data }, { on := 4, ground := Ground.chain }], guard := none }) rfl (fun K hK => ?_) AllReadyH.nil
  go_simp
  go_at_call 77; ((with_reducible refine (CF1.out _ HHeld.out).mono ?_); rintro e v1 ⟨rfl, bb⟩; have B1 := Lib.hid (bel_trans B0.out bb); have C1 := Lib.hid (HHeld.out.later bb); have Z1 := Lib.hid (keep_bel bb Z0.out); clear bb)
  refine hK.out _ _ ?_ (fun hHeld => ?_)
  · exact C1.out
  clear HHeld; have HHeld := Lib.hid hHeld; clear hHeld
  clear hK K
  try simp only [pu, pn, s1, s2, s3]
  refine wT (i := 10) (oi := { dst := some 66, op := Op.build 51 #[(0, Operand.const (Value.int IntKind.u8 4)), (2, Operand.tmp 60), (3, Operand.tmp 65)], type := 51, pos := "parse.go:148", after := #[{ on := 4, ground := Ground.data }, { on := 9, ground := Ground.data }], guard := none }) (v := ?_) rfl (Or.inl ⟨by rfl, ?_⟩) HHeld.out ?_
  rotate_left
  · intro w hSw; clear hSw; go_simp; try with_reducible rfl
  try simp only [pu, pn, s1, s2, s3]
  refine wpAnyH_ready (rs := [11]) (by kernel_rfl) (by simp) ?_
  refine AllReadyH.cons (o := { dst := none, op := Op.store 51 (Operand.tmp 4) (Operand.tmp 66), type := 0, pos := "parse.go:148", after := #[{ on := 10, ground := Ground.data }, { on := 9, ground := Ground.chain }, { on := 0, ground := Ground.phase }, { on := 1, ground := Ground.phase }, { on := 2, ground := Ground.phase }, { on := 3, ground := Ground.phase }, { on := 4, ground := Ground.phase }, { on := 5, ground := Ground.phase }, { on := 6, ground := Ground.phase }, { on := 7, ground := Ground.phase }, { on := 8, ground := Ground.phase }, { on := 9, ground := Ground.phase }, { on := 10, ground := Ground.phase }], guard := none }) rfl (fun K hK => ?_) AllReadyH.nil
  obtain ⟨c0, c1, c2, c3, c4, c5⟩ := cells6 Z1.out
  obtain ⟨f0, f1, f2, f3, f4, f5⟩ := froz6 Z1.out
  go_simp
  refine hK.out _ _ ?_ (fun hHeld => ?_)
  · exact HHeld.out.then (chg6 _ _ _ _ _ _ _ _)
  clear HHeld; have HHeld := Lib.hid hHeld; clear hHeld
  clear hK K
  try simp only [pu, pn, s1, s2, s3]
  refine wpAnyH_done (by kernel_rfl) ?_ _
  clear HHeld
  try go_wp2
  have ZF := Lib.hid (set6w Z1.out (.int .u8 4) (.int .i64 0) (.string ka) (.string kb) (.string ⟨#[]⟩) (.int .u64 0))
  have BF := Lib.hid (show Below w.heap.size w ((((((v1.setCell ⟨w.heap.size + 1, 0, none⟩ (.int .u8 4)).setCell ⟨w.heap.size + 1, 1, none⟩ (.int .i64 0)).setCell ⟨w.heap.size + 1, 2, none⟩ (.string ka)).setCell ⟨w.heap.size + 1, 3, none⟩ (.string kb)).setCell ⟨w.heap.size + 1, 4, none⟩ (.string ⟨#[]⟩)).setCell ⟨w.heap.size + 1, 5, none⟩ (.int .u64 0)) from ((chg6 v1 (w.heap.size + 1) (.int .u8 4) (.int .i64 0) (.string ka) (.string kb) (.string ⟨#[]⟩) (.int .u64 0)).below (lo := w.heap.size) (fun x e => by omega) (B1.out.size)) |> fun q => B1.out.trans q)
  obtain ⟨WF, hWF⟩ : ∃ WF, WF = ((((((v1.setCell ⟨w.heap.size + 1, 0, none⟩ (.int .u8 4)).setCell ⟨w.heap.size + 1, 1, none⟩ (.int .i64 0)).setCell ⟨w.heap.size + 1, 2, none⟩ (.string ka)).setCell ⟨w.heap.size + 1, 3, none⟩ (.string kb)).setCell ⟨w.heap.size + 1, 4, none⟩ (.string ⟨#[]⟩)).setCell ⟨w.heap.size + 1, 5, none⟩ (.int .u64 0)) := ⟨_, rfl⟩
  rw [← hWF] at ZF BF ⊢
  clear hWF
  obtain ⟨k0, k1, k2, k3, k4, k5⟩ := cells6 ZF.out
  refine bodyPost_ret (v := .agg #[.int .u8 4, .int .i64 0, .string ka, .string kb, .string ⟨#[]⟩, .int .u64 0]) (by simp [results, Tryz.results89, go_sem, k0, k1, k2, k3, k4, k5]) rfl ⟨rfl, BF.out⟩
set_option maxHeartbeats 1000000 in
set_option maxRecDepth 100000 in
theorem rclr_b0 {B g b : Nat} {t : ByteArray} {ln : Int} {ws : List ByteArray} {w : World} (hr : RB w g t ln) (hb : GB B w) (hA : ES.Rd w (some ⟨b, 0, none⟩) ws) (hs : ∀ i, (wdA ws i).size ≤ 1000000) (hi : isB ws ⟨#[99, 108, 101, 97, 114]⟩ 2 = true) (hq0 : txtB (wdA ws 1) = none) :
    Calls Tryz.prog 89 #[.pointer (some ⟨g, 0, none⟩), .slice (some ⟨b, 0, none⟩) 3 3] w (RN none ln w) := by
  have hn : ws.length = 3 := (isB_true hi).2
  have hz0 := hs 1
  have hbl := rd_lt hA (by omega)
  have hgl := hr.lt
  have hBw := hb.le
  obtain ⟨W0, hW0⟩ : ∃ W0, W0 = (w.alloc (.cells #[.slice (some ⟨b, 0, none⟩) 3 3] 83)).alloc (.cells #[.int .u8 0, .int .i64 0, .string ⟨#[]⟩, .string ⟨#[]⟩, .string ⟨#[]⟩, .int .u64 0] 51) := ⟨_, rfl⟩
  have HB0 := Lib.hid (show Below w.heap.size w W0 by rw [hW0]; exact bel_alloc (alb w _) _)
  have ZB := Lib.hid (show W0.heap[w.heap.size]? = some (.cells #[.slice (some ⟨b, 0, none⟩) 3 3] 83) by rw [hW0]; exact keep_bel (alb _ _) (heap_alloc_new w _))
  have ZR := Lib.hid (show W0.heap[w.heap.size + 1]? = some (.cells #[.int .u8 0, .int .i64 0, .string ⟨#[]⟩, .string ⟨#[]⟩, .string ⟨#[]⟩, .int .u64 0] 51) by rw [hW0]; have := heap_alloc_new (w.alloc (.cells #[.slice (some ⟨b, 0, none⟩) 3 3] 83)) (.cells #[.int .u8 0, .int .i64 0, .string ⟨#[]⟩, .string ⟨#[]⟩, .string ⟨#[]⟩, .int .u64 0] 51); simpa using this)
  have HRC := Lib.hid (fun V (h : Chg (fun x => x = w.heap.size + 1) W0 V) => (show RB V g t ln from h.keep (hr.later HB0.out) (by omega)))
  have HGC := Lib.hid (fun V (h : Chg (fun x => x = w.heap.size + 1) W0 V) => (hb.later HB0.out).chg h (by omega))
  have HA0 := Lib.hid (hA.later HB0.out)
  have IS0 := Lib.hid (is101 ⟨#[112, 117, 116]⟩ 2 2 rfl w.heap.size b 3 ws W0 (by omega) hn (by omega) (by omega) (cellh ZB.out rfl) HA0.out)
  rw [isB_other hi (by decide)] at IS0
  have IS1 := Lib.hid (is101 ⟨#[100, 101, 108, 101, 116, 101]⟩ 1 1 rfl w.heap.size b 3 ws W0 (by omega) hn (by omega) (by omega) (cellh ZB.out rfl) HA0.out)
  rw [isB_other hi (by decide)] at IS1
  have IS2 := Lib.hid (is101 ⟨#[97, 100, 100]⟩ 2 2 rfl w.heap.size b 3 ws W0 (by omega) hn (by omega) (by omega) (cellh ZB.out rfl) HA0.out)
  rw [isB_other hi (by decide)] at IS2
  have IS3 := Lib.hid (is101 ⟨#[99, 108, 101, 97, 114]⟩ 2 2 rfl w.heap.size b 3 ws W0 (by omega) hn (by omega) (by omega) (cellh ZB.out rfl) HA0.out)
  rw [hi] at IS3
  have CF0 := Lib.hid (fun V (h : Chg (fun x => x = w.heap.size + 1) W0 V) => rtext_bad (HRC.out V h) (HGC.out V h) hz0 hq0)
  have hw0 := wd_cell HA0.out (i := 1) (by omega)
  obtain ⟨x0, hx0⟩ : ∃ x, wdA ws 1 = x := ⟨_, rfl⟩
  rw [hx0] at hw0
  rw [hx0] at CF0
  have hw1 := wd_cell HA0.out (i := 2) (by omega)
  obtain ⟨x1, hx1⟩ : ∃ x, wdA ws 2 = x := ⟨_, rfl⟩
  rw [hx1] at hw1
  have hbx : W0.cell? ⟨w.heap.size, 0, none⟩ = some (.slice (some ⟨b, 0, none⟩) 3 3) := cellh ZB.out rfl
  have HBX := Lib.hid hbx
  have HW0 := Lib.hid hw0
  have HW1 := Lib.hid hw1
  have HNB := Lib.hid (show ¬ w.heap.size = w.heap.size + 1 by omega)
  have HNE := Lib.hid (show ¬ b = w.heap.size + 1 by omega)
  clear hr hb hA hs hi hn hbl hgl hBw hz0 hq0 hx0 hx1
  go_enter Tryz.func89, Tryz.ntmps89
  go_upto_region 2 with fail
  rw [← hW0]
  clear hW0
  go_upto_region 11 with (first
    | (go_at_call 101; ((with_reducible refine IS0.out.mono ?_); rintro e w0 ⟨rfl, rfl⟩))
    | (go_at_call 101; ((with_reducible refine IS1.out.mono ?_); rintro e w0 ⟨rfl, rfl⟩))
    | (go_at_call 101; ((with_reducible refine IS2.out.mono ?_); rintro e w0 ⟨rfl, rfl⟩))
    | (go_at_call 101; ((with_reducible refine IS3.out.mono ?_); rintro e w0 ⟨rfl, rfl⟩))
    | (go_at_call 42; ((with_reducible refine (check_ok g 3 _).mono ?_); rintro e w0 ⟨rfl, rfl⟩))
    | fail)
  refine wp_region_held_drew (S := (fun V : World => Chg (fun x => x = w.heap.size + 1) W0 V)) (by kernel_rfl) ?_ (fun hHeld => ?_)
  · exact (Chg.refl _ W0).drew
  have HHeld := Lib.hid hHeld; clear hHeld
  refine wT (i := 0) (oi := { dst := some 56, op := Op.move (Operand.tmp 0), type := 77, pos := "parse.go:148", after := #[], guard := none }) (v := ?_) rfl (Or.inl ⟨by rfl, ?_⟩) HHeld.out ?_
  rotate_left
  · intro w hSw; clear hSw; go_simp; try with_reducible rfl
  try simp only [pu, pn, s1, s2, s3]
  refine wT (i := 1) (oi := { dst := some 57, op := Op.load 83 (Operand.tmp 3), type := 83, pos := "parse.go:148", after := #[], guard := none }) (v := (.slice (some ⟨b, 0, none⟩) 3 3 : Value)) rfl (Or.inl ⟨by rfl, ?_⟩) HHeld.out ?_
  · intro V hV; have hc0 := hV.cell HBX.out HNB.out; clear hV; go_simp
  try simp only [pu, pn, s1, s2, s3]
  refine wT (i := 2) (oi := { dst := some 58, op := Op.indexAddr 83 (Operand.tmp 57) (Operand.const (Value.int IntKind.i64 1)), type := 0, pos := "parse.go:148", after := #[{ on := 1, ground := Ground.data }], guard := none }) (v := ?_) rfl (Or.inl ⟨by rfl, ?_⟩) HHeld.out ?_
  rotate_left
  · intro w hSw; clear hSw; go_simp; try with_reducible rfl
  try simp only [pu, pn, s1, s2, s3]
  refine wT (i := 3) (oi := { dst := some 59, op := Op.load 9 (Operand.tmp 58), type := 9, pos := "parse.go:148", after := #[{ on := 2, ground := Ground.data }], guard := none }) (v := (.string x0 : Value)) rfl (Or.inl ⟨by rfl, ?_⟩) HHeld.out ?_
  · intro V hV; have hc0 := hV.cell HW0.out HNE.out; clear hV; go_simp
  try simp only [pu, pn, s1, s2, s3]
  refine wT (i := 5) (oi := { dst := some 61, op := Op.move (Operand.tmp 0), type := 77, pos := "parse.go:148", after := #[], guard := none }) (v := ?_) rfl (Or.inl ⟨by rfl, ?_⟩) HHeld.out ?_
  rotate_left
  · intro w hSw; clear hSw; go_simp; try with_reducible rfl
  try simp only [pu, pn, s1, s2, s3]
  refine wT (i := 6) (oi := { dst := some 62, op := Op.load 83 (Operand.tmp 3), type := 83, pos := "parse.go:148", after := #[], guard := none }) (v := (.slice (some ⟨b, 0, none⟩) 3 3 : Value)) rfl (Or.inl ⟨by rfl, ?_⟩) HHeld.out ?_
  · intro V hV; have hc0 := hV.cell HBX.out HNB.out; clear hV; go_simp
  try simp only [pu, pn, s1, s2, s3]
  refine wT (i := 7) (oi := { dst := some 63, op := Op.indexAddr 83 (Operand.tmp 62) (Operand.const (Value.int IntKind.i64 2)), type := 0, pos := "parse.go:148", after := #[{ on := 6, ground := Ground.data }], guard := none }) (v := ?_) rfl (Or.inl ⟨by rfl, ?_⟩) HHeld.out ?_
  rotate_left
  · intro w hSw; clear hSw; go_simp; try with_reducible rfl
  try simp only [pu, pn, s1, s2, s3]
  refine wT (i := 8) (oi := { dst := some 64, op := Op.load 9 (Operand.tmp 63), type := 9, pos := "parse.go:148", after := #[{ on := 7, ground := Ground.data }], guard := none }) (v := (.string x1 : Value)) rfl (Or.inl ⟨by rfl, ?_⟩) HHeld.out ?_
  · intro V hV; have hc0 := hV.cell HW1.out HNE.out; clear hV; go_simp
  try simp only [pu, pn, s1, s2, s3]
  refine wpAnyH_ready (rs := [4]) (by kernel_rfl) (by simp) ?_
  refine AllReadyH.cons (o := { dst := some 60, op := Op.call { callee := Callee.value (Operand.func 77), args := #[Operand.tmp 56, Operand.tmp 59], argTypes := #[77, 9] }, type := 9, pos := "parse.go:148", after := #[{ on := 0, ground := Ground.data }, { on := 3, ground := Ground.data }], guard := none }) rfl (fun K hK => ?_) AllReadyH.nil
  go_simp
  go_at_call 77; ((with_reducible refine (CF0.out _ HHeld.out).mono ?_); rintro e v0 ⟨rfl, bb⟩)
  exact ⟨rfl, rfl, bel_trans HB0.out (bel_dr bb)⟩
set_option maxHeartbeats 1000000 in
set_option maxRecDepth 100000 in
theorem rclr_b1 {B g b : Nat} {t : ByteArray} {ln : Int} {ws : List ByteArray} {w : World} (hr : RB w g t ln) (hb : GB B w) (hA : ES.Rd w (some ⟨b, 0, none⟩) ws) (hs : ∀ i, (wdA ws i).size ≤ 1000000) (hi : isB ws ⟨#[99, 108, 101, 97, 114]⟩ 2 = true) (ka : ByteArray) (hq0 : txtB (wdA ws 1) = some ka) (hq1 : txtB (wdA ws 2) = none) :
    Calls Tryz.prog 89 #[.pointer (some ⟨g, 0, none⟩), .slice (some ⟨b, 0, none⟩) 3 3] w (RN none ln w) := by
  have hn : ws.length = 3 := (isB_true hi).2
  have hz0 := hs 1
  have hz1 := hs 2
  have hbl := rd_lt hA (by omega)
  have hgl := hr.lt
  have hBw := hb.le
  obtain ⟨W0, hW0⟩ : ∃ W0, W0 = (w.alloc (.cells #[.slice (some ⟨b, 0, none⟩) 3 3] 83)).alloc (.cells #[.int .u8 0, .int .i64 0, .string ⟨#[]⟩, .string ⟨#[]⟩, .string ⟨#[]⟩, .int .u64 0] 51) := ⟨_, rfl⟩
  have HB0 := Lib.hid (show Below w.heap.size w W0 by rw [hW0]; exact bel_alloc (alb w _) _)
  have ZB := Lib.hid (show W0.heap[w.heap.size]? = some (.cells #[.slice (some ⟨b, 0, none⟩) 3 3] 83) by rw [hW0]; exact keep_bel (alb _ _) (heap_alloc_new w _))
  have ZR := Lib.hid (show W0.heap[w.heap.size + 1]? = some (.cells #[.int .u8 0, .int .i64 0, .string ⟨#[]⟩, .string ⟨#[]⟩, .string ⟨#[]⟩, .int .u64 0] 51) by rw [hW0]; have := heap_alloc_new (w.alloc (.cells #[.slice (some ⟨b, 0, none⟩) 3 3] 83)) (.cells #[.int .u8 0, .int .i64 0, .string ⟨#[]⟩, .string ⟨#[]⟩, .string ⟨#[]⟩, .int .u64 0] 51); simpa using this)
  have HRC := Lib.hid (fun V (h : Chg (fun x => x = w.heap.size + 1) W0 V) => (show RB V g t ln from h.keep (hr.later HB0.out) (by omega)))
  have HGC := Lib.hid (fun V (h : Chg (fun x => x = w.heap.size + 1) W0 V) => (hb.later HB0.out).chg h (by omega))
  have HA0 := Lib.hid (hA.later HB0.out)
  have IS0 := Lib.hid (is101 ⟨#[112, 117, 116]⟩ 2 2 rfl w.heap.size b 3 ws W0 (by omega) hn (by omega) (by omega) (cellh ZB.out rfl) HA0.out)
  rw [isB_other hi (by decide)] at IS0
  have IS1 := Lib.hid (is101 ⟨#[100, 101, 108, 101, 116, 101]⟩ 1 1 rfl w.heap.size b 3 ws W0 (by omega) hn (by omega) (by omega) (cellh ZB.out rfl) HA0.out)
  rw [isB_other hi (by decide)] at IS1
  have IS2 := Lib.hid (is101 ⟨#[97, 100, 100]⟩ 2 2 rfl w.heap.size b 3 ws W0 (by omega) hn (by omega) (by omega) (cellh ZB.out rfl) HA0.out)
  rw [isB_other hi (by decide)] at IS2
  have IS3 := Lib.hid (is101 ⟨#[99, 108, 101, 97, 114]⟩ 2 2 rfl w.heap.size b 3 ws W0 (by omega) hn (by omega) (by omega) (cellh ZB.out rfl) HA0.out)
  rw [hi] at IS3
  have CF0 := Lib.hid (fun V (h : Chg (fun x => x = w.heap.size + 1) W0 V) => rtext_ok (HRC.out V h) (HGC.out V h) hz0 hq0)
  have CF1 := Lib.hid (fun V (h : Chg (fun x => x = w.heap.size + 1) W0 V) => rtext_bad (HRC.out V h) (HGC.out V h) hz1 hq1)
  have hw0 := wd_cell HA0.out (i := 1) (by omega)
  obtain ⟨x0, hx0⟩ : ∃ x, wdA ws 1 = x := ⟨_, rfl⟩
  rw [hx0] at hw0
  rw [hx0] at CF0
  have hw1 := wd_cell HA0.out (i := 2) (by omega)
  obtain ⟨x1, hx1⟩ : ∃ x, wdA ws 2 = x := ⟨_, rfl⟩
  rw [hx1] at hw1
  rw [hx1] at CF1
  have hbx : W0.cell? ⟨w.heap.size, 0, none⟩ = some (.slice (some ⟨b, 0, none⟩) 3 3) := cellh ZB.out rfl
  have HBX := Lib.hid hbx
  have HW0 := Lib.hid hw0
  have HW1 := Lib.hid hw1
  have HNB := Lib.hid (show ¬ w.heap.size = w.heap.size + 1 by omega)
  have HNE := Lib.hid (show ¬ b = w.heap.size + 1 by omega)
  clear hr hb hA hs hi hn hbl hgl hBw hz0 hq0 hz1 hq1 hx0 hx1
  go_enter Tryz.func89, Tryz.ntmps89
  go_upto_region 2 with fail
  rw [← hW0]
  clear hW0
  go_upto_region 11 with (first
    | (go_at_call 101; ((with_reducible refine IS0.out.mono ?_); rintro e w0 ⟨rfl, rfl⟩))
    | (go_at_call 101; ((with_reducible refine IS1.out.mono ?_); rintro e w0 ⟨rfl, rfl⟩))
    | (go_at_call 101; ((with_reducible refine IS2.out.mono ?_); rintro e w0 ⟨rfl, rfl⟩))
    | (go_at_call 101; ((with_reducible refine IS3.out.mono ?_); rintro e w0 ⟨rfl, rfl⟩))
    | (go_at_call 42; ((with_reducible refine (check_ok g 3 _).mono ?_); rintro e w0 ⟨rfl, rfl⟩))
    | fail)
  refine wp_region_held_drew (S := (fun V : World => Chg (fun x => x = w.heap.size + 1) W0 V)) (by kernel_rfl) ?_ (fun hHeld => ?_)
  · exact (Chg.refl _ W0).drew
  have HHeld := Lib.hid hHeld; clear hHeld
  refine wT (i := 0) (oi := { dst := some 56, op := Op.move (Operand.tmp 0), type := 77, pos := "parse.go:148", after := #[], guard := none }) (v := ?_) rfl (Or.inl ⟨by rfl, ?_⟩) HHeld.out ?_
  rotate_left
  · intro w hSw; clear hSw; go_simp; try with_reducible rfl
  try simp only [pu, pn, s1, s2, s3]
  refine wT (i := 1) (oi := { dst := some 57, op := Op.load 83 (Operand.tmp 3), type := 83, pos := "parse.go:148", after := #[], guard := none }) (v := (.slice (some ⟨b, 0, none⟩) 3 3 : Value)) rfl (Or.inl ⟨by rfl, ?_⟩) HHeld.out ?_
  · intro V hV; have hc0 := hV.cell HBX.out HNB.out; clear hV; go_simp
  try simp only [pu, pn, s1, s2, s3]
  refine wT (i := 2) (oi := { dst := some 58, op := Op.indexAddr 83 (Operand.tmp 57) (Operand.const (Value.int IntKind.i64 1)), type := 0, pos := "parse.go:148", after := #[{ on := 1, ground := Ground.data }], guard := none }) (v := ?_) rfl (Or.inl ⟨by rfl, ?_⟩) HHeld.out ?_
  rotate_left
  · intro w hSw; clear hSw; go_simp; try with_reducible rfl
  try simp only [pu, pn, s1, s2, s3]
  refine wT (i := 3) (oi := { dst := some 59, op := Op.load 9 (Operand.tmp 58), type := 9, pos := "parse.go:148", after := #[{ on := 2, ground := Ground.data }], guard := none }) (v := (.string x0 : Value)) rfl (Or.inl ⟨by rfl, ?_⟩) HHeld.out ?_
  · intro V hV; have hc0 := hV.cell HW0.out HNE.out; clear hV; go_simp
  try simp only [pu, pn, s1, s2, s3]
  refine wT (i := 5) (oi := { dst := some 61, op := Op.move (Operand.tmp 0), type := 77, pos := "parse.go:148", after := #[], guard := none }) (v := ?_) rfl (Or.inl ⟨by rfl, ?_⟩) HHeld.out ?_
  rotate_left
  · intro w hSw; clear hSw; go_simp; try with_reducible rfl
  try simp only [pu, pn, s1, s2, s3]
  refine wT (i := 6) (oi := { dst := some 62, op := Op.load 83 (Operand.tmp 3), type := 83, pos := "parse.go:148", after := #[], guard := none }) (v := (.slice (some ⟨b, 0, none⟩) 3 3 : Value)) rfl (Or.inl ⟨by rfl, ?_⟩) HHeld.out ?_
  · intro V hV; have hc0 := hV.cell HBX.out HNB.out; clear hV; go_simp
  try simp only [pu, pn, s1, s2, s3]
  refine wT (i := 7) (oi := { dst := some 63, op := Op.indexAddr 83 (Operand.tmp 62) (Operand.const (Value.int IntKind.i64 2)), type := 0, pos := "parse.go:148", after := #[{ on := 6, ground := Ground.data }], guard := none }) (v := ?_) rfl (Or.inl ⟨by rfl, ?_⟩) HHeld.out ?_
  rotate_left
  · intro w hSw; clear hSw; go_simp; try with_reducible rfl
  try simp only [pu, pn, s1, s2, s3]
  refine wT (i := 8) (oi := { dst := some 64, op := Op.load 9 (Operand.tmp 63), type := 9, pos := "parse.go:148", after := #[{ on := 7, ground := Ground.data }], guard := none }) (v := (.string x1 : Value)) rfl (Or.inl ⟨by rfl, ?_⟩) HHeld.out ?_
  · intro V hV; have hc0 := hV.cell HW1.out HNE.out; clear hV; go_simp
  try simp only [pu, pn, s1, s2, s3]
  refine wpAnyH_ready (rs := [4]) (by kernel_rfl) (by simp) ?_
  refine AllReadyH.cons (o := { dst := some 60, op := Op.call { callee := Callee.value (Operand.func 77), args := #[Operand.tmp 56, Operand.tmp 59], argTypes := #[77, 9] }, type := 9, pos := "parse.go:148", after := #[{ on := 0, ground := Ground.data }, { on := 3, ground := Ground.data }], guard := none }) rfl (fun K hK => ?_) AllReadyH.nil
  go_simp
  go_at_call 77; ((with_reducible refine (CF0.out _ HHeld.out).mono ?_); rintro e v0 ⟨rfl, bb⟩; have B0 := Lib.hid (bel_trans HB0.out (bel_dr bb)); have C0 := Lib.hid (HHeld.out.later bb); have Z0 := Lib.hid (keep_bel (bel_dr bb) ZR.out); clear bb)
  refine hK.out _ _ ?_ (fun hHeld => ?_)
  · exact C0.out
  clear HHeld; have HHeld := Lib.hid hHeld; clear hHeld
  clear hK K
  try simp only [pu, pn, s1, s2, s3]
  refine wpAnyH_ready (rs := [9]) (by kernel_rfl) (by simp) ?_
  refine AllReadyH.cons (o := { dst := some 65, op := Op.call { callee := Callee.value (Operand.func 77), args := #[Operand.tmp 61, Operand.tmp 64], argTypes := #[77, 9] }, type := 9, pos := "parse.go:148", after := #[{ on := 5, ground := Ground.data }, { on := 8, ground := Ground.data }, { on := 4, ground := Ground.chain }], guard := none }) rfl (fun K hK => ?_) AllReadyH.nil
  go_simp
  go_at_call 77; ((with_reducible refine (CF1.out _ HHeld.out).mono ?_); rintro e v1 ⟨rfl, bb⟩)
  exact ⟨rfl, rfl, bel_trans B0.out bb⟩
set_option maxHeartbeats 1000000 in
set_option maxRecDepth 100000 in
theorem rmsg_none {B g b : Nat} {t : ByteArray} {ln : Int} {ws : List ByteArray} {w : World} (n : Nat) (hr : RB w g t ln) (hb : GB B w) (hn : ws.length = n) (hn0 : 0 < n) (hn1 : n ≤ 4000000) (hA : ES.Rd w (some ⟨b, 0, none⟩) ws) (hi0 : isB ws ⟨#[112, 117, 116]⟩ 2 = false) (hi1 : isB ws ⟨#[100, 101, 108, 101, 116, 101]⟩ 1 = false) (hi2 : isB ws ⟨#[97, 100, 100]⟩ 2 = false) (hi3 : isB ws ⟨#[99, 108, 101, 97, 114]⟩ 2 = false) :
    Calls Tryz.prog 89 #[.pointer (some ⟨g, 0, none⟩), .slice (some ⟨b, 0, none⟩) n n] w (RN none ln w) := by
  have hgl := hr.lt
  obtain ⟨W0, hW0⟩ : ∃ W0, W0 = (w.alloc (.cells #[.slice (some ⟨b, 0, none⟩) n n] 83)).alloc (.cells #[.int .u8 0, .int .i64 0, .string ⟨#[]⟩, .string ⟨#[]⟩, .string ⟨#[]⟩, .int .u64 0] 51) := ⟨_, rfl⟩
  have HB0 := Lib.hid (show Below w.heap.size w W0 by rw [hW0]; exact bel_alloc (alb w _) _)
  have ZB := Lib.hid (show W0.heap[w.heap.size]? = some (.cells #[.slice (some ⟨b, 0, none⟩) n n] 83) by rw [hW0]; exact keep_bel (alb _ _) (heap_alloc_new w _))
  have HR0 := Lib.hid (hr.later HB0.out)
  have HA0 := Lib.hid (hA.later HB0.out)
  have IS0 := Lib.hid (is101 ⟨#[112, 117, 116]⟩ 2 2 rfl w.heap.size b n ws W0 (by omega) hn hn0 hn1 (cellh ZB.out rfl) HA0.out)
  rw [hi0] at IS0
  have IS1 := Lib.hid (is101 ⟨#[100, 101, 108, 101, 116, 101]⟩ 1 1 rfl w.heap.size b n ws W0 (by omega) hn hn0 hn1 (cellh ZB.out rfl) HA0.out)
  rw [hi1] at IS1
  have IS2 := Lib.hid (is101 ⟨#[97, 100, 100]⟩ 2 2 rfl w.heap.size b n ws W0 (by omega) hn hn0 hn1 (cellh ZB.out rfl) HA0.out)
  rw [hi2] at IS2
  have IS3 := Lib.hid (is101 ⟨#[99, 108, 101, 97, 114]⟩ 2 2 rfl w.heap.size b n ws W0 (by omega) hn hn0 hn1 (cellh ZB.out rfl) HA0.out)
  rw [hi3] at IS3
  clear hr hb hA hn hn0 hn1 hgl hi0 hi1 hi2 hi3
  go_enter Tryz.func89, Tryz.ntmps89
  go_upto_region 2 with fail
  rw [← hW0]
  clear hW0
  go_wp2_with (first
    | (go_at_call 101; ((with_reducible refine IS0.out.mono ?_); rintro e w0 ⟨rfl, rfl⟩))
    | (go_at_call 101; ((with_reducible refine IS1.out.mono ?_); rintro e w0 ⟨rfl, rfl⟩))
    | (go_at_call 101; ((with_reducible refine IS2.out.mono ?_); rintro e w0 ⟨rfl, rfl⟩))
    | (go_at_call 101; ((with_reducible refine IS3.out.mono ?_); rintro e w0 ⟨rfl, rfl⟩))
    | (go_at_call 42; ((with_reducible refine (check_bad g 3 _ HR0.out).mono ?_); rintro e w0 ⟨rfl, rfl⟩))
    | fail)
  exact ⟨rfl, rfl, HB0.out⟩
end Go.Proofs.YtelpkajlejbbgaaGreatDoor
