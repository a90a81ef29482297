/- An operation's line. -/
import Derived.Test.YtelpkajlejbbgaaGreatDoorTd01
import Derived.Test.YtelpkajlejbbgaaGreatDoorTd13
set_option linter.unusedVariables false
set_option linter.unusedSimpArgs false
namespace Go.Proofs.YtelpkajlejbbgaaGreatDoor
open Go.RowKit Go.Maps
set_option maxHeartbeats 1000000 in
set_option maxRecDepth 100000 in
theorem rget_ok {B g b : Nat} {t : ByteArray} {ln : Int} {ws : List ByteArray} {w : World} (hr : RB w g t ln) (hb : GB B w) (hA : ES.Rd w (some ⟨b, 0, none⟩) ws) (hs : ∀ i, (wdA ws i).size ≤ 1000000) (hi : isB ws ⟨#[103, 101, 116]⟩ 1 = true) (ka : ByteArray) (hq0 : txtB (wdA ws 1) = some ka) :
    Calls Tryz.prog 64 #[.pointer (some ⟨g, 0, none⟩), .slice (some ⟨b, 0, none⟩) 2 2] w (RN (some (.agg #[.int .u8 1, .string ka, .string ⟨#[]⟩, .int .i64 0, .slice none 0 0])) ln w) := by
  have hn : ws.length = 2 := (isB_true hi).2
  have hz0 := hs 1
  have hbl := rd_lt hA (by omega)
  have hgl := hr.lt
  have hBw := hb.le
  obtain ⟨W0, hW0⟩ : ∃ W0, W0 = (w.alloc (.cells #[.slice (some ⟨b, 0, none⟩) 2 2] 83)).alloc (.cells #[.int .u8 0, .string ⟨#[]⟩, .string ⟨#[]⟩, .int .i64 0, .slice none 0 0] 47) := ⟨_, rfl⟩
  have HB0 := Lib.hid (show Below w.heap.size w W0 by rw [hW0]; exact bel_alloc (alb w _) _)
  have ZB := Lib.hid (show W0.heap[w.heap.size]? = some (.cells #[.slice (some ⟨b, 0, none⟩) 2 2] 83) by rw [hW0]; exact keep_bel (alb _ _) (heap_alloc_new w _))
  have ZR := Lib.hid (show W0.heap[w.heap.size + 1]? = some (.cells #[.int .u8 0, .string ⟨#[]⟩, .string ⟨#[]⟩, .int .i64 0, .slice none 0 0] 47) by rw [hW0]; have := heap_alloc_new (w.alloc (.cells #[.slice (some ⟨b, 0, none⟩) 2 2] 83)) (.cells #[.int .u8 0, .string ⟨#[]⟩, .string ⟨#[]⟩, .int .i64 0, .slice none 0 0] 47); simpa using this)
  have HRC := Lib.hid (fun V (h : Chg (fun x => x = w.heap.size + 1) W0 V) => (show RB V g t ln from h.keep (hr.later HB0.out) (by omega)))
  have HGC := Lib.hid (fun V (h : Chg (fun x => x = w.heap.size + 1) W0 V) => (hb.later HB0.out).chg h (by omega))
  have HA0 := Lib.hid (hA.later HB0.out)
  have IS0 := Lib.hid (is76 ⟨#[103, 101, 116]⟩ 1 1 rfl w.heap.size b 2 ws W0 (by omega) hn (by omega) (by omega) (cellh ZB.out rfl) HA0.out)
  rw [hi] at IS0
  have CF0 := Lib.hid (fun V (h : Chg (fun x => x = w.heap.size + 1) W0 V) => rtext_ok (HRC.out V h) (HGC.out V h) hz0 hq0)
  have hw0 := wd_cell HA0.out (i := 1) (by omega)
  obtain ⟨x0, hx0⟩ : ∃ x, wdA ws 1 = x := ⟨_, rfl⟩
  rw [hx0] at hw0
  rw [hx0] at CF0
  have hbx : W0.cell? ⟨w.heap.size, 0, none⟩ = some (.slice (some ⟨b, 0, none⟩) 2 2) := cellh ZB.out rfl
  have HBX := Lib.hid hbx
  have HW0 := Lib.hid hw0
  have HNB := Lib.hid (show ¬ w.heap.size = w.heap.size + 1 by omega)
  have HNE := Lib.hid (show ¬ b = w.heap.size + 1 by omega)
  clear hr hb hA hs hi hn hbl hgl hBw hz0 hq0 hx0
  go_enter Tryz.func64, Tryz.ntmps64
  go_upto_region 2 with fail
  rw [← hW0]
  clear hW0
  go_wp2_with (first
    | (go_at_call 76; ((with_reducible refine IS0.out.mono ?_); rintro e w0 ⟨rfl, rfl⟩))
    | (go_at_call 77; ((with_reducible refine (CF0.out _ (Chg.refl (fun x => x = w.heap.size + 1) W0)).mono ?_); rintro e v0 ⟨rfl, bb⟩; have B0 := Lib.hid (bel_trans HB0.out bb); have C0 := Lib.hid ((Chg.refl (fun x => x = w.heap.size + 1) W0).later bb); have Z0 := Lib.hid (keep_bel bb ZR.out); have hb0 := (C0.out.cell HBX.out HNB.out); have hv0 := (C0.out.cell HW0.out HNE.out); obtain ⟨c0, c1, c2, c3, c4⟩ := cells5 Z0.out; obtain ⟨f0, f1, f2, f3, f4⟩ := froz5 Z0.out; clear bb))
    | fail)
  try go_wp2
  have ZF := Lib.hid (set5w Z0.out (.int .u8 1) (.string ka) (.string ⟨#[]⟩) (.int .i64 0) (.slice none 0 0))
  have BF := Lib.hid (show Below w.heap.size w (((((v0.setCell ⟨w.heap.size + 1, 0, none⟩ (.int .u8 1)).setCell ⟨w.heap.size + 1, 1, none⟩ (.string ka)).setCell ⟨w.heap.size + 1, 2, none⟩ (.string ⟨#[]⟩)).setCell ⟨w.heap.size + 1, 3, none⟩ (.int .i64 0)).setCell ⟨w.heap.size + 1, 4, none⟩ (.slice none 0 0)) from ((chg5 v0 (w.heap.size + 1) (.int .u8 1) (.string ka) (.string ⟨#[]⟩) (.int .i64 0) (.slice none 0 0)).below (lo := w.heap.size) (fun x e => by omega) (B0.out.size)) |> fun q => B0.out.trans q)
  obtain ⟨WF, hWF⟩ : ∃ WF, WF = (((((v0.setCell ⟨w.heap.size + 1, 0, none⟩ (.int .u8 1)).setCell ⟨w.heap.size + 1, 1, none⟩ (.string ka)).setCell ⟨w.heap.size + 1, 2, none⟩ (.string ⟨#[]⟩)).setCell ⟨w.heap.size + 1, 3, none⟩ (.int .i64 0)).setCell ⟨w.heap.size + 1, 4, none⟩ (.slice none 0 0)) := ⟨_, rfl⟩
  rw [← hWF] at ZF BF ⊢
  clear hWF
  obtain ⟨k0, k1, k2, k3, k4⟩ := cells5 ZF.out
  refine bodyPost_ret (v := .agg #[.int .u8 1, .string ka, .string ⟨#[]⟩, .int .i64 0, .slice none 0 0]) (by simp [results, Tryz.results64, go_sem, k0, k1, k2, k3, k4]) rfl ⟨rfl, BF.out⟩
set_option maxHeartbeats 1000000 in
set_option maxRecDepth 100000 in
theorem rget_b0 {B g b : Nat} {t : ByteArray} {ln : Int} {ws : List ByteArray} {w : World} (hr : RB w g t ln) (hb : GB B w) (hA : ES.Rd w (some ⟨b, 0, none⟩) ws) (hs : ∀ i, (wdA ws i).size ≤ 1000000) (hi : isB ws ⟨#[103, 101, 116]⟩ 1 = true) (hq0 : txtB (wdA ws 1) = none) :
    Calls Tryz.prog 64 #[.pointer (some ⟨g, 0, none⟩), .slice (some ⟨b, 0, none⟩) 2 2] w (RN none ln w) := by
  have hn : ws.length = 2 := (isB_true hi).2
  have hz0 := hs 1
  have hbl := rd_lt hA (by omega)
  have hgl := hr.lt
  have hBw := hb.le
  obtain ⟨W0, hW0⟩ : ∃ W0, W0 = (w.alloc (.cells #[.slice (some ⟨b, 0, none⟩) 2 2] 83)).alloc (.cells #[.int .u8 0, .string ⟨#[]⟩, .string ⟨#[]⟩, .int .i64 0, .slice none 0 0] 47) := ⟨_, rfl⟩
  have HB0 := Lib.hid (show Below w.heap.size w W0 by rw [hW0]; exact bel_alloc (alb w _) _)
  have ZB := Lib.hid (show W0.heap[w.heap.size]? = some (.cells #[.slice (some ⟨b, 0, none⟩) 2 2] 83) by rw [hW0]; exact keep_bel (alb _ _) (heap_alloc_new w _))
  have ZR := Lib.hid (show W0.heap[w.heap.size + 1]? = some (.cells #[.int .u8 0, .string ⟨#[]⟩, .string ⟨#[]⟩, .int .i64 0, .slice none 0 0] 47) by rw [hW0]; have := heap_alloc_new (w.alloc (.cells #[.slice (some ⟨b, 0, none⟩) 2 2] 83)) (.cells #[.int .u8 0, .string ⟨#[]⟩, .string ⟨#[]⟩, .int .i64 0, .slice none 0 0] 47); simpa using this)
  have HRC := Lib.hid (fun V (h : Chg (fun x => x = w.heap.size + 1) W0 V) => (show RB V g t ln from h.keep (hr.later HB0.out) (by omega)))
  have HGC := Lib.hid (fun V (h : Chg (fun x => x = w.heap.size + 1) W0 V) => (hb.later HB0.out).chg h (by omega))
  have HA0 := Lib.hid (hA.later HB0.out)
  have IS0 := Lib.hid (is76 ⟨#[103, 101, 116]⟩ 1 1 rfl w.heap.size b 2 ws W0 (by omega) hn (by omega) (by omega) (cellh ZB.out rfl) HA0.out)
  rw [hi] at IS0
  have CF0 := Lib.hid (fun V (h : Chg (fun x => x = w.heap.size + 1) W0 V) => rtext_bad (HRC.out V h) (HGC.out V h) hz0 hq0)
  have hw0 := wd_cell HA0.out (i := 1) (by omega)
  obtain ⟨x0, hx0⟩ : ∃ x, wdA ws 1 = x := ⟨_, rfl⟩
  rw [hx0] at hw0
  rw [hx0] at CF0
  have hbx : W0.cell? ⟨w.heap.size, 0, none⟩ = some (.slice (some ⟨b, 0, none⟩) 2 2) := cellh ZB.out rfl
  have HBX := Lib.hid hbx
  have HW0 := Lib.hid hw0
  have HNB := Lib.hid (show ¬ w.heap.size = w.heap.size + 1 by omega)
  have HNE := Lib.hid (show ¬ b = w.heap.size + 1 by omega)
  clear hr hb hA hs hi hn hbl hgl hBw hz0 hq0 hx0
  go_enter Tryz.func64, Tryz.ntmps64
  go_upto_region 2 with fail
  rw [← hW0]
  clear hW0
  go_wp2_with (first
    | (go_at_call 76; ((with_reducible refine IS0.out.mono ?_); rintro e w0 ⟨rfl, rfl⟩))
    | (go_at_call 77; ((with_reducible refine (CF0.out _ (Chg.refl (fun x => x = w.heap.size + 1) W0)).mono ?_); rintro e v0 ⟨rfl, bb⟩; have B0 := Lib.hid (bel_trans HB0.out bb); clear bb))
    | fail)
  exact ⟨rfl, rfl, B0.out⟩
set_option maxHeartbeats 1000000 in
set_option maxRecDepth 100000 in
theorem rlook_ok {B g b : Nat} {t : ByteArray} {ln : Int} {ws : List ByteArray} {w : World} (hr : RB w g t ln) (hb : GB B w) (hA : ES.Rd w (some ⟨b, 0, none⟩) ws) (hs : ∀ i, (wdA ws i).size ≤ 1000000) (hi : isB ws ⟨#[108, 111, 111, 107]⟩ 3 = true) (ka : ByteArray) (hq0 : txtB (wdA ws 1) = some ka) (kb : ByteArray) (hq1 : txtB (wdA ws 2) = some kb) (kc : Int) (hq2 : numB (wdA ws 3) = some kc) :
    Calls Tryz.prog 64 #[.pointer (some ⟨g, 0, none⟩), .slice (some ⟨b, 0, none⟩) 4 4] w (RN (some (.agg #[.int .u8 3, .string ka, .string kb, .int .i64 kc, .slice none 0 0])) ln w) := by
  have hn : ws.length = 4 := (isB_true hi).2
  have hz0 := hs 1
  have hz1 := hs 2
  have hz2 := hs 3
  have hbl := rd_lt hA (by omega)
  have hgl := hr.lt
  have hBw := hb.le
  obtain ⟨W0, hW0⟩ : ∃ W0, W0 = (w.alloc (.cells #[.slice (some ⟨b, 0, none⟩) 4 4] 83)).alloc (.cells #[.int .u8 0, .string ⟨#[]⟩, .string ⟨#[]⟩, .int .i64 0, .slice none 0 0] 47) := ⟨_, rfl⟩
  have HB0 := Lib.hid (show Below w.heap.size w W0 by rw [hW0]; exact bel_alloc (alb w _) _)
  have ZB := Lib.hid (show W0.heap[w.heap.size]? = some (.cells #[.slice (some ⟨b, 0, none⟩) 4 4] 83) by rw [hW0]; exact keep_bel (alb _ _) (heap_alloc_new w _))
  have ZR := Lib.hid (show W0.heap[w.heap.size + 1]? = some (.cells #[.int .u8 0, .string ⟨#[]⟩, .string ⟨#[]⟩, .int .i64 0, .slice none 0 0] 47) by rw [hW0]; have := heap_alloc_new (w.alloc (.cells #[.slice (some ⟨b, 0, none⟩) 4 4] 83)) (.cells #[.int .u8 0, .string ⟨#[]⟩, .string ⟨#[]⟩, .int .i64 0, .slice none 0 0] 47); simpa using this)
  have HRC := Lib.hid (fun V (h : Chg (fun x => x = w.heap.size + 1) W0 V) => (show RB V g t ln from h.keep (hr.later HB0.out) (by omega)))
  have HGC := Lib.hid (fun V (h : Chg (fun x => x = w.heap.size + 1) W0 V) => (hb.later HB0.out).chg h (by omega))
  have HA0 := Lib.hid (hA.later HB0.out)
  have IS0 := Lib.hid (is76 ⟨#[103, 101, 116]⟩ 1 1 rfl w.heap.size b 4 ws W0 (by omega) hn (by omega) (by omega) (cellh ZB.out rfl) HA0.out)
  rw [isB_other hi (by decide)] at IS0
  have IS1 := Lib.hid (is76 ⟨#[108, 111, 111, 107]⟩ 3 3 rfl w.heap.size b 4 ws W0 (by omega) hn (by omega) (by omega) (cellh ZB.out rfl) HA0.out)
  rw [hi] at IS1
  have CF0 := Lib.hid (fun V (h : Chg (fun x => x = w.heap.size + 1) W0 V) => rtext_ok (HRC.out V h) (HGC.out V h) hz0 hq0)
  have CF1 := Lib.hid (fun V (h : Chg (fun x => x = w.heap.size + 1) W0 V) => rtext_ok (HRC.out V h) (HGC.out V h) hz1 hq1)
  have CF2 := Lib.hid (fun V (h : Chg (fun x => x = w.heap.size + 1) W0 V) => rnumber_ok (HRC.out V h) (HGC.out V h) (Nat.le_trans hz2 (by omega)) hq2)
  have hw0 := wd_cell HA0.out (i := 1) (by omega)
  obtain ⟨x0, hx0⟩ : ∃ x, wdA ws 1 = x := ⟨_, rfl⟩
  rw [hx0] at hw0
  rw [hx0] at CF0
  have hw1 := wd_cell HA0.out (i := 2) (by omega)
  obtain ⟨x1, hx1⟩ : ∃ x, wdA ws 2 = x := ⟨_, rfl⟩
  rw [hx1] at hw1
  rw [hx1] at CF1
  have hw2 := wd_cell HA0.out (i := 3) (by omega)
  obtain ⟨x2, hx2⟩ : ∃ x, wdA ws 3 = x := ⟨_, rfl⟩
  rw [hx2] at hw2
  rw [hx2] at CF2
  have hbx : W0.cell? ⟨w.heap.size, 0, none⟩ = some (.slice (some ⟨b, 0, none⟩) 4 4) := cellh ZB.out rfl
  have HBX := Lib.hid hbx
  have HW0 := Lib.hid hw0
  have HW1 := Lib.hid hw1
  have HW2 := Lib.hid hw2
  have HNB := Lib.hid (show ¬ w.heap.size = w.heap.size + 1 by omega)
  have HNE := Lib.hid (show ¬ b = w.heap.size + 1 by omega)
  clear hr hb hA hs hi hn hbl hgl hBw hz0 hq0 hz1 hq1 hz2 hq2 hx0 hx1 hx2
  go_enter Tryz.func64, Tryz.ntmps64
  go_upto_region 2 with fail
  rw [← hW0]
  clear hW0
  go_upto_region 5 with (first
    | (go_at_call 76; ((with_reducible refine IS0.out.mono ?_); rintro e w0 ⟨rfl, rfl⟩))
    | (go_at_call 76; ((with_reducible refine IS1.out.mono ?_); rintro e w0 ⟨rfl, rfl⟩))
    | fail)
  refine wp_region_held_drew (S := (fun V : World => Chg (fun x => x = w.heap.size + 1) W0 V)) (by kernel_rfl) ?_ (fun hHeld => ?_)
  · exact (Chg.refl _ W0).drew
  have HHeld := Lib.hid hHeld; clear hHeld
  refine wT (i := 0) (oi := { dst := some 19, op := Op.move (Operand.tmp 0), type := 77, pos := "parse.go:112", after := #[], guard := none }) (v := ?_) rfl (Or.inl ⟨by rfl, ?_⟩) HHeld.out ?_
  rotate_left
  · intro w hSw; clear hSw; go_simp; try with_reducible rfl
  try simp only [pu, pn, s1, s2, s3]
  refine wT (i := 1) (oi := { dst := some 20, op := Op.load 83 (Operand.tmp 3), type := 83, pos := "parse.go:112", after := #[], guard := none }) (v := (.slice (some ⟨b, 0, none⟩) 4 4 : Value)) rfl (Or.inl ⟨by rfl, ?_⟩) HHeld.out ?_
  · intro V hV; have hc0 := hV.cell HBX.out HNB.out; clear hV; go_simp
  try simp only [pu, pn, s1, s2, s3]
  refine wT (i := 2) (oi := { dst := some 21, op := Op.indexAddr 83 (Operand.tmp 20) (Operand.const (Value.int IntKind.i64 1)), type := 0, pos := "parse.go:112", after := #[{ on := 1, ground := Ground.data }], guard := none }) (v := ?_) rfl (Or.inl ⟨by rfl, ?_⟩) HHeld.out ?_
  rotate_left
  · intro w hSw; clear hSw; go_simp; try with_reducible rfl
  try simp only [pu, pn, s1, s2, s3]
  refine wT (i := 3) (oi := { dst := some 22, op := Op.load 9 (Operand.tmp 21), type := 9, pos := "parse.go:112", after := #[{ on := 2, ground := Ground.data }], guard := none }) (v := (.string x0 : Value)) rfl (Or.inl ⟨by rfl, ?_⟩) HHeld.out ?_
  · intro V hV; have hc0 := hV.cell HW0.out HNE.out; clear hV; go_simp
  try simp only [pu, pn, s1, s2, s3]
  refine wT (i := 5) (oi := { dst := some 24, op := Op.move (Operand.tmp 0), type := 77, pos := "parse.go:112", after := #[], guard := none }) (v := ?_) rfl (Or.inl ⟨by rfl, ?_⟩) HHeld.out ?_
  rotate_left
  · intro w hSw; clear hSw; go_simp; try with_reducible rfl
  try simp only [pu, pn, s1, s2, s3]
  refine wT (i := 6) (oi := { dst := some 25, op := Op.load 83 (Operand.tmp 3), type := 83, pos := "parse.go:112", after := #[], guard := none }) (v := (.slice (some ⟨b, 0, none⟩) 4 4 : Value)) rfl (Or.inl ⟨by rfl, ?_⟩) HHeld.out ?_
  · intro V hV; have hc0 := hV.cell HBX.out HNB.out; clear hV; go_simp
  try simp only [pu, pn, s1, s2, s3]
  refine wT (i := 7) (oi := { dst := some 26, op := Op.indexAddr 83 (Operand.tmp 25) (Operand.const (Value.int IntKind.i64 2)), type := 0, pos := "parse.go:112", after := #[{ on := 6, ground := Ground.data }], guard := none }) (v := ?_) rfl (Or.inl ⟨by rfl, ?_⟩) HHeld.out ?_
  rotate_left
  · intro w hSw; clear hSw; go_simp; try with_reducible rfl
  try simp only [pu, pn, s1, s2, s3]
  refine wT (i := 8) (oi := { dst := some 27, op := Op.load 9 (Operand.tmp 26), type := 9, pos := "parse.go:112", after := #[{ on := 7, ground := Ground.data }], guard := none }) (v := (.string x1 : Value)) rfl (Or.inl ⟨by rfl, ?_⟩) HHeld.out ?_
  · intro V hV; have hc0 := hV.cell HW1.out HNE.out; clear hV; go_simp
  try simp only [pu, pn, s1, s2, s3]
  refine wT (i := 10) (oi := { dst := some 29, op := Op.move (Operand.tmp 0), type := 77, pos := "parse.go:112", after := #[], guard := none }) (v := ?_) rfl (Or.inl ⟨by rfl, ?_⟩) HHeld.out ?_
  rotate_left
  · intro w hSw; clear hSw; go_simp; try with_reducible rfl
  try simp only [pu, pn, s1, s2, s3]
  refine wT (i := 11) (oi := { dst := some 30, op := Op.load 83 (Operand.tmp 3), type := 83, pos := "parse.go:112", after := #[], guard := none }) (v := (.slice (some ⟨b, 0, none⟩) 4 4 : Value)) rfl (Or.inl ⟨by rfl, ?_⟩) HHeld.out ?_
  · intro V hV; have hc0 := hV.cell HBX.out HNB.out; clear hV; go_simp
  try simp only [pu, pn, s1, s2, s3]
  refine wT (i := 12) (oi := { dst := some 31, op := Op.indexAddr 83 (Operand.tmp 30) (Operand.const (Value.int IntKind.i64 3)), type := 0, pos := "parse.go:112", after := #[{ on := 11, ground := Ground.data }], guard := none }) (v := ?_) rfl (Or.inl ⟨by rfl, ?_⟩) HHeld.out ?_
  rotate_left
  · intro w hSw; clear hSw; go_simp; try with_reducible rfl
  try simp only [pu, pn, s1, s2, s3]
  refine wT (i := 13) (oi := { dst := some 32, op := Op.load 9 (Operand.tmp 31), type := 9, pos := "parse.go:112", after := #[{ on := 12, ground := Ground.data }], guard := none }) (v := (.string x2 : Value)) rfl (Or.inl ⟨by rfl, ?_⟩) HHeld.out ?_
  · intro V hV; have hc0 := hV.cell HW2.out HNE.out; clear hV; go_simp
  try simp only [pu, pn, s1, s2, s3]
  refine wpAnyH_ready (rs := [4]) (by kernel_rfl) (by simp) ?_
  refine AllReadyH.cons (o := { dst := some 23, op := Op.call { callee := Callee.value (Operand.func 77), args := #[Operand.tmp 19, Operand.tmp 22], argTypes := #[77, 9] }, type := 9, pos := "parse.go:112", after := #[{ on := 0, ground := Ground.data }, { on := 3, ground := Ground.data }], guard := none }) rfl (fun K hK => ?_) AllReadyH.nil
  go_simp
  go_at_call 77; ((with_reducible refine (CF0.out _ HHeld.out).mono ?_); rintro e v0 ⟨rfl, bb⟩; have B0 := Lib.hid (bel_trans HB0.out (bel_dr bb)); have C0 := Lib.hid (HHeld.out.later bb); have Z0 := Lib.hid (keep_bel (bel_dr bb) ZR.out); clear bb)
  refine hK.out _ _ ?_ (fun hHeld => ?_)
  · exact C0.out
  clear HHeld; have HHeld := Lib.hid hHeld; clear hHeld
  clear hK K
  try simp only [pu, pn, s1, s2, s3]
  refine wpAnyH_ready (rs := [9]) (by kernel_rfl) (by simp) ?_
  refine AllReadyH.cons (o := { dst := some 28, op := Op.call { callee := Callee.value (Operand.func 77), args := #[Operand.tmp 24, Operand.tmp 27], argTypes := #[77, 9] }, type := 9, pos := "parse.go:112", after := #[{ on := 5, ground := Ground.data }, { on := 8, ground := Ground.data }, { on := 4, ground := Ground.chain }], guard := none }) rfl (fun K hK => ?_) AllReadyH.nil
  go_simp
  go_at_call 77; ((with_reducible refine (CF1.out _ HHeld.out).mono ?_); rintro e v1 ⟨rfl, bb⟩; have B1 := Lib.hid (bel_trans B0.out bb); have C1 := Lib.hid (HHeld.out.later bb); have Z1 := Lib.hid (keep_bel bb Z0.out); clear bb)
  refine hK.out _ _ ?_ (fun hHeld => ?_)
  · exact C1.out
  clear HHeld; have HHeld := Lib.hid hHeld; clear hHeld
  clear hK K
  try simp only [pu, pn, s1, s2, s3]
  refine wpAnyH_ready (rs := [14]) (by kernel_rfl) (by simp) ?_
  refine AllReadyH.cons (o := { dst := some 33, op := Op.call { callee := Callee.value (Operand.func 75), args := #[Operand.tmp 29, Operand.tmp 32], argTypes := #[77, 9] }, type := 3, pos := "parse.go:112", after := #[{ on := 10, ground := Ground.data }, { on := 13, ground := Ground.data }, { on := 9, ground := Ground.chain }], guard := none }) rfl (fun K hK => ?_) AllReadyH.nil
  go_simp
  go_at_call 75; ((with_reducible refine (CF2.out _ HHeld.out).mono ?_); rintro e v2 ⟨rfl, bb⟩; have B2 := Lib.hid (bel_trans B1.out bb); have C2 := Lib.hid (HHeld.out.later bb); have Z2 := Lib.hid (keep_bel bb Z1.out); clear bb)
  refine hK.out _ _ ?_ (fun hHeld => ?_)
  · exact C2.out
  clear HHeld; have HHeld := Lib.hid hHeld; clear hHeld
  clear hK K
  try simp only [pu, pn, s1, s2, s3]
  refine wT (i := 15) (oi := { dst := some 34, op := Op.build 47 #[(0, Operand.const (Value.int IntKind.u8 3)), (1, Operand.tmp 23), (2, Operand.tmp 28), (3, Operand.tmp 33)], type := 47, pos := "parse.go:112", after := #[{ on := 4, ground := Ground.data }, { on := 9, ground := Ground.data }, { on := 14, ground := Ground.data }], guard := none }) (v := ?_) rfl (Or.inl ⟨by rfl, ?_⟩) HHeld.out ?_
  rotate_left
  · intro w hSw; clear hSw; go_simp; try with_reducible rfl
  try simp only [pu, pn, s1, s2, s3]
  refine wpAnyH_ready (rs := [16]) (by kernel_rfl) (by simp) ?_
  refine AllReadyH.cons (o := { dst := none, op := Op.store 47 (Operand.tmp 4) (Operand.tmp 34), type := 0, pos := "parse.go:112", after := #[{ on := 15, ground := Ground.data }, { on := 14, ground := Ground.chain }, { on := 0, ground := Ground.phase }, { on := 1, ground := Ground.phase }, { on := 2, ground := Ground.phase }, { on := 3, ground := Ground.phase }, { on := 4, ground := Ground.phase }, { on := 5, ground := Ground.phase }, { on := 6, ground := Ground.phase }, { on := 7, ground := Ground.phase }, { on := 8, ground := Ground.phase }, { on := 9, ground := Ground.phase }, { on := 10, ground := Ground.phase }, { on := 11, ground := Ground.phase }, { on := 12, ground := Ground.phase }, { on := 13, ground := Ground.phase }, { on := 14, ground := Ground.phase }, { on := 15, ground := Ground.phase }], guard := none }) rfl (fun K hK => ?_) AllReadyH.nil
  obtain ⟨c0, c1, c2, c3, c4⟩ := cells5 Z2.out
  obtain ⟨f0, f1, f2, f3, f4⟩ := froz5 Z2.out
  go_simp
  refine hK.out _ _ ?_ (fun hHeld => ?_)
  · exact HHeld.out.then (chg5 _ _ _ _ _ _ _)
  clear HHeld; have HHeld := Lib.hid hHeld; clear hHeld
  clear hK K
  try simp only [pu, pn, s1, s2, s3]
  refine wpAnyH_done (by kernel_rfl) ?_ _
  clear HHeld
  try go_wp2
  have ZF := Lib.hid (set5w Z2.out (.int .u8 3) (.string ka) (.string kb) (.int .i64 kc) (.slice none 0 0))
  have BF := Lib.hid (show Below w.heap.size w (((((v2.setCell ⟨w.heap.size + 1, 0, none⟩ (.int .u8 3)).setCell ⟨w.heap.size + 1, 1, none⟩ (.string ka)).setCell ⟨w.heap.size + 1, 2, none⟩ (.string kb)).setCell ⟨w.heap.size + 1, 3, none⟩ (.int .i64 kc)).setCell ⟨w.heap.size + 1, 4, none⟩ (.slice none 0 0)) from ((chg5 v2 (w.heap.size + 1) (.int .u8 3) (.string ka) (.string kb) (.int .i64 kc) (.slice none 0 0)).below (lo := w.heap.size) (fun x e => by omega) (B2.out.size)) |> fun q => B2.out.trans q)
  obtain ⟨WF, hWF⟩ : ∃ WF, WF = (((((v2.setCell ⟨w.heap.size + 1, 0, none⟩ (.int .u8 3)).setCell ⟨w.heap.size + 1, 1, none⟩ (.string ka)).setCell ⟨w.heap.size + 1, 2, none⟩ (.string kb)).setCell ⟨w.heap.size + 1, 3, none⟩ (.int .i64 kc)).setCell ⟨w.heap.size + 1, 4, none⟩ (.slice none 0 0)) := ⟨_, rfl⟩
  rw [← hWF] at ZF BF ⊢
  clear hWF
  obtain ⟨k0, k1, k2, k3, k4⟩ := cells5 ZF.out
  refine bodyPost_ret (v := .agg #[.int .u8 3, .string ka, .string kb, .int .i64 kc, .slice none 0 0]) (by simp [results, Tryz.results64, go_sem, k0, k1, k2, k3, k4]) rfl ⟨rfl, BF.out⟩
set_option maxHeartbeats 1000000 in
set_option maxRecDepth 100000 in
theorem rlook_b0 {B g b : Nat} {t : ByteArray} {ln : Int} {ws : List ByteArray} {w : World} (hr : RB w g t ln) (hb : GB B w) (hA : ES.Rd w (some ⟨b, 0, none⟩) ws) (hs : ∀ i, (wdA ws i).size ≤ 1000000) (hi : isB ws ⟨#[108, 111, 111, 107]⟩ 3 = true) (hq0 : txtB (wdA ws 1) = none) :
    Calls Tryz.prog 64 #[.pointer (some ⟨g, 0, none⟩), .slice (some ⟨b, 0, none⟩) 4 4] w (RN none ln w) := by
  have hn : ws.length = 4 := (isB_true hi).2
  have hz0 := hs 1
  have hbl := rd_lt hA (by omega)
  have hgl := hr.lt
  have hBw := hb.le
  obtain ⟨W0, hW0⟩ : ∃ W0, W0 = (w.alloc (.cells #[.slice (some ⟨b, 0, none⟩) 4 4] 83)).alloc (.cells #[.int .u8 0, .string ⟨#[]⟩, .string ⟨#[]⟩, .int .i64 0, .slice none 0 0] 47) := ⟨_, rfl⟩
  have HB0 := Lib.hid (show Below w.heap.size w W0 by rw [hW0]; exact bel_alloc (alb w _) _)
  have ZB := Lib.hid (show W0.heap[w.heap.size]? = some (.cells #[.slice (some ⟨b, 0, none⟩) 4 4] 83) by rw [hW0]; exact keep_bel (alb _ _) (heap_alloc_new w _))
  have ZR := Lib.hid (show W0.heap[w.heap.size + 1]? = some (.cells #[.int .u8 0, .string ⟨#[]⟩, .string ⟨#[]⟩, .int .i64 0, .slice none 0 0] 47) by rw [hW0]; have := heap_alloc_new (w.alloc (.cells #[.slice (some ⟨b, 0, none⟩) 4 4] 83)) (.cells #[.int .u8 0, .string ⟨#[]⟩, .string ⟨#[]⟩, .int .i64 0, .slice none 0 0] 47); simpa using this)
  have HRC := Lib.hid (fun V (h : Chg (fun x => x = w.heap.size + 1) W0 V) => (show RB V g t ln from h.keep (hr.later HB0.out) (by omega)))
  have HGC := Lib.hid (fun V (h : Chg (fun x => x = w.heap.size + 1) W0 V) => (hb.later HB0.out).chg h (by omega))
  have HA0 := Lib.hid (hA.later HB0.out)
  have IS0 := Lib.hid (is76 ⟨#[103, 101, 116]⟩ 1 1 rfl w.heap.size b 4 ws W0 (by omega) hn (by omega) (by omega) (cellh ZB.out rfl) HA0.out)
  rw [isB_other hi (by decide)] at IS0
  have IS1 := Lib.hid (is76 ⟨#[108, 111, 111, 107]⟩ 3 3 rfl w.heap.size b 4 ws W0 (by omega) hn (by omega) (by omega) (cellh ZB.out rfl) HA0.out)
  rw [hi] at IS1
  have CF0 := Lib.hid (fun V (h : Chg (fun x => x = w.heap.size + 1) W0 V) => rtext_bad (HRC.out V h) (HGC.out V h) hz0 hq0)
  have hw0 := wd_cell HA0.out (i := 1) (by omega)
  obtain ⟨x0, hx0⟩ : ∃ x, wdA ws 1 = x := ⟨_, rfl⟩
  rw [hx0] at hw0
  rw [hx0] at CF0
  have hw1 := wd_cell HA0.out (i := 2) (by omega)
  obtain ⟨x1, hx1⟩ : ∃ x, wdA ws 2 = x := ⟨_, rfl⟩
  rw [hx1] at hw1
  have hw2 := wd_cell HA0.out (i := 3) (by omega)
  obtain ⟨x2, hx2⟩ : ∃ x, wdA ws 3 = x := ⟨_, rfl⟩
  rw [hx2] at hw2
  have hbx : W0.cell? ⟨w.heap.size, 0, none⟩ = some (.slice (some ⟨b, 0, none⟩) 4 4) := cellh ZB.out rfl
  have HBX := Lib.hid hbx
  have HW0 := Lib.hid hw0
  have HW1 := Lib.hid hw1
  have HW2 := Lib.hid hw2
  have HNB := Lib.hid (show ¬ w.heap.size = w.heap.size + 1 by omega)
  have HNE := Lib.hid (show ¬ b = w.heap.size + 1 by omega)
  clear hr hb hA hs hi hn hbl hgl hBw hz0 hq0 hx0 hx1 hx2
  go_enter Tryz.func64, Tryz.ntmps64
  go_upto_region 2 with fail
  rw [← hW0]
  clear hW0
  go_upto_region 5 with (first
    | (go_at_call 76; ((with_reducible refine IS0.out.mono ?_); rintro e w0 ⟨rfl, rfl⟩))
    | (go_at_call 76; ((with_reducible refine IS1.out.mono ?_); rintro e w0 ⟨rfl, rfl⟩))
    | fail)
  refine wp_region_held_drew (S := (fun V : World => Chg (fun x => x = w.heap.size + 1) W0 V)) (by kernel_rfl) ?_ (fun hHeld => ?_)
  · exact (Chg.refl _ W0).drew
  have HHeld := Lib.hid hHeld; clear hHeld
  refine wT (i := 0) (oi := { dst := some 19, op := Op.move (Operand.tmp 0), type := 77, pos := "parse.go:112", after := #[], guard := none }) (v := ?_) rfl (Or.inl ⟨by rfl, ?_⟩) HHeld.out ?_
  rotate_left
  · intro w hSw; clear hSw; go_simp; try with_reducible rfl
  try simp only [pu, pn, s1, s2, s3]
  refine wT (i := 1) (oi := { dst := some 20, op := Op.load 83 (Operand.tmp 3), type := 83, pos := "parse.go:112", after := #[], guard := none }) (v := (.slice (some ⟨b, 0, none⟩) 4 4 : Value)) rfl (Or.inl ⟨by rfl, ?_⟩) HHeld.out ?_
  · intro V hV; have hc0 := hV.cell HBX.out HNB.out; clear hV; go_simp
  try simp only [pu, pn, s1, s2, s3]
  refine wT (i := 2) (oi := { dst := some 21, op := Op.indexAddr 83 (Operand.tmp 20) (Operand.const (Value.int IntKind.i64 1)), type := 0, pos := "parse.go:112", after := #[{ on := 1, ground := Ground.data }], guard := none }) (v := ?_) rfl (Or.inl ⟨by rfl, ?_⟩) HHeld.out ?_
  rotate_left
  · intro w hSw; clear hSw; go_simp; try with_reducible rfl
  try simp only [pu, pn, s1, s2, s3]
  refine wT (i := 3) (oi := { dst := some 22, op := Op.load 9 (Operand.tmp 21), type := 9, pos := "parse.go:112", after := #[{ on := 2, ground := Ground.data }], guard := none }) (v := (.string x0 : Value)) rfl (Or.inl ⟨by rfl, ?_⟩) HHeld.out ?_
  · intro V hV; have hc0 := hV.cell HW0.out HNE.out; clear hV; go_simp
  try simp only [pu, pn, s1, s2, s3]
  refine wT (i := 5) (oi := { dst := some 24, op := Op.move (Operand.tmp 0), type := 77, pos := "parse.go:112", after := #[], guard := none }) (v := ?_) rfl (Or.inl ⟨by rfl, ?_⟩) HHeld.out ?_
  rotate_left
  · intro w hSw; clear hSw; go_simp; try with_reducible rfl
  try simp only [pu, pn, s1, s2, s3]
  refine wT (i := 6) (oi := { dst := some 25, op := Op.load 83 (Operand.tmp 3), type := 83, pos := "parse.go:112", after := #[], guard := none }) (v := (.slice (some ⟨b, 0, none⟩) 4 4 : Value)) rfl (Or.inl ⟨by rfl, ?_⟩) HHeld.out ?_
  · intro V hV; have hc0 := hV.cell HBX.out HNB.out; clear hV; go_simp
  try simp only [pu, pn, s1, s2, s3]
  refine wT (i := 7) (oi := { dst := some 26, op := Op.indexAddr 83 (Operand.tmp 25) (Operand.const (Value.int IntKind.i64 2)), type := 0, pos := "parse.go:112", after := #[{ on := 6, ground := Ground.data }], guard := none }) (v := ?_) rfl (Or.inl ⟨by rfl, ?_⟩) HHeld.out ?_
  rotate_left
  · intro w hSw; clear hSw; go_simp; try with_reducible rfl
  try simp only [pu, pn, s1, s2, s3]
  refine wT (i := 8) (oi := { dst := some 27, op := Op.load 9 (Operand.tmp 26), type := 9, pos := "parse.go:112", after := #[{ on := 7, ground := Ground.data }], guard := none }) (v := (.string x1 : Value)) rfl (Or.inl ⟨by rfl, ?_⟩) HHeld.out ?_
  · intro V hV; have hc0 := hV.cell HW1.out HNE.out; clear hV; go_simp
  try simp only [pu, pn, s1, s2, s3]
  refine wT (i := 10) (oi := { dst := some 29, op := Op.move (Operand.tmp 0), type := 77, pos := "parse.go:112", after := #[], guard := none }) (v := ?_) rfl (Or.inl ⟨by rfl, ?_⟩) HHeld.out ?_
  rotate_left
  · intro w hSw; clear hSw; go_simp; try with_reducible rfl
  try simp only [pu, pn, s1, s2, s3]
  refine wT (i := 11) (oi := { dst := some 30, op := Op.load 83 (Operand.tmp 3), type := 83, pos := "parse.go:112", after := #[], guard := none }) (v := (.slice (some ⟨b, 0, none⟩) 4 4 : Value)) rfl (Or.inl ⟨by rfl, ?_⟩) HHeld.out ?_
  · intro V hV; have hc0 := hV.cell HBX.out HNB.out; clear hV; go_simp
  try simp only [pu, pn, s1, s2, s3]
  refine wT (i := 12) (oi := { dst := some 31, op := Op.indexAddr 83 (Operand.tmp 30) (Operand.const (Value.int IntKind.i64 3)), type := 0, pos := "parse.go:112", after := #[{ on := 11, ground := Ground.data }], guard := none }) (v := ?_) rfl (Or.inl ⟨by rfl, ?_⟩) HHeld.out ?_
  rotate_left
  · intro w hSw; clear hSw; go_simp; try with_reducible rfl
  try simp only [pu, pn, s1, s2, s3]
  refine wT (i := 13) (oi := { dst := some 32, op := Op.load 9 (Operand.tmp 31), type := 9, pos := "parse.go:112", after := #[{ on := 12, ground := Ground.data }], guard := none }) (v := (.string x2 : Value)) rfl (Or.inl ⟨by rfl, ?_⟩) HHeld.out ?_
  · intro V hV; have hc0 := hV.cell HW2.out HNE.out; clear hV; go_simp
  try simp only [pu, pn, s1, s2, s3]
  refine wpAnyH_ready (rs := [4]) (by kernel_rfl) (by simp) ?_
  refine AllReadyH.cons (o := { dst := some 23, op := Op.call { callee := Callee.value (Operand.func 77), args := #[Operand.tmp 19, Operand.tmp 22], argTypes := #[77, 9] }, type := 9, pos := "parse.go:112", after := #[{ on := 0, ground := Ground.data }, { on := 3, ground := Ground.data }], guard := none }) rfl (fun K hK => ?_) AllReadyH.nil
  go_simp
  go_at_call 77; ((with_reducible refine (CF0.out _ HHeld.out).mono ?_); rintro e v0 ⟨rfl, bb⟩)
  exact ⟨rfl, rfl, bel_trans HB0.out (bel_dr bb)⟩
set_option maxHeartbeats 1000000 in
set_option maxRecDepth 100000 in
theorem rlook_b1 {B g b : Nat} {t : ByteArray} {ln : Int} {ws : List ByteArray} {w : World} (hr : RB w g t ln) (hb : GB B w) (hA : ES.Rd w (some ⟨b, 0, none⟩) ws) (hs : ∀ i, (wdA ws i).size ≤ 1000000) (hi : isB ws ⟨#[108, 111, 111, 107]⟩ 3 = true) (ka : ByteArray) (hq0 : txtB (wdA ws 1) = some ka) (hq1 : txtB (wdA ws 2) = none) :
    Calls Tryz.prog 64 #[.pointer (some ⟨g, 0, none⟩), .slice (some ⟨b, 0, none⟩) 4 4] w (RN none ln w) := by
  have hn : ws.length = 4 := (isB_true hi).2
  have hz0 := hs 1
  have hz1 := hs 2
  have hbl := rd_lt hA (by omega)
  have hgl := hr.lt
  have hBw := hb.le
  obtain ⟨W0, hW0⟩ : ∃ W0, W0 = (w.alloc (.cells #[.slice (some ⟨b, 0, none⟩) 4 4] 83)).alloc (.cells #[.int .u8 0, .string ⟨#[]⟩, .string ⟨#[]⟩, .int .i64 0, .slice none 0 0] 47) := ⟨_, rfl⟩
  have HB0 := Lib.hid (show Below w.heap.size w W0 by rw [hW0]; exact bel_alloc (alb w _) _)
  have ZB := Lib.hid (show W0.heap[w.heap.size]? = some (.cells #[.slice (some ⟨b, 0, none⟩) 4 4] 83) by rw [hW0]; exact keep_bel (alb _ _) (heap_alloc_new w _))
  have ZR := Lib.hid (show W0.heap[w.heap.size + 1]? = some (.cells #[.int .u8 0, .string ⟨#[]⟩, .string ⟨#[]⟩, .int .i64 0, .slice none 0 0] 47) by rw [hW0]; have := heap_alloc_new (w.alloc (.cells #[.slice (some ⟨b, 0, none⟩) 4 4] 83)) (.cells #[.int .u8 0, .string ⟨#[]⟩, .string ⟨#[]⟩, .int .i64 0, .slice none 0 0] 47); simpa using this)
  have HRC := Lib.hid (fun V (h : Chg (fun x => x = w.heap.size + 1) W0 V) => (show RB V g t ln from h.keep (hr.later HB0.out) (by omega)))
  have HGC := Lib.hid (fun V (h : Chg (fun x => x = w.heap.size + 1) W0 V) => (hb.later HB0.out).chg h (by omega))
  have HA0 := Lib.hid (hA.later HB0.out)
  have IS0 := Lib.hid (is76 ⟨#[103, 101, 116]⟩ 1 1 rfl w.heap.size b 4 ws W0 (by omega) hn (by omega) (by omega) (cellh ZB.out rfl) HA0.out)
  rw [isB_other hi (by decide)] at IS0
  have IS1 := Lib.hid (is76 ⟨#[108, 111, 111, 107]⟩ 3 3 rfl w.heap.size b 4 ws W0 (by omega) hn (by omega) (by omega) (cellh ZB.out rfl) HA0.out)
  rw [hi] at IS1
  have CF0 := Lib.hid (fun V (h : Chg (fun x => x = w.heap.size + 1) W0 V) => rtext_ok (HRC.out V h) (HGC.out V h) hz0 hq0)
  have CF1 := Lib.hid (fun V (h : Chg (fun x => x = w.heap.size + 1) W0 V) => rtext_bad (HRC.out V h) (HGC.out V h) hz1 hq1)
  have hw0 := wd_cell HA0.out (i := 1) (by omega)
  obtain ⟨x0, hx0⟩ : ∃ x, wdA ws 1 = x := ⟨_, rfl⟩
  rw [hx0] at hw0
  rw [hx0] at CF0
  have hw1 := wd_cell HA0.out (i := 2) (by omega)
  obtain ⟨x1, hx1⟩ : ∃ x, wdA ws 2 = x := ⟨_, rfl⟩
  rw [hx1] at hw1
  rw [hx1] at CF1
  have hw2 := wd_cell HA0.out (i := 3) (by omega)
  obtain ⟨x2, hx2⟩ : ∃ x, wdA ws 3 = x := ⟨_, rfl⟩
  rw [hx2] at hw2
  have hbx : W0.cell? ⟨w.heap.size, 0, none⟩ = some (.slice (some ⟨b, 0, none⟩) 4 4) := cellh ZB.out rfl
  have HBX := Lib.hid hbx
  have HW0 := Lib.hid hw0
  have HW1 := Lib.hid hw1
  have HW2 := Lib.hid hw2
  have HNB := Lib.hid (show ¬ w.heap.size = w.heap.size + 1 by omega)
  have HNE := Lib.hid (show ¬ b = w.heap.size + 1 by omega)
  clear hr hb hA hs hi hn hbl hgl hBw hz0 hq0 hz1 hq1 hx0 hx1 hx2
  go_enter Tryz.func64, Tryz.ntmps64
  go_upto_region 2 with fail
  rw [← hW0]
  clear hW0
  go_upto_region 5 with (first
    | (go_at_call 76; ((with_reducible refine IS0.out.mono ?_); rintro e w0 ⟨rfl, rfl⟩))
    | (go_at_call 76; ((with_reducible refine IS1.out.mono ?_); rintro e w0 ⟨rfl, rfl⟩))
    | fail)
  refine wp_region_held_drew (S := (fun V : World => Chg (fun x => x = w.heap.size + 1) W0 V)) (by kernel_rfl) ?_ (fun hHeld => ?_)
  · exact (Chg.refl _ W0).drew
  have HHeld := Lib.hid hHeld; clear hHeld
  refine wT (i := 0) (oi := { dst := some 19, op := Op.move (Operand.tmp 0), type := 77, pos := "parse.go:112", after := #[], guard := none }) (v := ?_) rfl (Or.inl ⟨by rfl, ?_⟩) HHeld.out ?_
  rotate_left
  · intro w hSw; clear hSw; go_simp; try with_reducible rfl
  try simp only [pu, pn, s1, s2, s3]
  refine wT (i := 1) (oi := { dst := some 20, op := Op.load 83 (Operand.tmp 3), type := 83, pos := "parse.go:112", after := #[], guard := none }) (v := (.slice (some ⟨b, 0, none⟩) 4 4 : Value)) rfl (Or.inl ⟨by rfl, ?_⟩) HHeld.out ?_
  · intro V hV; have hc0 := hV.cell HBX.out HNB.out; clear hV; go_simp
  try simp only [pu, pn, s1, s2, s3]
  refine wT (i := 2) (oi := { dst := some 21, op := Op.indexAddr 83 (Operand.tmp 20) (Operand.const (Value.int IntKind.i64 1)), type := 0, pos := "parse.go:112", after := #[{ on := 1, ground := Ground.data }], guard := none }) (v := ?_) rfl (Or.inl ⟨by rfl, ?_⟩) HHeld.out ?_
  rotate_left
  · intro w hSw; clear hSw; go_simp; try with_reducible rfl
  try simp only [pu, pn, s1, s2, s3]
  refine wT (i := 3) (oi := { dst := some 22, op := Op.load 9 (Operand.tmp 21), type := 9, pos := "parse.go:112", after := #[{ on := 2, ground := Ground.data }], guard := none }) (v := (.string x0 : Value)) rfl (Or.inl ⟨by rfl, ?_⟩) HHeld.out ?_
  · intro V hV; have hc0 := hV.cell HW0.out HNE.out; clear hV; go_simp
  try simp only [pu, pn, s1, s2, s3]
  refine wT (i := 5) (oi := { dst := some 24, op := Op.move (Operand.tmp 0), type := 77, pos := "parse.go:112", after := #[], guard := none }) (v := ?_) rfl (Or.inl ⟨by rfl, ?_⟩) HHeld.out ?_
  rotate_left
  · intro w hSw; clear hSw; go_simp; try with_reducible rfl
  try simp only [pu, pn, s1, s2, s3]
  refine wT (i := 6) (oi := { dst := some 25, op := Op.load 83 (Operand.tmp 3), type := 83, pos := "parse.go:112", after := #[], guard := none }) (v := (.slice (some ⟨b, 0, none⟩) 4 4 : Value)) rfl (Or.inl ⟨by rfl, ?_⟩) HHeld.out ?_
  · intro V hV; have hc0 := hV.cell HBX.out HNB.out; clear hV; go_simp
  try simp only [pu, pn, s1, s2, s3]
  refine wT (i := 7) (oi := { dst := some 26, op := Op.indexAddr 83 (Operand.tmp 25) (Operand.const (Value.int IntKind.i64 2)), type := 0, pos := "parse.go:112", after := #[{ on := 6, ground := Ground.data }], guard := none }) (v := ?_) rfl (Or.inl ⟨by rfl, ?_⟩) HHeld.out ?_
  rotate_left
  · intro w hSw; clear hSw; go_simp; try with_reducible rfl
  try simp only [pu, pn, s1, s2, s3]
  refine wT (i := 8) (oi := { dst := some 27, op := Op.load 9 (Operand.tmp 26), type := 9, pos := "parse.go:112", after := #[{ on := 7, ground := Ground.data }], guard := none }) (v := (.string x1 : Value)) rfl (Or.inl ⟨by rfl, ?_⟩) HHeld.out ?_
  · intro V hV; have hc0 := hV.cell HW1.out HNE.out; clear hV; go_simp
  try simp only [pu, pn, s1, s2, s3]
  refine wT (i := 10) (oi := { dst := some 29, op := Op.move (Operand.tmp 0), type := 77, pos := "parse.go:112", after := #[], guard := none }) (v := ?_) rfl (Or.inl ⟨by rfl, ?_⟩) HHeld.out ?_
  rotate_left
  · intro w hSw; clear hSw; go_simp; try with_reducible rfl
  try simp only [pu, pn, s1, s2, s3]
  refine wT (i := 11) (oi := { dst := some 30, op := Op.load 83 (Operand.tmp 3), type := 83, pos := "parse.go:112", after := #[], guard := none }) (v := (.slice (some ⟨b, 0, none⟩) 4 4 : Value)) rfl (Or.inl ⟨by rfl, ?_⟩) HHeld.out ?_
  · intro V hV; have hc0 := hV.cell HBX.out HNB.out; clear hV; go_simp
  try simp only [pu, pn, s1, s2, s3]
  refine wT (i := 12) (oi := { dst := some 31, op := Op.indexAddr 83 (Operand.tmp 30) (Operand.const (Value.int IntKind.i64 3)), type := 0, pos := "parse.go:112", after := #[{ on := 11, ground := Ground.data }], guard := none }) (v := ?_) rfl (Or.inl ⟨by rfl, ?_⟩) HHeld.out ?_
  rotate_left
  · intro w hSw; clear hSw; go_simp; try with_reducible rfl
  try simp only [pu, pn, s1, s2, s3]
  refine wT (i := 13) (oi := { dst := some 32, op := Op.load 9 (Operand.tmp 31), type := 9, pos := "parse.go:112", after := #[{ on := 12, ground := Ground.data }], guard := none }) (v := (.string x2 : Value)) rfl (Or.inl ⟨by rfl, ?_⟩) HHeld.out ?_
  · intro V hV; have hc0 := hV.cell HW2.out HNE.out; clear hV; go_simp
  try simp only [pu, pn, s1, s2, s3]
  refine wpAnyH_ready (rs := [4]) (by kernel_rfl) (by simp) ?_
  refine AllReadyH.cons (o := { dst := some 23, op := Op.call { callee := Callee.value (Operand.func 77), args := #[Operand.tmp 19, Operand.tmp 22], argTypes := #[77, 9] }, type := 9, pos := "parse.go:112", after := #[{ on := 0, ground := Ground.data }, { on := 3, ground := Ground.data }], guard := none }) rfl (fun K hK => ?_) AllReadyH.nil
  go_simp
  go_at_call 77; ((with_reducible refine (CF0.out _ HHeld.out).mono ?_); rintro e v0 ⟨rfl, bb⟩; have B0 := Lib.hid (bel_trans HB0.out (bel_dr bb)); have C0 := Lib.hid (HHeld.out.later bb); have Z0 := Lib.hid (keep_bel (bel_dr bb) ZR.out); clear bb)
  refine hK.out _ _ ?_ (fun hHeld => ?_)
  · exact C0.out
  clear HHeld; have HHeld := Lib.hid hHeld; clear hHeld
  clear hK K
  try simp only [pu, pn, s1, s2, s3]
  refine wpAnyH_ready (rs := [9]) (by kernel_rfl) (by simp) ?_
  refine AllReadyH.cons (o := { dst := some 28, op := Op.call { callee := Callee.value (Operand.func 77), args := #[Operand.tmp 24, Operand.tmp 27], argTypes := #[77, 9] }, type := 9, pos := "parse.go:112", after := #[{ on := 5, ground := Ground.data }, { on := 8, ground := Ground.data }, { on := 4, ground := Ground.chain }], guard := none }) rfl (fun K hK => ?_) AllReadyH.nil
  go_simp
  go_at_call 77; ((with_reducible refine (CF1.out _ HHeld.out).mono ?_); rintro e v1 ⟨rfl, bb⟩)
  exact ⟨rfl, rfl, bel_trans B0.out bb⟩
set_option maxHeartbeats 1000000 in
set_option maxRecDepth 100000 in
theorem rlook_b2 {B g b : Nat} {t : ByteArray} {ln : Int} {ws : List ByteArray} {w : World} (hr : RB w g t ln) (hb : GB B w) (hA : ES.Rd w (some ⟨b, 0, none⟩) ws) (hs : ∀ i, (wdA ws i).size ≤ 1000000) (hi : isB ws ⟨#[108, 111, 111, 107]⟩ 3 = true) (ka : ByteArray) (hq0 : txtB (wdA ws 1) = some ka) (kb : ByteArray) (hq1 : txtB (wdA ws 2) = some kb) (hq2 : numB (wdA ws 3) = none) :
    Calls Tryz.prog 64 #[.pointer (some ⟨g, 0, none⟩), .slice (some ⟨b, 0, none⟩) 4 4] w (RN none ln w) := by
  have hn : ws.length = 4 := (isB_true hi).2
  have hz0 := hs 1
  have hz1 := hs 2
  have hz2 := hs 3
  have hbl := rd_lt hA (by omega)
  have hgl := hr.lt
  have hBw := hb.le
  obtain ⟨W0, hW0⟩ : ∃ W0, W0 = (w.alloc (.cells #[.slice (some ⟨b, 0, none⟩) 4 4] 83)).alloc (.cells #[.int .u8 0, .string ⟨#[]⟩, .string ⟨#[]⟩, .int .i64 0, .slice none 0 0] 47) := ⟨_, rfl⟩
  have HB0 := Lib.hid (show Below w.heap.size w W0 by rw [hW0]; exact bel_alloc (alb w _) _)
  have ZB := Lib.hid (show W0.heap[w.heap.size]? = some (.cells #[.slice (some ⟨b, 0, none⟩) 4 4] 83) by rw [hW0]; exact keep_bel (alb _ _) (heap_alloc_new w _))
  have ZR := Lib.hid (show W0.heap[w.heap.size + 1]? = some (.cells #[.int .u8 0, .string ⟨#[]⟩, .string ⟨#[]⟩, .int .i64 0, .slice none 0 0] 47) by rw [hW0]; have := heap_alloc_new (w.alloc (.cells #[.slice (some ⟨b, 0, none⟩) 4 4] 83)) (.cells #[.int .u8 0, .string ⟨#[]⟩, .string ⟨#[]⟩, .int .i64 0, .slice none 0 0] 47); simpa using this)
  have HRC := Lib.hid (fun V (h : Chg (fun x => x = w.heap.size + 1) W0 V) => (show RB V g t ln from h.keep (hr.later HB0.out) (by omega)))
  have HGC := Lib.hid (fun V (h : Chg (fun x => x = w.heap.size + 1) W0 V) => (hb.later HB0.out).chg h (by omega))
  have HA0 := Lib.hid (hA.later HB0.out)
  have IS0 := Lib.hid (is76 ⟨#[103, 101, 116]⟩ 1 1 rfl w.heap.size b 4 ws W0 (by omega) hn (by omega) (by omega) (cellh ZB.out rfl) HA0.out)
  rw [isB_other hi (by decide)] at IS0
  have IS1 := Lib.hid (is76 ⟨#[108, 111, 111, 107]⟩ 3 3 rfl w.heap.size b 4 ws W0 (by omega) hn (by omega) (by omega) (cellh ZB.out rfl) HA0.out)
  rw [hi] at IS1
  have CF0 := Lib.hid (fun V (h : Chg (fun x => x = w.heap.size + 1) W0 V) => rtext_ok (HRC.out V h) (HGC.out V h) hz0 hq0)
  have CF1 := Lib.hid (fun V (h : Chg (fun x => x = w.heap.size + 1) W0 V) => rtext_ok (HRC.out V h) (HGC.out V h) hz1 hq1)
  have CF2 := Lib.hid (fun V (h : Chg (fun x => x = w.heap.size + 1) W0 V) => rnumber_bad (HRC.out V h) (HGC.out V h) (Nat.le_trans hz2 (by omega)) hq2)
  have hw0 := wd_cell HA0.out (i := 1) (by omega)
  obtain ⟨x0, hx0⟩ : ∃ x, wdA ws 1 = x := ⟨_, rfl⟩
  rw [hx0] at hw0
  rw [hx0] at CF0
  have hw1 := wd_cell HA0.out (i := 2) (by omega)
  obtain ⟨x1, hx1⟩ : ∃ x, wdA ws 2 = x := ⟨_, rfl⟩
  rw [hx1] at hw1
  rw [hx1] at CF1
  have hw2 := wd_cell HA0.out (i := 3) (by omega)
  obtain ⟨x2, hx2⟩ : ∃ x, wdA ws 3 = x := ⟨_, rfl⟩
  rw [hx2] at hw2
  rw [hx2] at CF2
  have hbx : W0.cell? ⟨w.heap.size, 0, none⟩ = some (.slice (some ⟨b, 0, none⟩) 4 4) := cellh ZB.out rfl
  have HBX := Lib.hid hbx
  have HW0 := Lib.hid hw0
  have HW1 := Lib.hid hw1
  have HW2 := Lib.hid hw2
  have HNB := Lib.hid (show ¬ w.heap.size = w.heap.size + 1 by omega)
  have HNE := Lib.hid (show ¬ b = w.heap.size + 1 by omega)
  clear hr hb hA hs hi hn hbl hgl hBw hz0 hq0 hz1 hq1 hz2 hq2 hx0 hx1 hx2
  go_enter Tryz.func64, Tryz.ntmps64
  go_upto_region 2 with fail
  rw [← hW0]
  clear hW0
  go_upto_region 5 with (first
    | (go_at_call 76; ((with_reducible refine IS0.out.mono ?_); rintro e w0 ⟨rfl, rfl⟩))
    | (go_at_call 76; ((with_reducible refine IS1.out.mono ?_); rintro e w0 ⟨rfl, rfl⟩))
    | fail)
  refine wp_region_held_drew (S := (fun V : World => Chg (fun x => x = w.heap.size + 1) W0 V)) (by kernel_rfl) ?_ (fun hHeld => ?_)
  · exact (Chg.refl _ W0).drew
  have HHeld := Lib.hid hHeld; clear hHeld
  refine wT (i := 0) (oi := { dst := some 19, op := Op.move (Operand.tmp 0), type := 77, pos := "parse.go:112", after := #[], guard := none }) (v := ?_) rfl (Or.inl ⟨by rfl, ?_⟩) HHeld.out ?_
  rotate_left
  · intro w hSw; clear hSw; go_simp; try with_reducible rfl
  try simp only [pu, pn, s1, s2, s3]
  refine wT (i := 1) (oi := { dst := some 20, op := Op.load 83 (Operand.tmp 3), type := 83, pos := "parse.go:112", after := #[], guard := none }) (v := (.slice (some ⟨b, 0, none⟩) 4 4 : Value)) rfl (Or.inl ⟨by rfl, ?_⟩) HHeld.out ?_
  · intro V hV; have hc0 := hV.cell HBX.out HNB.out; clear hV; go_simp
  try simp only [pu, pn, s1, s2, s3]
  refine wT (i := 2) (oi := { dst := some 21, op := Op.indexAddr 83 (Operand.tmp 20) (Operand.const (Value.int IntKind.i64 1)), type := 0, pos := "parse.go:112", after := #[{ on := 1, ground := Ground.data }], guard := none }) (v := ?_) rfl (Or.inl ⟨by rfl, ?_⟩) HHeld.out ?_
  rotate_left
  · intro w hSw; clear hSw; go_simp; try with_reducible rfl
  try simp only [pu, pn, s1, s2, s3]
  refine wT (i := 3) (oi := { dst := some 22, op := Op.load 9 (Operand.tmp 21), type := 9, pos := "parse.go:112", after := #[{ on := 2, ground := Ground.data }], guard := none }) (v := (.string x0 : Value)) rfl (Or.inl ⟨by rfl, ?_⟩) HHeld.out ?_
  · intro V hV; have hc0 := hV.cell HW0.out HNE.out; clear hV; go_simp
  try simp only [pu, pn, s1, s2, s3]
  refine wT (i := 5) (oi := { dst := some 24, op := Op.move (Operand.tmp 0), type := 77, pos := "parse.go:112", after := #[], guard := none }) (v := ?_) rfl (Or.inl ⟨by rfl, ?_⟩) HHeld.out ?_
  rotate_left
  · intro w hSw; clear hSw; go_simp; try with_reducible rfl
  try simp only [pu, pn, s1, s2, s3]
  refine wT (i := 6) (oi := { dst := some 25, op := Op.load 83 (Operand.tmp 3), type := 83, pos := "parse.go:112", after := #[], guard := none }) (v := (.slice (some ⟨b, 0, none⟩) 4 4 : Value)) rfl (Or.inl ⟨by rfl, ?_⟩) HHeld.out ?_
  · intro V hV; have hc0 := hV.cell HBX.out HNB.out; clear hV; go_simp
  try simp only [pu, pn, s1, s2, s3]
  refine wT (i := 7) (oi := { dst := some 26, op := Op.indexAddr 83 (Operand.tmp 25) (Operand.const (Value.int IntKind.i64 2)), type := 0, pos := "parse.go:112", after := #[{ on := 6, ground := Ground.data }], guard := none }) (v := ?_) rfl (Or.inl ⟨by rfl, ?_⟩) HHeld.out ?_
  rotate_left
  · intro w hSw; clear hSw; go_simp; try with_reducible rfl
  try simp only [pu, pn, s1, s2, s3]
  refine wT (i := 8) (oi := { dst := some 27, op := Op.load 9 (Operand.tmp 26), type := 9, pos := "parse.go:112", after := #[{ on := 7, ground := Ground.data }], guard := none }) (v := (.string x1 : Value)) rfl (Or.inl ⟨by rfl, ?_⟩) HHeld.out ?_
  · intro V hV; have hc0 := hV.cell HW1.out HNE.out; clear hV; go_simp
  try simp only [pu, pn, s1, s2, s3]
  refine wT (i := 10) (oi := { dst := some 29, op := Op.move (Operand.tmp 0), type := 77, pos := "parse.go:112", after := #[], guard := none }) (v := ?_) rfl (Or.inl ⟨by rfl, ?_⟩) HHeld.out ?_
  rotate_left
  · intro w hSw; clear hSw; go_simp; try with_reducible rfl
  try simp only [pu, pn, s1, s2, s3]
  refine wT (i := 11) (oi := { dst := some 30, op := Op.load 83 (Operand.tmp 3), type := 83, pos := "parse.go:112", after := #[], guard := none }) (v := (.slice (some ⟨b, 0, none⟩) 4 4 : Value)) rfl (Or.inl ⟨by rfl, ?_⟩) HHeld.out ?_
  · intro V hV; have hc0 := hV.cell HBX.out HNB.out; clear hV; go_simp
  try simp only [pu, pn, s1, s2, s3]
  refine wT (i := 12) (oi := { dst := some 31, op := Op.indexAddr 83 (Operand.tmp 30) (Operand.const (Value.int IntKind.i64 3)), type := 0, pos := "parse.go:112", after := #[{ on := 11, ground := Ground.data }], guard := none }) (v := ?_) rfl (Or.inl ⟨by rfl, ?_⟩) HHeld.out ?_
  rotate_left
  · intro w hSw; clear hSw; go_simp; try with_reducible rfl
  try simp only [pu, pn, s1, s2, s3]
  refine wT (i := 13) (oi := { dst := some 32, op := Op.load 9 (Operand.tmp 31), type := 9, pos := "parse.go:112", after := #[{ on := 12, ground := Ground.data }], guard := none }) (v := (.string x2 : Value)) rfl (Or.inl ⟨by rfl, ?_⟩) HHeld.out ?_
  · intro V hV; have hc0 := hV.cell HW2.out HNE.out; clear hV; go_simp
  try simp only [pu, pn, s1, s2, s3]
  refine wpAnyH_ready (rs := [4]) (by kernel_rfl) (by simp) ?_
  refine AllReadyH.cons (o := { dst := some 23, op := Op.call { callee := Callee.value (Operand.func 77), args := #[Operand.tmp 19, Operand.tmp 22], argTypes := #[77, 9] }, type := 9, pos := "parse.go:112", after := #[{ on := 0, ground := Ground.data }, { on := 3, ground := Ground.data }], guard := none }) rfl (fun K hK => ?_) AllReadyH.nil
  go_simp
  go_at_call 77; ((with_reducible refine (CF0.out _ HHeld.out).mono ?_); rintro e v0 ⟨rfl, bb⟩; have B0 := Lib.hid (bel_trans HB0.out (bel_dr bb)); have C0 := Lib.hid (HHeld.out.later bb); have Z0 := Lib.hid (keep_bel (bel_dr bb) ZR.out); clear bb)
  refine hK.out _ _ ?_ (fun hHeld => ?_)
  · exact C0.out
  clear HHeld; have HHeld := Lib.hid hHeld; clear hHeld
  clear hK K
  try simp only [pu, pn, s1, s2, s3]
  refine wpAnyH_ready (rs := [9]) (by kernel_rfl) (by simp) ?_
  refine AllReadyH.cons (o := { dst := some 28, op := Op.call { callee := Callee.value (Operand.func 77), args := #[Operand.tmp 24, Operand.tmp 27], argTypes := #[77, 9] }, type := 9, pos := "parse.go:112", after := #[{ on := 5, ground := Ground.data }, { on := 8, ground := Ground.data }, { on := 4, ground := Ground.chain }], guard := none }) rfl (fun K hK => ?_) AllReadyH.nil
  go_simp
  go_at_call 77; ((with_reducible refine (CF1.out _ HHeld.out).mono ?_); rintro e v1 ⟨rfl, bb⟩; have B1 := Lib.hid (bel_trans B0.out bb); have C1 := Lib.hid (HHeld.out.later bb); have Z1 := Lib.hid (keep_bel bb Z0.out); clear bb)
  refine hK.out _ _ ?_ (fun hHeld => ?_)
  · exact C1.out
  clear HHeld; have HHeld := Lib.hid hHeld; clear hHeld
  clear hK K
  try simp only [pu, pn, s1, s2, s3]
  refine wpAnyH_ready (rs := [14]) (by kernel_rfl) (by simp) ?_
  refine AllReadyH.cons (o := { dst := some 33, op := Op.call { callee := Callee.value (Operand.func 75), args := #[Operand.tmp 29, Operand.tmp 32], argTypes := #[77, 9] }, type := 3, pos := "parse.go:112", after := #[{ on := 10, ground := Ground.data }, { on := 13, ground := Ground.data }, { on := 9, ground := Ground.chain }], guard := none }) rfl (fun K hK => ?_) AllReadyH.nil
  go_simp
  go_at_call 75; ((with_reducible refine (CF2.out _ HHeld.out).mono ?_); rintro e v2 ⟨rfl, bb⟩)
  exact ⟨rfl, rfl, bel_trans B1.out bb⟩
set_option maxHeartbeats 1000000 in
set_option maxRecDepth 100000 in
theorem ropn_ok {B g b : Nat} {t : ByteArray} {ln : Int} {ws : List ByteArray} {w : World} (hr : RB w g t ln) (hb : GB B w) (hA : ES.Rd w (some ⟨b, 0, none⟩) ws) (hs : ∀ i, (wdA ws i).size ≤ 1000000) (hi : isB ws ⟨#[111, 112, 101, 110]⟩ 2 = true) (ka : ByteArray) (hq0 : txtB (wdA ws 1) = some ka) (kb : ByteArray) (hq1 : txtB (wdA ws 2) = some kb) :
    Calls Tryz.prog 64 #[.pointer (some ⟨g, 0, none⟩), .slice (some ⟨b, 0, none⟩) 3 3] w (RN (some (.agg #[.int .u8 4, .string ka, .string kb, .int .i64 0, .slice none 0 0])) ln w) := by
  have hn : ws.length = 3 := (isB_true hi).2
  have hz0 := hs 1
  have hz1 := hs 2
  have hbl := rd_lt hA (by omega)
  have hgl := hr.lt
  have hBw := hb.le
  obtain ⟨W0, hW0⟩ : ∃ W0, W0 = (w.alloc (.cells #[.slice (some ⟨b, 0, none⟩) 3 3] 83)).alloc (.cells #[.int .u8 0, .string ⟨#[]⟩, .string ⟨#[]⟩, .int .i64 0, .slice none 0 0] 47) := ⟨_, rfl⟩
  have HB0 := Lib.hid (show Below w.heap.size w W0 by rw [hW0]; exact bel_alloc (alb w _) _)
  have ZB := Lib.hid (show W0.heap[w.heap.size]? = some (.cells #[.slice (some ⟨b, 0, none⟩) 3 3] 83) by rw [hW0]; exact keep_bel (alb _ _) (heap_alloc_new w _))
  have ZR := Lib.hid (show W0.heap[w.heap.size + 1]? = some (.cells #[.int .u8 0, .string ⟨#[]⟩, .string ⟨#[]⟩, .int .i64 0, .slice none 0 0] 47) by rw [hW0]; have := heap_alloc_new (w.alloc (.cells #[.slice (some ⟨b, 0, none⟩) 3 3] 83)) (.cells #[.int .u8 0, .string ⟨#[]⟩, .string ⟨#[]⟩, .int .i64 0, .slice none 0 0] 47); simpa using this)
  have HRC := Lib.hid (fun V (h : Chg (fun x => x = w.heap.size + 1) W0 V) => (show RB V g t ln from h.keep (hr.later HB0.out) (by omega)))
  have HGC := Lib.hid (fun V (h : Chg (fun x => x = w.heap.size + 1) W0 V) => (hb.later HB0.out).chg h (by omega))
  have HA0 := Lib.hid (hA.later HB0.out)
  have IS0 := Lib.hid (is76 ⟨#[103, 101, 116]⟩ 1 1 rfl w.heap.size b 3 ws W0 (by omega) hn (by omega) (by omega) (cellh ZB.out rfl) HA0.out)
  rw [isB_other hi (by decide)] at IS0
  have IS1 := Lib.hid (is76 ⟨#[108, 111, 111, 107]⟩ 3 3 rfl w.heap.size b 3 ws W0 (by omega) hn (by omega) (by omega) (cellh ZB.out rfl) HA0.out)
  rw [isB_other hi (by decide)] at IS1
  have IS2 := Lib.hid (is76 ⟨#[111, 112, 101, 110]⟩ 2 2 rfl w.heap.size b 3 ws W0 (by omega) hn (by omega) (by omega) (cellh ZB.out rfl) HA0.out)
  rw [hi] at IS2
  have CF0 := Lib.hid (fun V (h : Chg (fun x => x = w.heap.size + 1) W0 V) => rtext_ok (HRC.out V h) (HGC.out V h) hz0 hq0)
  have CF1 := Lib.hid (fun V (h : Chg (fun x => x = w.heap.size + 1) W0 V) => rtext_ok (HRC.out V h) (HGC.out V h) hz1 hq1)
  have hw0 := wd_cell HA0.out (i := 1) (by omega)
  obtain ⟨x0, hx0⟩ : ∃ x, wdA ws 1 = x := ⟨_, rfl⟩
  rw [hx0] at hw0
  rw [hx0] at CF0
  have hw1 := wd_cell HA0.out (i := 2) (by omega)
  obtain ⟨x1, hx1⟩ : ∃ x, wdA ws 2 = x := ⟨_, rfl⟩
  rw [hx1] at hw1
  rw [hx1] at CF1
  have hbx : W0.cell? ⟨w.heap.size, 0, none⟩ = some (.slice (some ⟨b, 0, none⟩) 3 3) := cellh ZB.out rfl
  have HBX := Lib.hid hbx
  have HW0 := Lib.hid hw0
  have HW1 := Lib.hid hw1
  have HNB := Lib.hid (show ¬ w.heap.size = w.heap.size + 1 by omega)
  have HNE := Lib.hid (show ¬ b = w.heap.size + 1 by omega)
  clear hr hb hA hs hi hn hbl hgl hBw hz0 hq0 hz1 hq1 hx0 hx1
  go_enter Tryz.func64, Tryz.ntmps64
  go_upto_region 2 with fail
  rw [← hW0]
  clear hW0
  go_upto_region 7 with (first
    | (go_at_call 76; ((with_reducible refine IS0.out.mono ?_); rintro e w0 ⟨rfl, rfl⟩))
    | (go_at_call 76; ((with_reducible refine IS1.out.mono ?_); rintro e w0 ⟨rfl, rfl⟩))
    | (go_at_call 76; ((with_reducible refine IS2.out.mono ?_); rintro e w0 ⟨rfl, rfl⟩))
    | fail)
  refine wp_region_held_drew (S := (fun V : World => Chg (fun x => x = w.heap.size + 1) W0 V)) (by kernel_rfl) ?_ (fun hHeld => ?_)
  · exact (Chg.refl _ W0).drew
  have HHeld := Lib.hid hHeld; clear hHeld
  refine wT (i := 0) (oi := { dst := some 38, op := Op.move (Operand.tmp 0), type := 77, pos := "parse.go:114", after := #[], guard := none }) (v := ?_) rfl (Or.inl ⟨by rfl, ?_⟩) HHeld.out ?_
  rotate_left
  · intro w hSw; clear hSw; go_simp; try with_reducible rfl
  try simp only [pu, pn, s1, s2, s3]
  refine wT (i := 1) (oi := { dst := some 39, op := Op.load 83 (Operand.tmp 3), type := 83, pos := "parse.go:114", after := #[], guard := none }) (v := (.slice (some ⟨b, 0, none⟩) 3 3 : Value)) rfl (Or.inl ⟨by rfl, ?_⟩) HHeld.out ?_
  · intro V hV; have hc0 := hV.cell HBX.out HNB.out; clear hV; go_simp
  try simp only [pu, pn, s1, s2, s3]
  refine wT (i := 2) (oi := { dst := some 40, op := Op.indexAddr 83 (Operand.tmp 39) (Operand.const (Value.int IntKind.i64 1)), type := 0, pos := "parse.go:114", after := #[{ on := 1, ground := Ground.data }], guard := none }) (v := ?_) rfl (Or.inl ⟨by rfl, ?_⟩) HHeld.out ?_
  rotate_left
  · intro w hSw; clear hSw; go_simp; try with_reducible rfl
  try simp only [pu, pn, s1, s2, s3]
  refine wT (i := 3) (oi := { dst := some 41, op := Op.load 9 (Operand.tmp 40), type := 9, pos := "parse.go:114", after := #[{ on := 2, ground := Ground.data }], guard := none }) (v := (.string x0 : Value)) rfl (Or.inl ⟨by rfl, ?_⟩) HHeld.out ?_
  · intro V hV; have hc0 := hV.cell HW0.out HNE.out; clear hV; go_simp
  try simp only [pu, pn, s1, s2, s3]
  refine wT (i := 5) (oi := { dst := some 43, op := Op.move (Operand.tmp 0), type := 77, pos := "parse.go:114", after := #[], guard := none }) (v := ?_) rfl (Or.inl ⟨by rfl, ?_⟩) HHeld.out ?_
  rotate_left
  · intro w hSw; clear hSw; go_simp; try with_reducible rfl
  try simp only [pu, pn, s1, s2, s3]
  refine wT (i := 6) (oi := { dst := some 44, op := Op.load 83 (Operand.tmp 3), type := 83, pos := "parse.go:114", after := #[], guard := none }) (v := (.slice (some ⟨b, 0, none⟩) 3 3 : Value)) rfl (Or.inl ⟨by rfl, ?_⟩) HHeld.out ?_
  · intro V hV; have hc0 := hV.cell HBX.out HNB.out; clear hV; go_simp
  try simp only [pu, pn, s1, s2, s3]
  refine wT (i := 7) (oi := { dst := some 45, op := Op.indexAddr 83 (Operand.tmp 44) (Operand.const (Value.int IntKind.i64 2)), type := 0, pos := "parse.go:114", after := #[{ on := 6, ground := Ground.data }], guard := none }) (v := ?_) rfl (Or.inl ⟨by rfl, ?_⟩) HHeld.out ?_
  rotate_left
  · intro w hSw; clear hSw; go_simp; try with_reducible rfl
  try simp only [pu, pn, s1, s2, s3]
  refine wT (i := 8) (oi := { dst := some 46, op := Op.load 9 (Operand.tmp 45), type := 9, pos := "parse.go:114", after := #[{ on := 7, ground := Ground.data }], guard := none }) (v := (.string x1 : Value)) rfl (Or.inl ⟨by rfl, ?_⟩) HHeld.out ?_
  · intro V hV; have hc0 := hV.cell HW1.out HNE.out; clear hV; go_simp
  try simp only [pu, pn, s1, s2, s3]
  refine wpAnyH_ready (rs := [4]) (by kernel_rfl) (by simp) ?_
  refine AllReadyH.cons (o := { dst := some 42, op := Op.call { callee := Callee.value (Operand.func 77), args := #[Operand.tmp 38, Operand.tmp 41], argTypes := #[77, 9] }, type := 9, pos := "parse.go:114", after := #[{ on := 0, ground := Ground.data }, { on := 3, ground := Ground.data }], guard := none }) rfl (fun K hK => ?_) AllReadyH.nil
  go_simp
  go_at_call 77; ((with_reducible refine (CF0.out _ HHeld.out).mono ?_); rintro e v0 ⟨rfl, bb⟩; have B0 := Lib.hid (bel_trans HB0.out (bel_dr bb)); have C0 := Lib.hid (HHeld.out.later bb); have Z0 := Lib.hid (keep_bel (bel_dr bb) ZR.out); clear bb)
  refine hK.out _ _ ?_ (fun hHeld => ?_)
  · exact C0.out
  clear HHeld; have HHeld := Lib.hid hHeld; clear hHeld
  clear hK K
  try simp only [pu, pn, s1, s2, s3]
  refine wpAnyH_ready (rs := [9]) (by kernel_rfl) (by simp) ?_
  refine AllReadyH.cons (o := { dst := some 47, op := Op.call { callee := Callee.value (Operand.func 77), args := #[Operand.tmp 43, Operand.tmp 46], argTypes := #[77, 9] }, type := 9, pos := "parse.go:114", after := #[{ on := 5, ground := Ground.data }, { on := 8, ground := Ground.data }, { on := 4, ground := Ground.chain }], guard := none }) rfl (fun K hK => ?_) AllReadyH.nil
  go_simp
  go_at_call 77; ((with_reducible refine (CF1.out _ HHeld.out).mono ?_); rintro e v1 ⟨rfl, bb⟩; have B1 := Lib.hid (bel_trans B0.out bb); have C1 := Lib.hid (HHeld.out.later bb); have Z1 := Lib.hid (keep_bel bb Z0.out); clear bb)
  refine hK.out _ _ ?_ (fun hHeld => ?_)
  · exact C1.out
  clear HHeld; have HHeld := Lib.hid hHeld; clear hHeld
  clear hK K
  try simp only [pu, pn, s1, s2, s3]
  refine wT (i := 10) (oi := { dst := some 48, op := Op.build 47 #[(0, Operand.const (Value.int IntKind.u8 4)), (1, Operand.tmp 42), (2, Operand.tmp 47)], type := 47, pos := "parse.go:114", after := #[{ on := 4, ground := Ground.data }, { on := 9, ground := Ground.data }], guard := none }) (v := ?_) rfl (Or.inl ⟨by rfl, ?_⟩) HHeld.out ?_
  rotate_left
  · intro w hSw; clear hSw; go_simp; try with_reducible rfl
  try simp only [pu, pn, s1, s2, s3]
  refine wpAnyH_ready (rs := [11]) (by kernel_rfl) (by simp) ?_
  refine AllReadyH.cons (o := { dst := none, op := Op.store 47 (Operand.tmp 4) (Operand.tmp 48), type := 0, pos := "parse.go:114", after := #[{ on := 10, ground := Ground.data }, { on := 9, ground := Ground.chain }, { on := 0, ground := Ground.phase }, { on := 1, ground := Ground.phase }, { on := 2, ground := Ground.phase }, { on := 3, ground := Ground.phase }, { on := 4, ground := Ground.phase }, { on := 5, ground := Ground.phase }, { on := 6, ground := Ground.phase }, { on := 7, ground := Ground.phase }, { on := 8, ground := Ground.phase }, { on := 9, ground := Ground.phase }, { on := 10, ground := Ground.phase }], guard := none }) rfl (fun K hK => ?_) AllReadyH.nil
  obtain ⟨c0, c1, c2, c3, c4⟩ := cells5 Z1.out
  obtain ⟨f0, f1, f2, f3, f4⟩ := froz5 Z1.out
  go_simp
  refine hK.out _ _ ?_ (fun hHeld => ?_)
  · exact HHeld.out.then (chg5 _ _ _ _ _ _ _)
  clear HHeld; have HHeld := Lib.hid hHeld; clear hHeld
  clear hK K
  try simp only [pu, pn, s1, s2, s3]
  refine wpAnyH_done (by kernel_rfl) ?_ _
  clear HHeld
  try go_wp2
  have ZF := Lib.hid (set5w Z1.out (.int .u8 4) (.string ka) (.string kb) (.int .i64 0) (.slice none 0 0))
  have BF := Lib.hid (show Below w.heap.size w (((((v1.setCell ⟨w.heap.size + 1, 0, none⟩ (.int .u8 4)).setCell ⟨w.heap.size + 1, 1, none⟩ (.string ka)).setCell ⟨w.heap.size + 1, 2, none⟩ (.string kb)).setCell ⟨w.heap.size + 1, 3, none⟩ (.int .i64 0)).setCell ⟨w.heap.size + 1, 4, none⟩ (.slice none 0 0)) from ((chg5 v1 (w.heap.size + 1) (.int .u8 4) (.string ka) (.string kb) (.int .i64 0) (.slice none 0 0)).below (lo := w.heap.size) (fun x e => by omega) (B1.out.size)) |> fun q => B1.out.trans q)
  obtain ⟨WF, hWF⟩ : ∃ WF, WF = (((((v1.setCell ⟨w.heap.size + 1, 0, none⟩ (.int .u8 4)).setCell ⟨w.heap.size + 1, 1, none⟩ (.string ka)).setCell ⟨w.heap.size + 1, 2, none⟩ (.string kb)).setCell ⟨w.heap.size + 1, 3, none⟩ (.int .i64 0)).setCell ⟨w.heap.size + 1, 4, none⟩ (.slice none 0 0)) := ⟨_, rfl⟩
  rw [← hWF] at ZF BF ⊢
  clear hWF
  obtain ⟨k0, k1, k2, k3, k4⟩ := cells5 ZF.out
  refine bodyPost_ret (v := .agg #[.int .u8 4, .string ka, .string kb, .int .i64 0, .slice none 0 0]) (by simp [results, Tryz.results64, go_sem, k0, k1, k2, k3, k4]) rfl ⟨rfl, BF.out⟩
set_option maxHeartbeats 1000000 in
set_option maxRecDepth 100000 in
theorem ropn_b0 {B g b : Nat} {t : ByteArray} {ln : Int} {ws : List ByteArray} {w : World} (hr : RB w g t ln) (hb : GB B w) (hA : ES.Rd w (some ⟨b, 0, none⟩) ws) (hs : ∀ i, (wdA ws i).size ≤ 1000000) (hi : isB ws ⟨#[111, 112, 101, 110]⟩ 2 = true) (hq0 : txtB (wdA ws 1) = none) :
    Calls Tryz.prog 64 #[.pointer (some ⟨g, 0, none⟩), .slice (some ⟨b, 0, none⟩) 3 3] w (RN none ln w) := by
  have hn : ws.length = 3 := (isB_true hi).2
  have hz0 := hs 1
  have hbl := rd_lt hA (by omega)
  have hgl := hr.lt
  have hBw := hb.le
  obtain ⟨W0, hW0⟩ : ∃ W0, W0 = (w.alloc (.cells #[.slice (some ⟨b, 0, none⟩) 3 3] 83)).alloc (.cells #[.int .u8 0, .string ⟨#[]⟩, .string ⟨#[]⟩, .int .i64 0, .slice none 0 0] 47) := ⟨_, rfl⟩
  have HB0 := Lib.hid (show Below w.heap.size w W0 by rw [hW0]; exact bel_alloc (alb w _) _)
  have ZB := Lib.hid (show W0.heap[w.heap.size]? = some (.cells #[.slice (some ⟨b, 0, none⟩) 3 3] 83) by rw [hW0]; exact keep_bel (alb _ _) (heap_alloc_new w _))
  have ZR := Lib.hid (show W0.heap[w.heap.size + 1]? = some (.cells #[.int .u8 0, .string ⟨#[]⟩, .string ⟨#[]⟩, .int .i64 0, .slice none 0 0] 47) by rw [hW0]; have := heap_alloc_new (w.alloc (.cells #[.slice (some ⟨b, 0, none⟩) 3 3] 83)) (.cells #[.int .u8 0, .string ⟨#[]⟩, .string ⟨#[]⟩, .int .i64 0, .slice none 0 0] 47); simpa using this)
  have HRC := Lib.hid (fun V (h : Chg (fun x => x = w.heap.size + 1) W0 V) => (show RB V g t ln from h.keep (hr.later HB0.out) (by omega)))
  have HGC := Lib.hid (fun V (h : Chg (fun x => x = w.heap.size + 1) W0 V) => (hb.later HB0.out).chg h (by omega))
  have HA0 := Lib.hid (hA.later HB0.out)
  have IS0 := Lib.hid (is76 ⟨#[103, 101, 116]⟩ 1 1 rfl w.heap.size b 3 ws W0 (by omega) hn (by omega) (by omega) (cellh ZB.out rfl) HA0.out)
  rw [isB_other hi (by decide)] at IS0
  have IS1 := Lib.hid (is76 ⟨#[108, 111, 111, 107]⟩ 3 3 rfl w.heap.size b 3 ws W0 (by omega) hn (by omega) (by omega) (cellh ZB.out rfl) HA0.out)
  rw [isB_other hi (by decide)] at IS1
  have IS2 := Lib.hid (is76 ⟨#[111, 112, 101, 110]⟩ 2 2 rfl w.heap.size b 3 ws W0 (by omega) hn (by omega) (by omega) (cellh ZB.out rfl) HA0.out)
  rw [hi] at IS2
  have CF0 := Lib.hid (fun V (h : Chg (fun x => x = w.heap.size + 1) W0 V) => rtext_bad (HRC.out V h) (HGC.out V h) hz0 hq0)
  have hw0 := wd_cell HA0.out (i := 1) (by omega)
  obtain ⟨x0, hx0⟩ : ∃ x, wdA ws 1 = x := ⟨_, rfl⟩
  rw [hx0] at hw0
  rw [hx0] at CF0
  have hw1 := wd_cell HA0.out (i := 2) (by omega)
  obtain ⟨x1, hx1⟩ : ∃ x, wdA ws 2 = x := ⟨_, rfl⟩
  rw [hx1] at hw1
  have hbx : W0.cell? ⟨w.heap.size, 0, none⟩ = some (.slice (some ⟨b, 0, none⟩) 3 3) := cellh ZB.out rfl
  have HBX := Lib.hid hbx
  have HW0 := Lib.hid hw0
  have HW1 := Lib.hid hw1
  have HNB := Lib.hid (show ¬ w.heap.size = w.heap.size + 1 by omega)
  have HNE := Lib.hid (show ¬ b = w.heap.size + 1 by omega)
  clear hr hb hA hs hi hn hbl hgl hBw hz0 hq0 hx0 hx1
  go_enter Tryz.func64, Tryz.ntmps64
  go_upto_region 2 with fail
  rw [← hW0]
  clear hW0
  go_upto_region 7 with (first
    | (go_at_call 76; ((with_reducible refine IS0.out.mono ?_); rintro e w0 ⟨rfl, rfl⟩))
    | (go_at_call 76; ((with_reducible refine IS1.out.mono ?_); rintro e w0 ⟨rfl, rfl⟩))
    | (go_at_call 76; ((with_reducible refine IS2.out.mono ?_); rintro e w0 ⟨rfl, rfl⟩))
    | fail)
  refine wp_region_held_drew (S := (fun V : World => Chg (fun x => x = w.heap.size + 1) W0 V)) (by kernel_rfl) ?_ (fun hHeld => ?_)
  · exact (Chg.refl _ W0).drew
  have HHeld := Lib.hid hHeld; clear hHeld
  refine wT (i := 0) (oi := { dst := some 38, op := Op.move (Operand.tmp 0), type := 77, pos := "parse.go:114", after := #[], guard := none }) (v := ?_) rfl (Or.inl ⟨by rfl, ?_⟩) HHeld.out ?_
  rotate_left
  · intro w hSw; clear hSw; go_simp; try with_reducible rfl
  try simp only [pu, pn, s1, s2, s3]
  refine wT (i := 1) (oi := { dst := some 39, op := Op.load 83 (Operand.tmp 3), type := 83, pos := "parse.go:114", after := #[], guard := none }) (v := (.slice (some ⟨b, 0, none⟩) 3 3 : Value)) rfl (Or.inl ⟨by rfl, ?_⟩) HHeld.out ?_
  · intro V hV; have hc0 := hV.cell HBX.out HNB.out; clear hV; go_simp
  try simp only [pu, pn, s1, s2, s3]
  refine wT (i := 2) (oi := { dst := some 40, op := Op.indexAddr 83 (Operand.tmp 39) (Operand.const (Value.int IntKind.i64 1)), type := 0, pos := "parse.go:114", after := #[{ on := 1, ground := Ground.data }], guard := none }) (v := ?_) rfl (Or.inl ⟨by rfl, ?_⟩) HHeld.out ?_
  rotate_left
  · intro w hSw; clear hSw; go_simp; try with_reducible rfl
  try simp only [pu, pn, s1, s2, s3]
  refine wT (i := 3) (oi := { dst := some 41, op := Op.load 9 (Operand.tmp 40), type := 9, pos := "parse.go:114", after := #[{ on := 2, ground := Ground.data }], guard := none }) (v := (.string x0 : Value)) rfl (Or.inl ⟨by rfl, ?_⟩) HHeld.out ?_
  · intro V hV; have hc0 := hV.cell HW0.out HNE.out; clear hV; go_simp
  try simp only [pu, pn, s1, s2, s3]
  refine wT (i := 5) (oi := { dst := some 43, op := Op.move (Operand.tmp 0), type := 77, pos := "parse.go:114", after := #[], guard := none }) (v := ?_) rfl (Or.inl ⟨by rfl, ?_⟩) HHeld.out ?_
  rotate_left
  · intro w hSw; clear hSw; go_simp; try with_reducible rfl
  try simp only [pu, pn, s1, s2, s3]
  refine wT (i := 6) (oi := { dst := some 44, op := Op.load 83 (Operand.tmp 3), type := 83, pos := "parse.go:114", after := #[], guard := none }) (v := (.slice (some ⟨b, 0, none⟩) 3 3 : Value)) rfl (Or.inl ⟨by rfl, ?_⟩) HHeld.out ?_
  · intro V hV; have hc0 := hV.cell HBX.out HNB.out; clear hV; go_simp
  try simp only [pu, pn, s1, s2, s3]
  refine wT (i := 7) (oi := { dst := some 45, op := Op.indexAddr 83 (Operand.tmp 44) (Operand.const (Value.int IntKind.i64 2)), type := 0, pos := "parse.go:114", after := #[{ on := 6, ground := Ground.data }], guard := none }) (v := ?_) rfl (Or.inl ⟨by rfl, ?_⟩) HHeld.out ?_
  rotate_left
  · intro w hSw; clear hSw; go_simp; try with_reducible rfl
  try simp only [pu, pn, s1, s2, s3]
  refine wT (i := 8) (oi := { dst := some 46, op := Op.load 9 (Operand.tmp 45), type := 9, pos := "parse.go:114", after := #[{ on := 7, ground := Ground.data }], guard := none }) (v := (.string x1 : Value)) rfl (Or.inl ⟨by rfl, ?_⟩) HHeld.out ?_
  · intro V hV; have hc0 := hV.cell HW1.out HNE.out; clear hV; go_simp
  try simp only [pu, pn, s1, s2, s3]
  refine wpAnyH_ready (rs := [4]) (by kernel_rfl) (by simp) ?_
  refine AllReadyH.cons (o := { dst := some 42, op := Op.call { callee := Callee.value (Operand.func 77), args := #[Operand.tmp 38, Operand.tmp 41], argTypes := #[77, 9] }, type := 9, pos := "parse.go:114", after := #[{ on := 0, ground := Ground.data }, { on := 3, ground := Ground.data }], guard := none }) rfl (fun K hK => ?_) AllReadyH.nil
  go_simp
  go_at_call 77; ((with_reducible refine (CF0.out _ HHeld.out).mono ?_); rintro e v0 ⟨rfl, bb⟩)
  exact ⟨rfl, rfl, bel_trans HB0.out (bel_dr bb)⟩
set_option maxHeartbeats 1000000 in
set_option maxRecDepth 100000 in
theorem ropn_b1 {B g b : Nat} {t : ByteArray} {ln : Int} {ws : List ByteArray} {w : World} (hr : RB w g t ln) (hb : GB B w) (hA : ES.Rd w (some ⟨b, 0, none⟩) ws) (hs : ∀ i, (wdA ws i).size ≤ 1000000) (hi : isB ws ⟨#[111, 112, 101, 110]⟩ 2 = true) (ka : ByteArray) (hq0 : txtB (wdA ws 1) = some ka) (hq1 : txtB (wdA ws 2) = none) :
    Calls Tryz.prog 64 #[.pointer (some ⟨g, 0, none⟩), .slice (some ⟨b, 0, none⟩) 3 3] w (RN none ln w) := by
  have hn : ws.length = 3 := (isB_true hi).2
  have hz0 := hs 1
  have hz1 := hs 2
  have hbl := rd_lt hA (by omega)
  have hgl := hr.lt
  have hBw := hb.le
  obtain ⟨W0, hW0⟩ : ∃ W0, W0 = (w.alloc (.cells #[.slice (some ⟨b, 0, none⟩) 3 3] 83)).alloc (.cells #[.int .u8 0, .string ⟨#[]⟩, .string ⟨#[]⟩, .int .i64 0, .slice none 0 0] 47) := ⟨_, rfl⟩
  have HB0 := Lib.hid (show Below w.heap.size w W0 by rw [hW0]; exact bel_alloc (alb w _) _)
  have ZB := Lib.hid (show W0.heap[w.heap.size]? = some (.cells #[.slice (some ⟨b, 0, none⟩) 3 3] 83) by rw [hW0]; exact keep_bel (alb _ _) (heap_alloc_new w _))
  have ZR := Lib.hid (show W0.heap[w.heap.size + 1]? = some (.cells #[.int .u8 0, .string ⟨#[]⟩, .string ⟨#[]⟩, .int .i64 0, .slice none 0 0] 47) by rw [hW0]; have := heap_alloc_new (w.alloc (.cells #[.slice (some ⟨b, 0, none⟩) 3 3] 83)) (.cells #[.int .u8 0, .string ⟨#[]⟩, .string ⟨#[]⟩, .int .i64 0, .slice none 0 0] 47); simpa using this)
  have HRC := Lib.hid (fun V (h : Chg (fun x => x = w.heap.size + 1) W0 V) => (show RB V g t ln from h.keep (hr.later HB0.out) (by omega)))
  have HGC := Lib.hid (fun V (h : Chg (fun x => x = w.heap.size + 1) W0 V) => (hb.later HB0.out).chg h (by omega))
  have HA0 := Lib.hid (hA.later HB0.out)
  have IS0 := Lib.hid (is76 ⟨#[103, 101, 116]⟩ 1 1 rfl w.heap.size b 3 ws W0 (by omega) hn (by omega) (by omega) (cellh ZB.out rfl) HA0.out)
  rw [isB_other hi (by decide)] at IS0
  have IS1 := Lib.hid (is76 ⟨#[108, 111, 111, 107]⟩ 3 3 rfl w.heap.size b 3 ws W0 (by omega) hn (by omega) (by omega) (cellh ZB.out rfl) HA0.out)
  rw [isB_other hi (by decide)] at IS1
  have IS2 := Lib.hid (is76 ⟨#[111, 112, 101, 110]⟩ 2 2 rfl w.heap.size b 3 ws W0 (by omega) hn (by omega) (by omega) (cellh ZB.out rfl) HA0.out)
  rw [hi] at IS2
  have CF0 := Lib.hid (fun V (h : Chg (fun x => x = w.heap.size + 1) W0 V) => rtext_ok (HRC.out V h) (HGC.out V h) hz0 hq0)
  have CF1 := Lib.hid (fun V (h : Chg (fun x => x = w.heap.size + 1) W0 V) => rtext_bad (HRC.out V h) (HGC.out V h) hz1 hq1)
  have hw0 := wd_cell HA0.out (i := 1) (by omega)
  obtain ⟨x0, hx0⟩ : ∃ x, wdA ws 1 = x := ⟨_, rfl⟩
  rw [hx0] at hw0
  rw [hx0] at CF0
  have hw1 := wd_cell HA0.out (i := 2) (by omega)
  obtain ⟨x1, hx1⟩ : ∃ x, wdA ws 2 = x := ⟨_, rfl⟩
  rw [hx1] at hw1
  rw [hx1] at CF1
  have hbx : W0.cell? ⟨w.heap.size, 0, none⟩ = some (.slice (some ⟨b, 0, none⟩) 3 3) := cellh ZB.out rfl
  have HBX := Lib.hid hbx
  have HW0 := Lib.hid hw0
  have HW1 := Lib.hid hw1
  have HNB := Lib.hid (show ¬ w.heap.size = w.heap.size + 1 by omega)
  have HNE := Lib.hid (show ¬ b = w.heap.size + 1 by omega)
  clear hr hb hA hs hi hn hbl hgl hBw hz0 hq0 hz1 hq1 hx0 hx1
  go_enter Tryz.func64, Tryz.ntmps64
  go_upto_region 2 with fail
  rw [← hW0]
  clear hW0
  go_upto_region 7 with (first
    | (go_at_call 76; ((with_reducible refine IS0.out.mono ?_); rintro e w0 ⟨rfl, rfl⟩))
    | (go_at_call 76; ((with_reducible refine IS1.out.mono ?_); rintro e w0 ⟨rfl, rfl⟩))
    | (go_at_call 76; ((with_reducible refine IS2.out.mono ?_); rintro e w0 ⟨rfl, rfl⟩))
    | fail)
  refine wp_region_held_drew (S := (fun V : World => Chg (fun x => x = w.heap.size + 1) W0 V)) (by kernel_rfl) ?_ (fun hHeld => ?_)
  · exact (Chg.refl _ W0).drew
  have HHeld := Lib.hid hHeld; clear hHeld
  refine wT (i := 0) (oi := { dst := some 38, op := Op.move (Operand.tmp 0), type := 77, pos := "parse.go:114", after := #[], guard := none }) (v := ?_) rfl (Or.inl ⟨by rfl, ?_⟩) HHeld.out ?_
  rotate_left
  · intro w hSw; clear hSw; go_simp; try with_reducible rfl
  try simp only [pu, pn, s1, s2, s3]
  refine wT (i := 1) (oi := { dst := some 39, op := Op.load 83 (Operand.tmp 3), type := 83, pos := "parse.go:114", after := #[], guard := none }) (v := (.slice (some ⟨b, 0, none⟩) 3 3 : Value)) rfl (Or.inl ⟨by rfl, ?_⟩) HHeld.out ?_
  · intro V hV; have hc0 := hV.cell HBX.out HNB.out; clear hV; go_simp
  try simp only [pu, pn, s1, s2, s3]
  refine wT (i := 2) (oi := { dst := some 40, op := Op.indexAddr 83 (Operand.tmp 39) (Operand.const (Value.int IntKind.i64 1)), type := 0, pos := "parse.go:114", after := #[{ on := 1, ground := Ground.data }], guard := none }) (v := ?_) rfl (Or.inl ⟨by rfl, ?_⟩) HHeld.out ?_
  rotate_left
  · intro w hSw; clear hSw; go_simp; try with_reducible rfl
  try simp only [pu, pn, s1, s2, s3]
  refine wT (i := 3) (oi := { dst := some 41, op := Op.load 9 (Operand.tmp 40), type := 9, pos := "parse.go:114", after := #[{ on := 2, ground := Ground.data }], guard := none }) (v := (.string x0 : Value)) rfl (Or.inl ⟨by rfl, ?_⟩) HHeld.out ?_
  · intro V hV; have hc0 := hV.cell HW0.out HNE.out; clear hV; go_simp
  try simp only [pu, pn, s1, s2, s3]
  refine wT (i := 5) (oi := { dst := some 43, op := Op.move (Operand.tmp 0), type := 77, pos := "parse.go:114", after := #[], guard := none }) (v := ?_) rfl (Or.inl ⟨by rfl, ?_⟩) HHeld.out ?_
  rotate_left
  · intro w hSw; clear hSw; go_simp; try with_reducible rfl
  try simp only [pu, pn, s1, s2, s3]
  refine wT (i := 6) (oi := { dst := some 44, op := Op.load 83 (Operand.tmp 3), type := 83, pos := "parse.go:114", after := #[], guard := none }) (v := (.slice (some ⟨b, 0, none⟩) 3 3 : Value)) rfl (Or.inl ⟨by rfl, ?_⟩) HHeld.out ?_
  · intro V hV; have hc0 := hV.cell HBX.out HNB.out; clear hV; go_simp
  try simp only [pu, pn, s1, s2, s3]
  refine wT (i := 7) (oi := { dst := some 45, op := Op.indexAddr 83 (Operand.tmp 44) (Operand.const (Value.int IntKind.i64 2)), type := 0, pos := "parse.go:114", after := #[{ on := 6, ground := Ground.data }], guard := none }) (v := ?_) rfl (Or.inl ⟨by rfl, ?_⟩) HHeld.out ?_
  rotate_left
  · intro w hSw; clear hSw; go_simp; try with_reducible rfl
  try simp only [pu, pn, s1, s2, s3]
  refine wT (i := 8) (oi := { dst := some 46, op := Op.load 9 (Operand.tmp 45), type := 9, pos := "parse.go:114", after := #[{ on := 7, ground := Ground.data }], guard := none }) (v := (.string x1 : Value)) rfl (Or.inl ⟨by rfl, ?_⟩) HHeld.out ?_
  · intro V hV; have hc0 := hV.cell HW1.out HNE.out; clear hV; go_simp
  try simp only [pu, pn, s1, s2, s3]
  refine wpAnyH_ready (rs := [4]) (by kernel_rfl) (by simp) ?_
  refine AllReadyH.cons (o := { dst := some 42, op := Op.call { callee := Callee.value (Operand.func 77), args := #[Operand.tmp 38, Operand.tmp 41], argTypes := #[77, 9] }, type := 9, pos := "parse.go:114", after := #[{ on := 0, ground := Ground.data }, { on := 3, ground := Ground.data }], guard := none }) rfl (fun K hK => ?_) AllReadyH.nil
  go_simp
  go_at_call 77; ((with_reducible refine (CF0.out _ HHeld.out).mono ?_); rintro e v0 ⟨rfl, bb⟩; have B0 := Lib.hid (bel_trans HB0.out (bel_dr bb)); have C0 := Lib.hid (HHeld.out.later bb); have Z0 := Lib.hid (keep_bel (bel_dr bb) ZR.out); clear bb)
  refine hK.out _ _ ?_ (fun hHeld => ?_)
  · exact C0.out
  clear HHeld; have HHeld := Lib.hid hHeld; clear hHeld
  clear hK K
  try simp only [pu, pn, s1, s2, s3]
  refine wpAnyH_ready (rs := [9]) (by kernel_rfl) (by simp) ?_
  refine AllReadyH.cons (o := { dst := some 47, op := Op.call { callee := Callee.value (Operand.func 77), args := #[Operand.tmp 43, Operand.tmp 46], argTypes := #[77, 9] }, type := 9, pos := "parse.go:114", after := #[{ on := 5, ground := Ground.data }, { on := 8, ground := Ground.data }, { on := 4, ground := Ground.chain }], guard := none }) rfl (fun K hK => ?_) AllReadyH.nil
  go_simp
  go_at_call 77; ((with_reducible refine (CF1.out _ HHeld.out).mono ?_); rintro e v1 ⟨rfl, bb⟩)
  exact ⟨rfl, rfl, bel_trans B0.out bb⟩
set_option maxHeartbeats 1000000 in
set_option maxRecDepth 100000 in
theorem rnxt_ok {B g b : Nat} {t : ByteArray} {ln : Int} {ws : List ByteArray} {w : World} (hr : RB w g t ln) (hb : GB B w) (hA : ES.Rd w (some ⟨b, 0, none⟩) ws) (hs : ∀ i, (wdA ws i).size ≤ 1000000) (hi : isB ws ⟨#[110, 101, 120, 116]⟩ 1 = true) (ka : Int) (hq0 : numB (wdA ws 1) = some ka) :
    Calls Tryz.prog 64 #[.pointer (some ⟨g, 0, none⟩), .slice (some ⟨b, 0, none⟩) 2 2] w (RN (some (.agg #[.int .u8 5, .string ⟨#[]⟩, .string ⟨#[]⟩, .int .i64 ka, .slice none 0 0])) ln w) := by
  have hn : ws.length = 2 := (isB_true hi).2
  have hz0 := hs 1
  have hbl := rd_lt hA (by omega)
  have hgl := hr.lt
  have hBw := hb.le
  obtain ⟨W0, hW0⟩ : ∃ W0, W0 = (w.alloc (.cells #[.slice (some ⟨b, 0, none⟩) 2 2] 83)).alloc (.cells #[.int .u8 0, .string ⟨#[]⟩, .string ⟨#[]⟩, .int .i64 0, .slice none 0 0] 47) := ⟨_, rfl⟩
  have HB0 := Lib.hid (show Below w.heap.size w W0 by rw [hW0]; exact bel_alloc (alb w _) _)
  have ZB := Lib.hid (show W0.heap[w.heap.size]? = some (.cells #[.slice (some ⟨b, 0, none⟩) 2 2] 83) by rw [hW0]; exact keep_bel (alb _ _) (heap_alloc_new w _))
  have ZR := Lib.hid (show W0.heap[w.heap.size + 1]? = some (.cells #[.int .u8 0, .string ⟨#[]⟩, .string ⟨#[]⟩, .int .i64 0, .slice none 0 0] 47) by rw [hW0]; have := heap_alloc_new (w.alloc (.cells #[.slice (some ⟨b, 0, none⟩) 2 2] 83)) (.cells #[.int .u8 0, .string ⟨#[]⟩, .string ⟨#[]⟩, .int .i64 0, .slice none 0 0] 47); simpa using this)
  have HRC := Lib.hid (fun V (h : Chg (fun x => x = w.heap.size + 1) W0 V) => (show RB V g t ln from h.keep (hr.later HB0.out) (by omega)))
  have HGC := Lib.hid (fun V (h : Chg (fun x => x = w.heap.size + 1) W0 V) => (hb.later HB0.out).chg h (by omega))
  have HA0 := Lib.hid (hA.later HB0.out)
  have IS0 := Lib.hid (is76 ⟨#[103, 101, 116]⟩ 1 1 rfl w.heap.size b 2 ws W0 (by omega) hn (by omega) (by omega) (cellh ZB.out rfl) HA0.out)
  rw [isB_other hi (by decide)] at IS0
  have IS1 := Lib.hid (is76 ⟨#[108, 111, 111, 107]⟩ 3 3 rfl w.heap.size b 2 ws W0 (by omega) hn (by omega) (by omega) (cellh ZB.out rfl) HA0.out)
  rw [isB_other hi (by decide)] at IS1
  have IS2 := Lib.hid (is76 ⟨#[111, 112, 101, 110]⟩ 2 2 rfl w.heap.size b 2 ws W0 (by omega) hn (by omega) (by omega) (cellh ZB.out rfl) HA0.out)
  rw [isB_other hi (by decide)] at IS2
  have IS3 := Lib.hid (is76 ⟨#[110, 101, 120, 116]⟩ 1 1 rfl w.heap.size b 2 ws W0 (by omega) hn (by omega) (by omega) (cellh ZB.out rfl) HA0.out)
  rw [hi] at IS3
  have CF0 := Lib.hid (fun V (h : Chg (fun x => x = w.heap.size + 1) W0 V) => rnumber_ok (HRC.out V h) (HGC.out V h) (Nat.le_trans hz0 (by omega)) hq0)
  have hw0 := wd_cell HA0.out (i := 1) (by omega)
  obtain ⟨x0, hx0⟩ : ∃ x, wdA ws 1 = x := ⟨_, rfl⟩
  rw [hx0] at hw0
  rw [hx0] at CF0
  have hbx : W0.cell? ⟨w.heap.size, 0, none⟩ = some (.slice (some ⟨b, 0, none⟩) 2 2) := cellh ZB.out rfl
  have HBX := Lib.hid hbx
  have HW0 := Lib.hid hw0
  have HNB := Lib.hid (show ¬ w.heap.size = w.heap.size + 1 by omega)
  have HNE := Lib.hid (show ¬ b = w.heap.size + 1 by omega)
  clear hr hb hA hs hi hn hbl hgl hBw hz0 hq0 hx0
  go_enter Tryz.func64, Tryz.ntmps64
  go_upto_region 2 with fail
  rw [← hW0]
  clear hW0
  go_wp2_with (first
    | (go_at_call 76; ((with_reducible refine IS0.out.mono ?_); rintro e w0 ⟨rfl, rfl⟩))
    | (go_at_call 76; ((with_reducible refine IS1.out.mono ?_); rintro e w0 ⟨rfl, rfl⟩))
    | (go_at_call 76; ((with_reducible refine IS2.out.mono ?_); rintro e w0 ⟨rfl, rfl⟩))
    | (go_at_call 76; ((with_reducible refine IS3.out.mono ?_); rintro e w0 ⟨rfl, rfl⟩))
    | (go_at_call 75; ((with_reducible refine (CF0.out _ (Chg.refl (fun x => x = w.heap.size + 1) W0)).mono ?_); rintro e v0 ⟨rfl, bb⟩; have B0 := Lib.hid (bel_trans HB0.out bb); have C0 := Lib.hid ((Chg.refl (fun x => x = w.heap.size + 1) W0).later bb); have Z0 := Lib.hid (keep_bel bb ZR.out); have hb0 := (C0.out.cell HBX.out HNB.out); have hv0 := (C0.out.cell HW0.out HNE.out); obtain ⟨c0, c1, c2, c3, c4⟩ := cells5 Z0.out; obtain ⟨f0, f1, f2, f3, f4⟩ := froz5 Z0.out; clear bb))
    | fail)
  try go_wp2
  have ZF := Lib.hid (set5w Z0.out (.int .u8 5) (.string ⟨#[]⟩) (.string ⟨#[]⟩) (.int .i64 ka) (.slice none 0 0))
  have BF := Lib.hid (show Below w.heap.size w (((((v0.setCell ⟨w.heap.size + 1, 0, none⟩ (.int .u8 5)).setCell ⟨w.heap.size + 1, 1, none⟩ (.string ⟨#[]⟩)).setCell ⟨w.heap.size + 1, 2, none⟩ (.string ⟨#[]⟩)).setCell ⟨w.heap.size + 1, 3, none⟩ (.int .i64 ka)).setCell ⟨w.heap.size + 1, 4, none⟩ (.slice none 0 0)) from ((chg5 v0 (w.heap.size + 1) (.int .u8 5) (.string ⟨#[]⟩) (.string ⟨#[]⟩) (.int .i64 ka) (.slice none 0 0)).below (lo := w.heap.size) (fun x e => by omega) (B0.out.size)) |> fun q => B0.out.trans q)
  obtain ⟨WF, hWF⟩ : ∃ WF, WF = (((((v0.setCell ⟨w.heap.size + 1, 0, none⟩ (.int .u8 5)).setCell ⟨w.heap.size + 1, 1, none⟩ (.string ⟨#[]⟩)).setCell ⟨w.heap.size + 1, 2, none⟩ (.string ⟨#[]⟩)).setCell ⟨w.heap.size + 1, 3, none⟩ (.int .i64 ka)).setCell ⟨w.heap.size + 1, 4, none⟩ (.slice none 0 0)) := ⟨_, rfl⟩
  rw [← hWF] at ZF BF ⊢
  clear hWF
  obtain ⟨k0, k1, k2, k3, k4⟩ := cells5 ZF.out
  refine bodyPost_ret (v := .agg #[.int .u8 5, .string ⟨#[]⟩, .string ⟨#[]⟩, .int .i64 ka, .slice none 0 0]) (by simp [results, Tryz.results64, go_sem, k0, k1, k2, k3, k4]) rfl ⟨rfl, BF.out⟩
set_option maxHeartbeats 1000000 in
set_option maxRecDepth 100000 in
theorem rnxt_b0 {B g b : Nat} {t : ByteArray} {ln : Int} {ws : List ByteArray} {w : World} (hr : RB w g t ln) (hb : GB B w) (hA : ES.Rd w (some ⟨b, 0, none⟩) ws) (hs : ∀ i, (wdA ws i).size ≤ 1000000) (hi : isB ws ⟨#[110, 101, 120, 116]⟩ 1 = true) (hq0 : numB (wdA ws 1) = none) :
    Calls Tryz.prog 64 #[.pointer (some ⟨g, 0, none⟩), .slice (some ⟨b, 0, none⟩) 2 2] w (RN none ln w) := by
  have hn : ws.length = 2 := (isB_true hi).2
  have hz0 := hs 1
  have hbl := rd_lt hA (by omega)
  have hgl := hr.lt
  have hBw := hb.le
  obtain ⟨W0, hW0⟩ : ∃ W0, W0 = (w.alloc (.cells #[.slice (some ⟨b, 0, none⟩) 2 2] 83)).alloc (.cells #[.int .u8 0, .string ⟨#[]⟩, .string ⟨#[]⟩, .int .i64 0, .slice none 0 0] 47) := ⟨_, rfl⟩
  have HB0 := Lib.hid (show Below w.heap.size w W0 by rw [hW0]; exact bel_alloc (alb w _) _)
  have ZB := Lib.hid (show W0.heap[w.heap.size]? = some (.cells #[.slice (some ⟨b, 0, none⟩) 2 2] 83) by rw [hW0]; exact keep_bel (alb _ _) (heap_alloc_new w _))
  have ZR := Lib.hid (show W0.heap[w.heap.size + 1]? = some (.cells #[.int .u8 0, .string ⟨#[]⟩, .string ⟨#[]⟩, .int .i64 0, .slice none 0 0] 47) by rw [hW0]; have := heap_alloc_new (w.alloc (.cells #[.slice (some ⟨b, 0, none⟩) 2 2] 83)) (.cells #[.int .u8 0, .string ⟨#[]⟩, .string ⟨#[]⟩, .int .i64 0, .slice none 0 0] 47); simpa using this)
  have HRC := Lib.hid (fun V (h : Chg (fun x => x = w.heap.size + 1) W0 V) => (show RB V g t ln from h.keep (hr.later HB0.out) (by omega)))
  have HGC := Lib.hid (fun V (h : Chg (fun x => x = w.heap.size + 1) W0 V) => (hb.later HB0.out).chg h (by omega))
  have HA0 := Lib.hid (hA.later HB0.out)
  have IS0 := Lib.hid (is76 ⟨#[103, 101, 116]⟩ 1 1 rfl w.heap.size b 2 ws W0 (by omega) hn (by omega) (by omega) (cellh ZB.out rfl) HA0.out)
  rw [isB_other hi (by decide)] at IS0
  have IS1 := Lib.hid (is76 ⟨#[108, 111, 111, 107]⟩ 3 3 rfl w.heap.size b 2 ws W0 (by omega) hn (by omega) (by omega) (cellh ZB.out rfl) HA0.out)
  rw [isB_other hi (by decide)] at IS1
  have IS2 := Lib.hid (is76 ⟨#[111, 112, 101, 110]⟩ 2 2 rfl w.heap.size b 2 ws W0 (by omega) hn (by omega) (by omega) (cellh ZB.out rfl) HA0.out)
  rw [isB_other hi (by decide)] at IS2
  have IS3 := Lib.hid (is76 ⟨#[110, 101, 120, 116]⟩ 1 1 rfl w.heap.size b 2 ws W0 (by omega) hn (by omega) (by omega) (cellh ZB.out rfl) HA0.out)
  rw [hi] at IS3
  have CF0 := Lib.hid (fun V (h : Chg (fun x => x = w.heap.size + 1) W0 V) => rnumber_bad (HRC.out V h) (HGC.out V h) (Nat.le_trans hz0 (by omega)) hq0)
  have hw0 := wd_cell HA0.out (i := 1) (by omega)
  obtain ⟨x0, hx0⟩ : ∃ x, wdA ws 1 = x := ⟨_, rfl⟩
  rw [hx0] at hw0
  rw [hx0] at CF0
  have hbx : W0.cell? ⟨w.heap.size, 0, none⟩ = some (.slice (some ⟨b, 0, none⟩) 2 2) := cellh ZB.out rfl
  have HBX := Lib.hid hbx
  have HW0 := Lib.hid hw0
  have HNB := Lib.hid (show ¬ w.heap.size = w.heap.size + 1 by omega)
  have HNE := Lib.hid (show ¬ b = w.heap.size + 1 by omega)
  clear hr hb hA hs hi hn hbl hgl hBw hz0 hq0 hx0
  go_enter Tryz.func64, Tryz.ntmps64
  go_upto_region 2 with fail
  rw [← hW0]
  clear hW0
  go_wp2_with (first
    | (go_at_call 76; ((with_reducible refine IS0.out.mono ?_); rintro e w0 ⟨rfl, rfl⟩))
    | (go_at_call 76; ((with_reducible refine IS1.out.mono ?_); rintro e w0 ⟨rfl, rfl⟩))
    | (go_at_call 76; ((with_reducible refine IS2.out.mono ?_); rintro e w0 ⟨rfl, rfl⟩))
    | (go_at_call 76; ((with_reducible refine IS3.out.mono ?_); rintro e w0 ⟨rfl, rfl⟩))
    | (go_at_call 75; ((with_reducible refine (CF0.out _ (Chg.refl (fun x => x = w.heap.size + 1) W0)).mono ?_); rintro e v0 ⟨rfl, bb⟩; have B0 := Lib.hid (bel_trans HB0.out bb); clear bb))
    | fail)
  exact ⟨rfl, rfl, B0.out⟩
set_option maxHeartbeats 1000000 in
set_option maxRecDepth 100000 in
theorem rcls_ok {B g b : Nat} {t : ByteArray} {ln : Int} {ws : List ByteArray} {w : World} (hr : RB w g t ln) (hb : GB B w) (hA : ES.Rd w (some ⟨b, 0, none⟩) ws) (hs : ∀ i, (wdA ws i).size ≤ 1000000) (hi : isB ws ⟨#[99, 108, 111, 115, 101]⟩ 1 = true) (ka : Int) (hq0 : numB (wdA ws 1) = some ka) :
    Calls Tryz.prog 64 #[.pointer (some ⟨g, 0, none⟩), .slice (some ⟨b, 0, none⟩) 2 2] w (RN (some (.agg #[.int .u8 6, .string ⟨#[]⟩, .string ⟨#[]⟩, .int .i64 ka, .slice none 0 0])) ln w) := by
  have hn : ws.length = 2 := (isB_true hi).2
  have hz0 := hs 1
  have hbl := rd_lt hA (by omega)
  have hgl := hr.lt
  have hBw := hb.le
  obtain ⟨W0, hW0⟩ : ∃ W0, W0 = (w.alloc (.cells #[.slice (some ⟨b, 0, none⟩) 2 2] 83)).alloc (.cells #[.int .u8 0, .string ⟨#[]⟩, .string ⟨#[]⟩, .int .i64 0, .slice none 0 0] 47) := ⟨_, rfl⟩
  have HB0 := Lib.hid (show Below w.heap.size w W0 by rw [hW0]; exact bel_alloc (alb w _) _)
  have ZB := Lib.hid (show W0.heap[w.heap.size]? = some (.cells #[.slice (some ⟨b, 0, none⟩) 2 2] 83) by rw [hW0]; exact keep_bel (alb _ _) (heap_alloc_new w _))
  have ZR := Lib.hid (show W0.heap[w.heap.size + 1]? = some (.cells #[.int .u8 0, .string ⟨#[]⟩, .string ⟨#[]⟩, .int .i64 0, .slice none 0 0] 47) by rw [hW0]; have := heap_alloc_new (w.alloc (.cells #[.slice (some ⟨b, 0, none⟩) 2 2] 83)) (.cells #[.int .u8 0, .string ⟨#[]⟩, .string ⟨#[]⟩, .int .i64 0, .slice none 0 0] 47); simpa using this)
  have HRC := Lib.hid (fun V (h : Chg (fun x => x = w.heap.size + 1) W0 V) => (show RB V g t ln from h.keep (hr.later HB0.out) (by omega)))
  have HGC := Lib.hid (fun V (h : Chg (fun x => x = w.heap.size + 1) W0 V) => (hb.later HB0.out).chg h (by omega))
  have HA0 := Lib.hid (hA.later HB0.out)
  have IS0 := Lib.hid (is76 ⟨#[103, 101, 116]⟩ 1 1 rfl w.heap.size b 2 ws W0 (by omega) hn (by omega) (by omega) (cellh ZB.out rfl) HA0.out)
  rw [isB_other hi (by decide)] at IS0
  have IS1 := Lib.hid (is76 ⟨#[108, 111, 111, 107]⟩ 3 3 rfl w.heap.size b 2 ws W0 (by omega) hn (by omega) (by omega) (cellh ZB.out rfl) HA0.out)
  rw [isB_other hi (by decide)] at IS1
  have IS2 := Lib.hid (is76 ⟨#[111, 112, 101, 110]⟩ 2 2 rfl w.heap.size b 2 ws W0 (by omega) hn (by omega) (by omega) (cellh ZB.out rfl) HA0.out)
  rw [isB_other hi (by decide)] at IS2
  have IS3 := Lib.hid (is76 ⟨#[110, 101, 120, 116]⟩ 1 1 rfl w.heap.size b 2 ws W0 (by omega) hn (by omega) (by omega) (cellh ZB.out rfl) HA0.out)
  rw [isB_other hi (by decide)] at IS3
  have IS4 := Lib.hid (is76 ⟨#[99, 108, 111, 115, 101]⟩ 1 1 rfl w.heap.size b 2 ws W0 (by omega) hn (by omega) (by omega) (cellh ZB.out rfl) HA0.out)
  rw [hi] at IS4
  have CF0 := Lib.hid (fun V (h : Chg (fun x => x = w.heap.size + 1) W0 V) => rnumber_ok (HRC.out V h) (HGC.out V h) (Nat.le_trans hz0 (by omega)) hq0)
  have hw0 := wd_cell HA0.out (i := 1) (by omega)
  obtain ⟨x0, hx0⟩ : ∃ x, wdA ws 1 = x := ⟨_, rfl⟩
  rw [hx0] at hw0
  rw [hx0] at CF0
  have hbx : W0.cell? ⟨w.heap.size, 0, none⟩ = some (.slice (some ⟨b, 0, none⟩) 2 2) := cellh ZB.out rfl
  have HBX := Lib.hid hbx
  have HW0 := Lib.hid hw0
  have HNB := Lib.hid (show ¬ w.heap.size = w.heap.size + 1 by omega)
  have HNE := Lib.hid (show ¬ b = w.heap.size + 1 by omega)
  clear hr hb hA hs hi hn hbl hgl hBw hz0 hq0 hx0
  go_enter Tryz.func64, Tryz.ntmps64
  go_upto_region 2 with fail
  rw [← hW0]
  clear hW0
  go_wp2_with (first
    | (go_at_call 76; ((with_reducible refine IS0.out.mono ?_); rintro e w0 ⟨rfl, rfl⟩))
    | (go_at_call 76; ((with_reducible refine IS1.out.mono ?_); rintro e w0 ⟨rfl, rfl⟩))
    | (go_at_call 76; ((with_reducible refine IS2.out.mono ?_); rintro e w0 ⟨rfl, rfl⟩))
    | (go_at_call 76; ((with_reducible refine IS3.out.mono ?_); rintro e w0 ⟨rfl, rfl⟩))
    | (go_at_call 76; ((with_reducible refine IS4.out.mono ?_); rintro e w0 ⟨rfl, rfl⟩))
    | (go_at_call 75; ((with_reducible refine (CF0.out _ (Chg.refl (fun x => x = w.heap.size + 1) W0)).mono ?_); rintro e v0 ⟨rfl, bb⟩; have B0 := Lib.hid (bel_trans HB0.out bb); have C0 := Lib.hid ((Chg.refl (fun x => x = w.heap.size + 1) W0).later bb); have Z0 := Lib.hid (keep_bel bb ZR.out); have hb0 := (C0.out.cell HBX.out HNB.out); have hv0 := (C0.out.cell HW0.out HNE.out); obtain ⟨c0, c1, c2, c3, c4⟩ := cells5 Z0.out; obtain ⟨f0, f1, f2, f3, f4⟩ := froz5 Z0.out; clear bb))
    | fail)
  try go_wp2
  have ZF := Lib.hid (set5w Z0.out (.int .u8 6) (.string ⟨#[]⟩) (.string ⟨#[]⟩) (.int .i64 ka) (.slice none 0 0))
  have BF := Lib.hid (show Below w.heap.size w (((((v0.setCell ⟨w.heap.size + 1, 0, none⟩ (.int .u8 6)).setCell ⟨w.heap.size + 1, 1, none⟩ (.string ⟨#[]⟩)).setCell ⟨w.heap.size + 1, 2, none⟩ (.string ⟨#[]⟩)).setCell ⟨w.heap.size + 1, 3, none⟩ (.int .i64 ka)).setCell ⟨w.heap.size + 1, 4, none⟩ (.slice none 0 0)) from ((chg5 v0 (w.heap.size + 1) (.int .u8 6) (.string ⟨#[]⟩) (.string ⟨#[]⟩) (.int .i64 ka) (.slice none 0 0)).below (lo := w.heap.size) (fun x e => by omega) (B0.out.size)) |> fun q => B0.out.trans q)
  obtain ⟨WF, hWF⟩ : ∃ WF, WF = (((((v0.setCell ⟨w.heap.size + 1, 0, none⟩ (.int .u8 6)).setCell ⟨w.heap.size + 1, 1, none⟩ (.string ⟨#[]⟩)).setCell ⟨w.heap.size + 1, 2, none⟩ (.string ⟨#[]⟩)).setCell ⟨w.heap.size + 1, 3, none⟩ (.int .i64 ka)).setCell ⟨w.heap.size + 1, 4, none⟩ (.slice none 0 0)) := ⟨_, rfl⟩
  rw [← hWF] at ZF BF ⊢
  clear hWF
  obtain ⟨k0, k1, k2, k3, k4⟩ := cells5 ZF.out
  refine bodyPost_ret (v := .agg #[.int .u8 6, .string ⟨#[]⟩, .string ⟨#[]⟩, .int .i64 ka, .slice none 0 0]) (by simp [results, Tryz.results64, go_sem, k0, k1, k2, k3, k4]) rfl ⟨rfl, BF.out⟩
set_option maxHeartbeats 1000000 in
set_option maxRecDepth 100000 in
theorem rcls_b0 {B g b : Nat} {t : ByteArray} {ln : Int} {ws : List ByteArray} {w : World} (hr : RB w g t ln) (hb : GB B w) (hA : ES.Rd w (some ⟨b, 0, none⟩) ws) (hs : ∀ i, (wdA ws i).size ≤ 1000000) (hi : isB ws ⟨#[99, 108, 111, 115, 101]⟩ 1 = true) (hq0 : numB (wdA ws 1) = none) :
    Calls Tryz.prog 64 #[.pointer (some ⟨g, 0, none⟩), .slice (some ⟨b, 0, none⟩) 2 2] w (RN none ln w) := by
  have hn : ws.length = 2 := (isB_true hi).2
  have hz0 := hs 1
  have hbl := rd_lt hA (by omega)
  have hgl := hr.lt
  have hBw := hb.le
  obtain ⟨W0, hW0⟩ : ∃ W0, W0 = (w.alloc (.cells #[.slice (some ⟨b, 0, none⟩) 2 2] 83)).alloc (.cells #[.int .u8 0, .string ⟨#[]⟩, .string ⟨#[]⟩, .int .i64 0, .slice none 0 0] 47) := ⟨_, rfl⟩
  have HB0 := Lib.hid (show Below w.heap.size w W0 by rw [hW0]; exact bel_alloc (alb w _) _)
  have ZB := Lib.hid (show W0.heap[w.heap.size]? = some (.cells #[.slice (some ⟨b, 0, none⟩) 2 2] 83) by rw [hW0]; exact keep_bel (alb _ _) (heap_alloc_new w _))
  have ZR := Lib.hid (show W0.heap[w.heap.size + 1]? = some (.cells #[.int .u8 0, .string ⟨#[]⟩, .string ⟨#[]⟩, .int .i64 0, .slice none 0 0] 47) by rw [hW0]; have := heap_alloc_new (w.alloc (.cells #[.slice (some ⟨b, 0, none⟩) 2 2] 83)) (.cells #[.int .u8 0, .string ⟨#[]⟩, .string ⟨#[]⟩, .int .i64 0, .slice none 0 0] 47); simpa using this)
  have HRC := Lib.hid (fun V (h : Chg (fun x => x = w.heap.size + 1) W0 V) => (show RB V g t ln from h.keep (hr.later HB0.out) (by omega)))
  have HGC := Lib.hid (fun V (h : Chg (fun x => x = w.heap.size + 1) W0 V) => (hb.later HB0.out).chg h (by omega))
  have HA0 := Lib.hid (hA.later HB0.out)
  have IS0 := Lib.hid (is76 ⟨#[103, 101, 116]⟩ 1 1 rfl w.heap.size b 2 ws W0 (by omega) hn (by omega) (by omega) (cellh ZB.out rfl) HA0.out)
  rw [isB_other hi (by decide)] at IS0
  have IS1 := Lib.hid (is76 ⟨#[108, 111, 111, 107]⟩ 3 3 rfl w.heap.size b 2 ws W0 (by omega) hn (by omega) (by omega) (cellh ZB.out rfl) HA0.out)
  rw [isB_other hi (by decide)] at IS1
  have IS2 := Lib.hid (is76 ⟨#[111, 112, 101, 110]⟩ 2 2 rfl w.heap.size b 2 ws W0 (by omega) hn (by omega) (by omega) (cellh ZB.out rfl) HA0.out)
  rw [isB_other hi (by decide)] at IS2
  have IS3 := Lib.hid (is76 ⟨#[110, 101, 120, 116]⟩ 1 1 rfl w.heap.size b 2 ws W0 (by omega) hn (by omega) (by omega) (cellh ZB.out rfl) HA0.out)
  rw [isB_other hi (by decide)] at IS3
  have IS4 := Lib.hid (is76 ⟨#[99, 108, 111, 115, 101]⟩ 1 1 rfl w.heap.size b 2 ws W0 (by omega) hn (by omega) (by omega) (cellh ZB.out rfl) HA0.out)
  rw [hi] at IS4
  have CF0 := Lib.hid (fun V (h : Chg (fun x => x = w.heap.size + 1) W0 V) => rnumber_bad (HRC.out V h) (HGC.out V h) (Nat.le_trans hz0 (by omega)) hq0)
  have hw0 := wd_cell HA0.out (i := 1) (by omega)
  obtain ⟨x0, hx0⟩ : ∃ x, wdA ws 1 = x := ⟨_, rfl⟩
  rw [hx0] at hw0
  rw [hx0] at CF0
  have hbx : W0.cell? ⟨w.heap.size, 0, none⟩ = some (.slice (some ⟨b, 0, none⟩) 2 2) := cellh ZB.out rfl
  have HBX := Lib.hid hbx
  have HW0 := Lib.hid hw0
  have HNB := Lib.hid (show ¬ w.heap.size = w.heap.size + 1 by omega)
  have HNE := Lib.hid (show ¬ b = w.heap.size + 1 by omega)
  clear hr hb hA hs hi hn hbl hgl hBw hz0 hq0 hx0
  go_enter Tryz.func64, Tryz.ntmps64
  go_upto_region 2 with fail
  rw [← hW0]
  clear hW0
  go_wp2_with (first
    | (go_at_call 76; ((with_reducible refine IS0.out.mono ?_); rintro e w0 ⟨rfl, rfl⟩))
    | (go_at_call 76; ((with_reducible refine IS1.out.mono ?_); rintro e w0 ⟨rfl, rfl⟩))
    | (go_at_call 76; ((with_reducible refine IS2.out.mono ?_); rintro e w0 ⟨rfl, rfl⟩))
    | (go_at_call 76; ((with_reducible refine IS3.out.mono ?_); rintro e w0 ⟨rfl, rfl⟩))
    | (go_at_call 76; ((with_reducible refine IS4.out.mono ?_); rintro e w0 ⟨rfl, rfl⟩))
    | (go_at_call 75; ((with_reducible refine (CF0.out _ (Chg.refl (fun x => x = w.heap.size + 1) W0)).mono ?_); rintro e v0 ⟨rfl, bb⟩; have B0 := Lib.hid (bel_trans HB0.out bb); clear bb))
    | fail)
  exact ⟨rfl, rfl, B0.out⟩
set_option maxHeartbeats 1000000 in
set_option maxRecDepth 100000 in
theorem rop_none {B g b : Nat} {t : ByteArray} {ln : Int} {ws : List ByteArray} {w : World} (n : Nat) (hr : RB w g t ln) (hb : GB B w) (hn : ws.length = n) (hn0 : 0 < n) (hn1 : n ≤ 4000000) (hA : ES.Rd w (some ⟨b, 0, none⟩) ws) (hi0 : isB ws ⟨#[103, 101, 116]⟩ 1 = false) (hi1 : isB ws ⟨#[108, 111, 111, 107]⟩ 3 = false) (hi2 : isB ws ⟨#[111, 112, 101, 110]⟩ 2 = false) (hi3 : isB ws ⟨#[110, 101, 120, 116]⟩ 1 = false) (hi4 : isB ws ⟨#[99, 108, 111, 115, 101]⟩ 1 = false) (hi9 : isB ws ⟨#[115, 101, 110, 100]⟩ 1 = false) :
    Calls Tryz.prog 64 #[.pointer (some ⟨g, 0, none⟩), .slice (some ⟨b, 0, none⟩) n n] w (RN none ln w) := by
  have hgl := hr.lt
  obtain ⟨W0, hW0⟩ : ∃ W0, W0 = (w.alloc (.cells #[.slice (some ⟨b, 0, none⟩) n n] 83)).alloc (.cells #[.int .u8 0, .string ⟨#[]⟩, .string ⟨#[]⟩, .int .i64 0, .slice none 0 0] 47) := ⟨_, rfl⟩
  have HB0 := Lib.hid (show Below w.heap.size w W0 by rw [hW0]; exact bel_alloc (alb w _) _)
  have ZB := Lib.hid (show W0.heap[w.heap.size]? = some (.cells #[.slice (some ⟨b, 0, none⟩) n n] 83) by rw [hW0]; exact keep_bel (alb _ _) (heap_alloc_new w _))
  have HR0 := Lib.hid (hr.later HB0.out)
  have HA0 := Lib.hid (hA.later HB0.out)
  have IS0 := Lib.hid (is76 ⟨#[103, 101, 116]⟩ 1 1 rfl w.heap.size b n ws W0 (by omega) hn hn0 hn1 (cellh ZB.out rfl) HA0.out)
  rw [hi0] at IS0
  have IS1 := Lib.hid (is76 ⟨#[108, 111, 111, 107]⟩ 3 3 rfl w.heap.size b n ws W0 (by omega) hn hn0 hn1 (cellh ZB.out rfl) HA0.out)
  rw [hi1] at IS1
  have IS2 := Lib.hid (is76 ⟨#[111, 112, 101, 110]⟩ 2 2 rfl w.heap.size b n ws W0 (by omega) hn hn0 hn1 (cellh ZB.out rfl) HA0.out)
  rw [hi2] at IS2
  have IS3 := Lib.hid (is76 ⟨#[110, 101, 120, 116]⟩ 1 1 rfl w.heap.size b n ws W0 (by omega) hn hn0 hn1 (cellh ZB.out rfl) HA0.out)
  rw [hi3] at IS3
  have IS4 := Lib.hid (is76 ⟨#[99, 108, 111, 115, 101]⟩ 1 1 rfl w.heap.size b n ws W0 (by omega) hn hn0 hn1 (cellh ZB.out rfl) HA0.out)
  rw [hi4] at IS4
  have IS9 := Lib.hid (is76 ⟨#[115, 101, 110, 100]⟩ 1 1 rfl w.heap.size b n ws W0 (by omega) hn hn0 hn1 (cellh ZB.out rfl) HA0.out)
  rw [hi9] at IS9
  clear hr hb hA hn hn0 hn1 hgl hi0 hi1 hi2 hi3 hi4 hi9
  go_enter Tryz.func64, Tryz.ntmps64
  go_upto_region 2 with fail
  rw [← hW0]
  clear hW0
  go_wp2_with (first
    | (go_at_call 76; ((with_reducible refine IS0.out.mono ?_); rintro e w0 ⟨rfl, rfl⟩))
    | (go_at_call 76; ((with_reducible refine IS1.out.mono ?_); rintro e w0 ⟨rfl, rfl⟩))
    | (go_at_call 76; ((with_reducible refine IS2.out.mono ?_); rintro e w0 ⟨rfl, rfl⟩))
    | (go_at_call 76; ((with_reducible refine IS3.out.mono ?_); rintro e w0 ⟨rfl, rfl⟩))
    | (go_at_call 76; ((with_reducible refine IS4.out.mono ?_); rintro e w0 ⟨rfl, rfl⟩))
    | (go_at_call 76; ((with_reducible refine IS9.out.mono ?_); rintro e w0 ⟨rfl, rfl⟩))
    | (go_at_call 42; ((with_reducible refine (check_bad g 3 _ HR0.out).mono ?_); rintro e w0 ⟨rfl, rfl⟩))
    | fail)
  exact ⟨rfl, rfl, HB0.out⟩
end Go.Proofs.YtelpkajlejbbgaaGreatDoor
