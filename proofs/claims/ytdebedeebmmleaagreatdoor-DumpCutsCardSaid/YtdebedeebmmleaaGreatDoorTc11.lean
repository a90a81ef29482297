/- The reader: a message's line that is right. -/
import Derived.Test.YtdebedeebmmleaaGreatDoorTc01
import Derived.Test.YtdebedeebmmleaaGreatDoorTc10
set_option linter.unusedVariables false
set_option linter.unusedSimpArgs false
namespace Go.Proofs.YtdebedeebmmleaaGreatDoor
open Go.RowKit Go.Maps
variable {nV aV : Value}
set_option maxHeartbeats 2000000 in
set_option maxRecDepth 100000 in
theorem rm_put_bad {B g b n : Nat} {t : ByteArray} {ln : Int} {ws : List ByteArray} {w : World} (hr : RB nV aV w g t ln) (hb : GB B w) (hn : ws.length = n) (h00 : 0 < n) (hn2 : n ≤ 4000000) (hA : ES.Rd w (some ⟨b, 0, none⟩) ws) (hs : ∀ i, (wdA ws i).size ≤ 1000000) (h0 : isB ws ⟨#[112, 117, 116]⟩ 3 = true) {q : Int} {k : ByteArray} (hh : mgH ws = some (q, k)) (hv : txtB (wdA ws 3) = none) :
    Calls Tryz.prog 57 #[.pointer (some ⟨g, 0, none⟩), .slice (some ⟨b, 0, none⟩) n n] w (RN none ln w) := by
  have hbl := rd_lt hA (by omega)
  have hgl := hr.lt
  have hBw := hb.le
  obtain ⟨W0, hW0⟩ : ∃ W0, W0 = ((((w.alloc (.cells #[.pointer (some ⟨g, 0, none⟩)] 64)).alloc (.cells #[.slice (some ⟨b, 0, none⟩) n n] 39)).alloc (.cells #[.int .u8 0, .int .i64 0, .string ⟨#[]⟩, .string ⟨#[]⟩, .string ⟨#[]⟩, .int .u64 0] 73)).alloc (.cells #[.int .u8 0, .int .i64 0, .string ⟨#[]⟩, .string ⟨#[]⟩, .string ⟨#[]⟩, .int .u64 0] 73)) := ⟨_, rfl⟩
  obtain ⟨z0, z1, z2, z3, hb0⟩ := four w (.cells #[.pointer (some ⟨g, 0, none⟩)] 64) (.cells #[.slice (some ⟨b, 0, none⟩) n n] 39) (.cells #[.int .u8 0, .int .i64 0, .string ⟨#[]⟩, .string ⟨#[]⟩, .string ⟨#[]⟩, .int .u64 0] 73) (.cells #[.int .u8 0, .int .i64 0, .string ⟨#[]⟩, .string ⟨#[]⟩, .string ⟨#[]⟩, .int .u64 0] 73)
  rw [← hW0] at z0 z1 z2 z3 hb0
  obtain ⟨br, hbr⟩ : ∃ x, x = w.heap.size := ⟨_, rfl⟩
  obtain ⟨bw, hbw⟩ : ∃ x, x = w.heap.size + 1 := ⟨_, rfl⟩
  obtain ⟨bs, hbs⟩ : ∃ x, x = w.heap.size + 1 + 1 := ⟨_, rfl⟩
  obtain ⟨bm, hbm⟩ : ∃ x, x = w.heap.size + 1 + 1 + 1 := ⟨_, rfl⟩
  rw [← hbr] at z0
  rw [← hbw] at z1
  rw [← hbs] at z2
  rw [← hbm] at z3
  have hr0 := hr.later hb0
  have hG := hb.later hb0
  have hA0 := hA.later hb0
  have hw : W0.cell? ⟨bw, 0, none⟩ = some (.slice (some ⟨b, 0, none⟩) n n) := cellh z1 rfl
  have hp : W0.cell? ⟨br, 0, none⟩ = some (.pointer (some ⟨g, 0, none⟩)) := cellh z0 rfl
  have hne : b ≠ bm ∧ bw ≠ bm ∧ br ≠ bm ∧ g ≠ bm := ⟨by omega, by omega, by omega, by omega⟩
  have hBm : B ≤ bm := by omega
  have HBF := Lib.hid (fun V (h : Chg (fun x => x = bm) W0 V) => (hb0.trans (h.below (lo := w.heap.size) (fun x e => by omega) hb0.size) : Below w.heap.size w V))
  have HRC := Lib.hid (fun V (h : Chg (fun x => x = bm) W0 V) => (show RB nV aV V g t ln from h.keep hr0 hne.2.2.2))
  have HGC := Lib.hid (fun V (h : Chg (fun x => x = bm) W0 V) => hG.chg h hBm)
  have HW := Lib.hid hw
  have HRP := Lib.hid hp
  have HNW := Lib.hid hne.2.1
  have HNR := Lib.hid hne.2.2.1
  have HNB := Lib.hid hne.1
  have ZS := Lib.hid z2
  have HNS := Lib.hid (show ¬ bs = bm by omega)
  have IS := is_good ⟨#[112, 117, 116]⟩ 3 1 hr0 hG hn hn2 hA0 hs (by omega) hw hp z3 hne hBm h0 hh
  rw [show ((3 : Nat) : Int) = 3 from rfl] at IS
  replace IS := Lib.hid IS
  have hlen : n = 4 := by rw [← hn]; exact (isB_true h0).2
  have n3 : (3 : Int) < (n : Int) := by omega
  have HX := Lib.hid (wd_cell hA0 (i := 3) (by omega))
  have CT := Lib.hid (fun V (h : Chg (fun x => x = bm) W0 V) => rtext_any (s := wdA ws 3) (HRC.out V h) (HGC.out V h) (hs 3))
  unfold RN at CT
  rw [hv] at CT
  generalize wdA ws 3 = x3 at *
  clear hr hb hn h00 hn2 hA hs hbl hgl hBw z0 z1 z2 z3 hb0 hr0 hG hA0 hw hp hne hBm h0 hh hlen hv
  go_enter Tryz.func57, Tryz.ntmps57
  go_upto_region 4 with fail
  rw [← hW0]
  rw [← hbm, ← hbs, ← hbw, ← hbr]
  clear hW0 hbm hbs hbw hbr
  go_upto_region 5 with (first
    | (go_at_call 75; ((with_reducible refine IS.out.mono ?_); rintro e v1 ⟨rfl, zz, cc⟩; have Z0 := Lib.hid zz; have CE := Lib.hid cc; clear zz cc))
    | fail)
  refine wp_region_held_drew (S := (fun V : World => Chg (fun x => x = bm) W0 V)) (by kernel_rfl) ?_ (fun hHeld => ?_)
  · exact CE.out.drew
  have HHeld := Lib.hid hHeld; clear hHeld
  refine wT (i := 0) (oi := { dst := some 16, op := Op.load 64 (Operand.tmp 2), type := 64, pos := "parse.go:147", after := #[], guard := none }) (v := (.pointer (some ⟨g, 0, none⟩) : Value)) rfl (Or.inl ⟨by rfl, ?_⟩) HHeld.out ?_
  · intro V hV; have hc0 := hV.cell HRP.out HNR.out; clear hV; go_simp
  try simp only [pu, pn, s1, s2, s3]
  refine wT (i := 1) (oi := { dst := some 17, op := Op.load 39 (Operand.tmp 3), type := 39, pos := "parse.go:147", after := #[], guard := none }) (v := (.slice (some ⟨b, 0, none⟩) n n : Value)) rfl (Or.inl ⟨by rfl, ?_⟩) HHeld.out ?_
  · intro V hV; have hc0 := hV.cell HW.out HNW.out; clear hV; go_simp
  try simp only [pu, pn, s1, s2, s3]
  refine wT (i := 2) (oi := { dst := some 18, op := Op.indexAddr 39 (Operand.tmp 17) (Operand.const (Value.int IntKind.i64 3)), type := 0, pos := "parse.go:147", after := #[{ on := 1, ground := Ground.data }], guard := none }) (v := ?_) rfl (Or.inl ⟨by rfl, ?_⟩) HHeld.out ?_
  rotate_left
  · intro w hSw; clear hSw; go_simp; try with_reducible rfl
  try simp only [pu, pn, s1, s2, s3]
  refine wT (i := 3) (oi := { dst := some 19, op := Op.load 9 (Operand.tmp 18), type := 9, pos := "parse.go:147", after := #[{ on := 2, ground := Ground.data }], guard := none }) (v := (.string x3 : Value)) rfl (Or.inl ⟨by rfl, ?_⟩) HHeld.out ?_
  · intro V hV; have hc0 := hV.cell HX.out HNB.out; clear hV; go_simp
  try simp only [pu, pn, s1, s2, s3]
  refine wpAnyH_ready (rs := [4]) (by kernel_rfl) (by simp) ?_
  refine AllReadyH.cons (o := { dst := some 20, op := Op.call { callee := Callee.value (Operand.func 74), args := #[Operand.tmp 16, Operand.tmp 19], argTypes := #[64, 9] }, type := 9, pos := "parse.go:147", after := #[{ on := 0, ground := Ground.data }, { on := 3, ground := Ground.data }], guard := none }) rfl (fun K hK => ?_) AllReadyH.nil
  go_simp
  (go_at_call 74; ((with_reducible refine (CT.out _ HHeld.out).mono ?_); rintro e v2 ⟨rfl, bb⟩; have C2 := Lib.hid (HHeld.out.later bb); clear bb))
  exact ⟨rfl, rfl, HBF.out _ C2.out⟩
set_option maxHeartbeats 2000000 in
set_option maxRecDepth 100000 in
theorem rm_put_ok {B g b n : Nat} {t : ByteArray} {ln : Int} {ws : List ByteArray} {w : World} (hr : RB nV aV w g t ln) (hb : GB B w) (hn : ws.length = n) (h00 : 0 < n) (hn2 : n ≤ 4000000) (hA : ES.Rd w (some ⟨b, 0, none⟩) ws) (hs : ∀ i, (wdA ws i).size ≤ 1000000) (h0 : isB ws ⟨#[112, 117, 116]⟩ 3 = true) {q : Int} {k : ByteArray} (hh : mgH ws = some (q, k)) {v : ByteArray} (hv : txtB (wdA ws 3) = some v) :
    Calls Tryz.prog 57 #[.pointer (some ⟨g, 0, none⟩), .slice (some ⟨b, 0, none⟩) n n] w (RN (some (M.v ⟨1, q, k, ⟨#[]⟩, v, 0⟩)) ln w) := by
  have hbl := rd_lt hA (by omega)
  have hgl := hr.lt
  have hBw := hb.le
  obtain ⟨W0, hW0⟩ : ∃ W0, W0 = ((((w.alloc (.cells #[.pointer (some ⟨g, 0, none⟩)] 64)).alloc (.cells #[.slice (some ⟨b, 0, none⟩) n n] 39)).alloc (.cells #[.int .u8 0, .int .i64 0, .string ⟨#[]⟩, .string ⟨#[]⟩, .string ⟨#[]⟩, .int .u64 0] 73)).alloc (.cells #[.int .u8 0, .int .i64 0, .string ⟨#[]⟩, .string ⟨#[]⟩, .string ⟨#[]⟩, .int .u64 0] 73)) := ⟨_, rfl⟩
  obtain ⟨z0, z1, z2, z3, hb0⟩ := four w (.cells #[.pointer (some ⟨g, 0, none⟩)] 64) (.cells #[.slice (some ⟨b, 0, none⟩) n n] 39) (.cells #[.int .u8 0, .int .i64 0, .string ⟨#[]⟩, .string ⟨#[]⟩, .string ⟨#[]⟩, .int .u64 0] 73) (.cells #[.int .u8 0, .int .i64 0, .string ⟨#[]⟩, .string ⟨#[]⟩, .string ⟨#[]⟩, .int .u64 0] 73)
  rw [← hW0] at z0 z1 z2 z3 hb0
  obtain ⟨br, hbr⟩ : ∃ x, x = w.heap.size := ⟨_, rfl⟩
  obtain ⟨bw, hbw⟩ : ∃ x, x = w.heap.size + 1 := ⟨_, rfl⟩
  obtain ⟨bs, hbs⟩ : ∃ x, x = w.heap.size + 1 + 1 := ⟨_, rfl⟩
  obtain ⟨bm, hbm⟩ : ∃ x, x = w.heap.size + 1 + 1 + 1 := ⟨_, rfl⟩
  rw [← hbr] at z0
  rw [← hbw] at z1
  rw [← hbs] at z2
  rw [← hbm] at z3
  have hr0 := hr.later hb0
  have hG := hb.later hb0
  have hA0 := hA.later hb0
  have hw : W0.cell? ⟨bw, 0, none⟩ = some (.slice (some ⟨b, 0, none⟩) n n) := cellh z1 rfl
  have hp : W0.cell? ⟨br, 0, none⟩ = some (.pointer (some ⟨g, 0, none⟩)) := cellh z0 rfl
  have hne : b ≠ bm ∧ bw ≠ bm ∧ br ≠ bm ∧ g ≠ bm := ⟨by omega, by omega, by omega, by omega⟩
  have hBm : B ≤ bm := by omega
  have HBF := Lib.hid (fun V (h : Chg (fun x => x = bm) W0 V) => (hb0.trans (h.below (lo := w.heap.size) (fun x e => by omega) hb0.size) : Below w.heap.size w V))
  have HRC := Lib.hid (fun V (h : Chg (fun x => x = bm) W0 V) => (show RB nV aV V g t ln from h.keep hr0 hne.2.2.2))
  have HGC := Lib.hid (fun V (h : Chg (fun x => x = bm) W0 V) => hG.chg h hBm)
  have HW := Lib.hid hw
  have HRP := Lib.hid hp
  have HNW := Lib.hid hne.2.1
  have HNR := Lib.hid hne.2.2.1
  have HNB := Lib.hid hne.1
  have ZS := Lib.hid z2
  have HNS := Lib.hid (show ¬ bs = bm by omega)
  have IS := is_good ⟨#[112, 117, 116]⟩ 3 1 hr0 hG hn hn2 hA0 hs (by omega) hw hp z3 hne hBm h0 hh
  rw [show ((3 : Nat) : Int) = 3 from rfl] at IS
  replace IS := Lib.hid IS
  have hlen : n = 4 := by rw [← hn]; exact (isB_true h0).2
  have n3 : (3 : Int) < (n : Int) := by omega
  have HX := Lib.hid (wd_cell hA0 (i := 3) (by omega))
  have CT := Lib.hid (fun V (h : Chg (fun x => x = bm) W0 V) => rtext_any (s := wdA ws 3) (HRC.out V h) (HGC.out V h) (hs 3))
  unfold RN at CT
  rw [hv] at CT
  generalize wdA ws 3 = x3 at *
  have HGE := Lib.hid (show w.heap.size ≤ bs by omega)
  clear hr hb hn h00 hn2 hA hs hbl hgl hBw z0 z1 z2 z3 hb0 hr0 hG hA0 hw hp hne hBm h0 hh hlen hv
  go_enter Tryz.func57, Tryz.ntmps57
  go_upto_region 4 with fail
  rw [← hW0]
  rw [← hbm, ← hbs, ← hbw, ← hbr]
  clear hW0 hbm hbs hbw hbr
  go_upto_region 5 with (first
    | (go_at_call 75; ((with_reducible refine IS.out.mono ?_); rintro e v1 ⟨rfl, zz, cc⟩; have Z0 := Lib.hid zz; have CE := Lib.hid cc; clear zz cc))
    | fail)
  refine wp_region_held_drew (S := (fun V : World => Chg (fun x => x = bm) W0 V)) (by kernel_rfl) ?_ (fun hHeld => ?_)
  · exact CE.out.drew
  have HHeld := Lib.hid hHeld; clear hHeld
  refine wT (i := 0) (oi := { dst := some 16, op := Op.load 64 (Operand.tmp 2), type := 64, pos := "parse.go:147", after := #[], guard := none }) (v := (.pointer (some ⟨g, 0, none⟩) : Value)) rfl (Or.inl ⟨by rfl, ?_⟩) HHeld.out ?_
  · intro V hV; have hc0 := hV.cell HRP.out HNR.out; clear hV; go_simp
  try simp only [pu, pn, s1, s2, s3]
  refine wT (i := 1) (oi := { dst := some 17, op := Op.load 39 (Operand.tmp 3), type := 39, pos := "parse.go:147", after := #[], guard := none }) (v := (.slice (some ⟨b, 0, none⟩) n n : Value)) rfl (Or.inl ⟨by rfl, ?_⟩) HHeld.out ?_
  · intro V hV; have hc0 := hV.cell HW.out HNW.out; clear hV; go_simp
  try simp only [pu, pn, s1, s2, s3]
  refine wT (i := 2) (oi := { dst := some 18, op := Op.indexAddr 39 (Operand.tmp 17) (Operand.const (Value.int IntKind.i64 3)), type := 0, pos := "parse.go:147", after := #[{ on := 1, ground := Ground.data }], guard := none }) (v := ?_) rfl (Or.inl ⟨by rfl, ?_⟩) HHeld.out ?_
  rotate_left
  · intro w hSw; clear hSw; go_simp; try with_reducible rfl
  try simp only [pu, pn, s1, s2, s3]
  refine wT (i := 3) (oi := { dst := some 19, op := Op.load 9 (Operand.tmp 18), type := 9, pos := "parse.go:147", after := #[{ on := 2, ground := Ground.data }], guard := none }) (v := (.string x3 : Value)) rfl (Or.inl ⟨by rfl, ?_⟩) HHeld.out ?_
  · intro V hV; have hc0 := hV.cell HX.out HNB.out; clear hV; go_simp
  try simp only [pu, pn, s1, s2, s3]
  refine wpAnyH_ready (rs := [4]) (by kernel_rfl) (by simp) ?_
  refine AllReadyH.cons (o := { dst := some 20, op := Op.call { callee := Callee.value (Operand.func 74), args := #[Operand.tmp 16, Operand.tmp 19], argTypes := #[64, 9] }, type := 9, pos := "parse.go:147", after := #[{ on := 0, ground := Ground.data }, { on := 3, ground := Ground.data }], guard := none }) rfl (fun K hK => ?_) AllReadyH.nil
  go_simp
  (go_at_call 74; ((with_reducible refine (CT.out _ HHeld.out).mono ?_); rintro e v2 ⟨rfl, bb⟩; have C2 := Lib.hid (HHeld.out.later bb); have Z2 := Lib.hid (keep_bel (bel_dr bb) Z0.out); clear bb))
  refine hK.out _ _ ?_ (fun hHeld => ?_)
  · exact C2.out
  clear HHeld; have HHeld := Lib.hid hHeld; clear hHeld
  clear hK K
  try simp only [pu, pn, s1, s2, s3]
  refine wT (i := 5) (oi := { dst := some 21, op := Op.fieldAddr 73 (Operand.tmp 5) 4, type := 0, pos := "parse.go:147", after := #[{ on := 0, ground := Ground.phase }, { on := 1, ground := Ground.phase }, { on := 2, ground := Ground.phase }, { on := 3, ground := Ground.phase }, { on := 4, ground := Ground.phase }], guard := none }) (v := ?_) rfl (Or.inl ⟨by rfl, ?_⟩) HHeld.out ?_
  rotate_left
  · intro w hSw; clear hSw; go_simp; try with_reducible rfl
  try simp only [pu, pn, s1, s2, s3]
  refine wpAnyH_ready (rs := [6]) (by kernel_rfl) (by simp) ?_
  refine AllReadyH.cons (o := { dst := none, op := Op.store 9 (Operand.tmp 21) (Operand.tmp 20), type := 0, pos := "parse.go:147", after := #[{ on := 5, ground := Ground.data }, { on := 4, ground := Ground.data }, { on := 4, ground := Ground.chain }, { on := 0, ground := Ground.phase }, { on := 1, ground := Ground.phase }, { on := 2, ground := Ground.phase }, { on := 3, ground := Ground.phase }, { on := 4, ground := Ground.phase }], guard := none }) rfl (fun K hK => ?_) AllReadyH.nil
  obtain ⟨k0, k1, k2, k3, k4, k5⟩ := cells6 Z2.out
  obtain ⟨f0, f1, f2, f3, f4, f5⟩ := froz6 Z2.out
  go_simp
  clear k0 k1 k2 k3 k4 k5 f0 f1 f2 f3 f4 f5
  have ZU : (v2.setCell ⟨bm, 4, none⟩ (.string v)).heap[bm]? = some (.cells #[.int .u8 1, .int .i64 q, .string k, .string ⟨#[]⟩, .string v, .int .u64 0] 73 (0, 0)) := hset Z2.out (.string v)
  have GU : Chg (fun x => x = bm) v2 (v2.setCell ⟨bm, 4, none⟩ (.string v)) := Chg.set _ _ rfl
  obtain ⟨u1, hu1⟩ : ∃ u, u = (v2.setCell ⟨bm, 4, none⟩ (.string v)) := ⟨_, rfl⟩
  rw [← hu1] at ZU GU ⊢
  clear hu1
  replace ZU := Lib.hid ZU
  replace GU := Lib.hid GU
  refine hK.out _ _ ?_ (fun hHeld => ?_)
  · exact HHeld.out.then GU.out
  clear HHeld; have HHeld := Lib.hid hHeld; clear hHeld
  clear hK K
  try simp only [pu, pn, s1, s2, s3]
  refine wpAnyH_done (by kernel_rfl) ?_ _
  have CF := Lib.hid HHeld.out
  clear HHeld
  have ZB := Lib.hid (CF.out.keep ZS.out HNS.out)
  obtain ⟨k0, k1, k2, k3, k4, k5⟩ := cells6 ZU.out
  obtain ⟨f0, f1, f2, f3, f4, f5⟩ := cells6 ZB.out
  obtain ⟨g0, g1, g2, g3, g4, g5⟩ := froz6 ZB.out
  go_wp2
  clear k0 k1 k2 k3 k4 k5 f0 f1 f2 f3 f4 f5 g0 g1 g2 g3 g4 g5
  have ZF := set6w ZB.out (.int .u8 1) (.int .i64 q) (.string k) (.string ⟨#[]⟩) (.string v) (.int .u64 0)
  have BF : Below w.heap.size w ((((((u1.setCell ⟨bs, 0, none⟩ (.int .u8 1)).setCell ⟨bs, 1, none⟩ (.int .i64 q)).setCell ⟨bs, 2, none⟩ (.string k)).setCell ⟨bs, 3, none⟩ (.string ⟨#[]⟩)).setCell ⟨bs, 4, none⟩ (.string v)).setCell ⟨bs, 5, none⟩ (.int .u64 0)) := (HBF.out _ CF.out).trans ((chg6 u1 bs (.int .u8 1) (.int .i64 q) (.string k) (.string ⟨#[]⟩) (.string v) (.int .u64 0)).below (lo := w.heap.size) (fun x e => e ▸ HGE.out) (HBF.out _ CF.out).size)
  obtain ⟨WF, hWF⟩ : ∃ WF, WF = ((((((u1.setCell ⟨bs, 0, none⟩ (.int .u8 1)).setCell ⟨bs, 1, none⟩ (.int .i64 q)).setCell ⟨bs, 2, none⟩ (.string k)).setCell ⟨bs, 3, none⟩ (.string ⟨#[]⟩)).setCell ⟨bs, 4, none⟩ (.string v)).setCell ⟨bs, 5, none⟩ (.int .u64 0)) := ⟨_, rfl⟩
  rw [← hWF] at ZF BF ⊢
  clear hWF
  obtain ⟨k0, k1, k2, k3, k4, k5⟩ := cells6 ZF
  refine bodyPost_ret (v := .agg #[.int .u8 1, .int .i64 q, .string k, .string ⟨#[]⟩, .string v, .int .u64 0]) (by simp [results, Tryz.results57, go_sem, k0, k1, k2, k3, k4, k5]) rfl ⟨rfl, BF⟩
set_option maxHeartbeats 2000000 in
set_option maxRecDepth 100000 in
theorem rm_clear_bad {B g b n : Nat} {t : ByteArray} {ln : Int} {ws : List ByteArray} {w : World} (hr : RB nV aV w g t ln) (hb : GB B w) (hn : ws.length = n) (h00 : 0 < n) (hn2 : n ≤ 4000000) (hA : ES.Rd w (some ⟨b, 0, none⟩) ws) (hs : ∀ i, (wdA ws i).size ≤ 1000000) (h0 : isB ws ⟨#[112, 117, 116]⟩ 3 = false) (h1 : isB ws ⟨#[100, 101, 108, 101, 116, 101]⟩ 2 = false) (h2 : isB ws ⟨#[97, 100, 100]⟩ 3 = false) (h3 : isB ws ⟨#[99, 108, 101, 97, 114]⟩ 3 = true) {q : Int} {k : ByteArray} (hh : mgH ws = some (q, k)) (hv : txtB (wdA ws 3) = none) :
    Calls Tryz.prog 57 #[.pointer (some ⟨g, 0, none⟩), .slice (some ⟨b, 0, none⟩) n n] w (RN none ln w) := by
  have hbl := rd_lt hA (by omega)
  have hgl := hr.lt
  have hBw := hb.le
  obtain ⟨W0, hW0⟩ : ∃ W0, W0 = ((((w.alloc (.cells #[.pointer (some ⟨g, 0, none⟩)] 64)).alloc (.cells #[.slice (some ⟨b, 0, none⟩) n n] 39)).alloc (.cells #[.int .u8 0, .int .i64 0, .string ⟨#[]⟩, .string ⟨#[]⟩, .string ⟨#[]⟩, .int .u64 0] 73)).alloc (.cells #[.int .u8 0, .int .i64 0, .string ⟨#[]⟩, .string ⟨#[]⟩, .string ⟨#[]⟩, .int .u64 0] 73)) := ⟨_, rfl⟩
  obtain ⟨z0, z1, z2, z3, hb0⟩ := four w (.cells #[.pointer (some ⟨g, 0, none⟩)] 64) (.cells #[.slice (some ⟨b, 0, none⟩) n n] 39) (.cells #[.int .u8 0, .int .i64 0, .string ⟨#[]⟩, .string ⟨#[]⟩, .string ⟨#[]⟩, .int .u64 0] 73) (.cells #[.int .u8 0, .int .i64 0, .string ⟨#[]⟩, .string ⟨#[]⟩, .string ⟨#[]⟩, .int .u64 0] 73)
  rw [← hW0] at z0 z1 z2 z3 hb0
  obtain ⟨br, hbr⟩ : ∃ x, x = w.heap.size := ⟨_, rfl⟩
  obtain ⟨bw, hbw⟩ : ∃ x, x = w.heap.size + 1 := ⟨_, rfl⟩
  obtain ⟨bs, hbs⟩ : ∃ x, x = w.heap.size + 1 + 1 := ⟨_, rfl⟩
  obtain ⟨bm, hbm⟩ : ∃ x, x = w.heap.size + 1 + 1 + 1 := ⟨_, rfl⟩
  rw [← hbr] at z0
  rw [← hbw] at z1
  rw [← hbs] at z2
  rw [← hbm] at z3
  have hr0 := hr.later hb0
  have hG := hb.later hb0
  have hA0 := hA.later hb0
  have hw : W0.cell? ⟨bw, 0, none⟩ = some (.slice (some ⟨b, 0, none⟩) n n) := cellh z1 rfl
  have hp : W0.cell? ⟨br, 0, none⟩ = some (.pointer (some ⟨g, 0, none⟩)) := cellh z0 rfl
  have hne : b ≠ bm ∧ bw ≠ bm ∧ br ≠ bm ∧ g ≠ bm := ⟨by omega, by omega, by omega, by omega⟩
  have hBm : B ≤ bm := by omega
  have HBF := Lib.hid (fun V (h : Chg (fun x => x = bm) W0 V) => (hb0.trans (h.below (lo := w.heap.size) (fun x e => by omega) hb0.size) : Below w.heap.size w V))
  have HRC := Lib.hid (fun V (h : Chg (fun x => x = bm) W0 V) => (show RB nV aV V g t ln from h.keep hr0 hne.2.2.2))
  have HGC := Lib.hid (fun V (h : Chg (fun x => x = bm) W0 V) => hG.chg h hBm)
  have HW := Lib.hid hw
  have HRP := Lib.hid hp
  have HNW := Lib.hid hne.2.1
  have HNR := Lib.hid hne.2.2.1
  have HNB := Lib.hid hne.1
  have ZS := Lib.hid z2
  have HNS := Lib.hid (show ¬ bs = bm by omega)
  have N0 := is_no ⟨#[112, 117, 116]⟩ 3 1 hr0 hG hn hn2 hA0 hs (by omega) hw hp z3 hne hBm h0 h00
  rw [show ((3 : Nat) : Int) = 3 from rfl] at N0
  replace N0 := Lib.hid N0
  have N1 := is_no ⟨#[100, 101, 108, 101, 116, 101]⟩ 2 2 hr0 hG hn hn2 hA0 hs (by omega) hw hp z3 hne hBm h1 h00
  rw [show ((2 : Nat) : Int) = 2 from rfl] at N1
  replace N1 := Lib.hid N1
  have N2 := is_no ⟨#[97, 100, 100]⟩ 3 3 hr0 hG hn hn2 hA0 hs (by omega) hw hp z3 hne hBm h2 h00
  rw [show ((3 : Nat) : Int) = 3 from rfl] at N2
  replace N2 := Lib.hid N2
  have IS := is_good ⟨#[99, 108, 101, 97, 114]⟩ 3 4 hr0 hG hn hn2 hA0 hs (by omega) hw hp z3 hne hBm h3 hh
  rw [show ((3 : Nat) : Int) = 3 from rfl] at IS
  replace IS := Lib.hid IS
  have hlen : n = 4 := by rw [← hn]; exact (isB_true h3).2
  have n3 : (3 : Int) < (n : Int) := by omega
  have HX := Lib.hid (wd_cell hA0 (i := 3) (by omega))
  have CT := Lib.hid (fun V (h : Chg (fun x => x = bm) W0 V) => rtext_any (s := wdA ws 3) (HRC.out V h) (HGC.out V h) (hs 3))
  unfold RN at CT
  rw [hv] at CT
  generalize wdA ws 3 = x3 at *
  clear hr hb hn h00 hn2 hA hs hbl hgl hBw z0 z1 z2 z3 hb0 hr0 hG hA0 hw hp hne hBm h0 h1 h2 h3 hh hlen hv
  go_enter Tryz.func57, Tryz.ntmps57
  go_upto_region 4 with fail
  rw [← hW0]
  rw [← hbm, ← hbs, ← hbw, ← hbr]
  clear hW0 hbm hbs hbw hbr
  go_upto_region 12 with (first
    | (go_at_call 75; ((with_reducible refine N0.out.mono ?_); rintro e w0 ⟨rfl, q0⟩; rw [q0]; clear q0 w0))
    | (go_at_call 75; ((with_reducible refine N1.out.mono ?_); rintro e w0 ⟨rfl, q0⟩; rw [q0]; clear q0 w0))
    | (go_at_call 75; ((with_reducible refine N2.out.mono ?_); rintro e w0 ⟨rfl, q0⟩; rw [q0]; clear q0 w0))
    | (go_at_call 75; ((with_reducible refine IS.out.mono ?_); rintro e v1 ⟨rfl, zz, cc⟩; have Z0 := Lib.hid zz; have CE := Lib.hid cc; clear zz cc))
    | fail)
  refine wp_region_held_drew (S := (fun V : World => Chg (fun x => x = bm) W0 V)) (by kernel_rfl) ?_ (fun hHeld => ?_)
  · exact CE.out.drew
  have HHeld := Lib.hid hHeld; clear hHeld
  refine wT (i := 0) (oi := { dst := some 52, op := Op.load 64 (Operand.tmp 2), type := 64, pos := "parse.go:154", after := #[], guard := none }) (v := (.pointer (some ⟨g, 0, none⟩) : Value)) rfl (Or.inl ⟨by rfl, ?_⟩) HHeld.out ?_
  · intro V hV; have hc0 := hV.cell HRP.out HNR.out; clear hV; go_simp
  try simp only [pu, pn, s1, s2, s3]
  refine wT (i := 1) (oi := { dst := some 53, op := Op.load 39 (Operand.tmp 3), type := 39, pos := "parse.go:154", after := #[], guard := none }) (v := (.slice (some ⟨b, 0, none⟩) n n : Value)) rfl (Or.inl ⟨by rfl, ?_⟩) HHeld.out ?_
  · intro V hV; have hc0 := hV.cell HW.out HNW.out; clear hV; go_simp
  try simp only [pu, pn, s1, s2, s3]
  refine wT (i := 2) (oi := { dst := some 54, op := Op.indexAddr 39 (Operand.tmp 53) (Operand.const (Value.int IntKind.i64 3)), type := 0, pos := "parse.go:154", after := #[{ on := 1, ground := Ground.data }], guard := none }) (v := ?_) rfl (Or.inl ⟨by rfl, ?_⟩) HHeld.out ?_
  rotate_left
  · intro w hSw; clear hSw; go_simp; try with_reducible rfl
  try simp only [pu, pn, s1, s2, s3]
  refine wT (i := 3) (oi := { dst := some 55, op := Op.load 9 (Operand.tmp 54), type := 9, pos := "parse.go:154", after := #[{ on := 2, ground := Ground.data }], guard := none }) (v := (.string x3 : Value)) rfl (Or.inl ⟨by rfl, ?_⟩) HHeld.out ?_
  · intro V hV; have hc0 := hV.cell HX.out HNB.out; clear hV; go_simp
  try simp only [pu, pn, s1, s2, s3]
  refine wpAnyH_ready (rs := [4]) (by kernel_rfl) (by simp) ?_
  refine AllReadyH.cons (o := { dst := some 56, op := Op.call { callee := Callee.value (Operand.func 74), args := #[Operand.tmp 52, Operand.tmp 55], argTypes := #[64, 9] }, type := 9, pos := "parse.go:154", after := #[{ on := 0, ground := Ground.data }, { on := 3, ground := Ground.data }], guard := none }) rfl (fun K hK => ?_) AllReadyH.nil
  go_simp
  (go_at_call 74; ((with_reducible refine (CT.out _ HHeld.out).mono ?_); rintro e v2 ⟨rfl, bb⟩; have C2 := Lib.hid (HHeld.out.later bb); clear bb))
  exact ⟨rfl, rfl, HBF.out _ C2.out⟩
set_option maxHeartbeats 2000000 in
set_option maxRecDepth 100000 in
theorem rm_clear_ok {B g b n : Nat} {t : ByteArray} {ln : Int} {ws : List ByteArray} {w : World} (hr : RB nV aV w g t ln) (hb : GB B w) (hn : ws.length = n) (h00 : 0 < n) (hn2 : n ≤ 4000000) (hA : ES.Rd w (some ⟨b, 0, none⟩) ws) (hs : ∀ i, (wdA ws i).size ≤ 1000000) (h0 : isB ws ⟨#[112, 117, 116]⟩ 3 = false) (h1 : isB ws ⟨#[100, 101, 108, 101, 116, 101]⟩ 2 = false) (h2 : isB ws ⟨#[97, 100, 100]⟩ 3 = false) (h3 : isB ws ⟨#[99, 108, 101, 97, 114]⟩ 3 = true) {q : Int} {k : ByteArray} (hh : mgH ws = some (q, k)) {v : ByteArray} (hv : txtB (wdA ws 3) = some v) :
    Calls Tryz.prog 57 #[.pointer (some ⟨g, 0, none⟩), .slice (some ⟨b, 0, none⟩) n n] w (RN (some (M.v ⟨4, q, k, v, ⟨#[]⟩, 0⟩)) ln w) := by
  have hbl := rd_lt hA (by omega)
  have hgl := hr.lt
  have hBw := hb.le
  obtain ⟨W0, hW0⟩ : ∃ W0, W0 = ((((w.alloc (.cells #[.pointer (some ⟨g, 0, none⟩)] 64)).alloc (.cells #[.slice (some ⟨b, 0, none⟩) n n] 39)).alloc (.cells #[.int .u8 0, .int .i64 0, .string ⟨#[]⟩, .string ⟨#[]⟩, .string ⟨#[]⟩, .int .u64 0] 73)).alloc (.cells #[.int .u8 0, .int .i64 0, .string ⟨#[]⟩, .string ⟨#[]⟩, .string ⟨#[]⟩, .int .u64 0] 73)) := ⟨_, rfl⟩
  obtain ⟨z0, z1, z2, z3, hb0⟩ := four w (.cells #[.pointer (some ⟨g, 0, none⟩)] 64) (.cells #[.slice (some ⟨b, 0, none⟩) n n] 39) (.cells #[.int .u8 0, .int .i64 0, .string ⟨#[]⟩, .string ⟨#[]⟩, .string ⟨#[]⟩, .int .u64 0] 73) (.cells #[.int .u8 0, .int .i64 0, .string ⟨#[]⟩, .string ⟨#[]⟩, .string ⟨#[]⟩, .int .u64 0] 73)
  rw [← hW0] at z0 z1 z2 z3 hb0
  obtain ⟨br, hbr⟩ : ∃ x, x = w.heap.size := ⟨_, rfl⟩
  obtain ⟨bw, hbw⟩ : ∃ x, x = w.heap.size + 1 := ⟨_, rfl⟩
  obtain ⟨bs, hbs⟩ : ∃ x, x = w.heap.size + 1 + 1 := ⟨_, rfl⟩
  obtain ⟨bm, hbm⟩ : ∃ x, x = w.heap.size + 1 + 1 + 1 := ⟨_, rfl⟩
  rw [← hbr] at z0
  rw [← hbw] at z1
  rw [← hbs] at z2
  rw [← hbm] at z3
  have hr0 := hr.later hb0
  have hG := hb.later hb0
  have hA0 := hA.later hb0
  have hw : W0.cell? ⟨bw, 0, none⟩ = some (.slice (some ⟨b, 0, none⟩) n n) := cellh z1 rfl
  have hp : W0.cell? ⟨br, 0, none⟩ = some (.pointer (some ⟨g, 0, none⟩)) := cellh z0 rfl
  have hne : b ≠ bm ∧ bw ≠ bm ∧ br ≠ bm ∧ g ≠ bm := ⟨by omega, by omega, by omega, by omega⟩
  have hBm : B ≤ bm := by omega
  have HBF := Lib.hid (fun V (h : Chg (fun x => x = bm) W0 V) => (hb0.trans (h.below (lo := w.heap.size) (fun x e => by omega) hb0.size) : Below w.heap.size w V))
  have HRC := Lib.hid (fun V (h : Chg (fun x => x = bm) W0 V) => (show RB nV aV V g t ln from h.keep hr0 hne.2.2.2))
  have HGC := Lib.hid (fun V (h : Chg (fun x => x = bm) W0 V) => hG.chg h hBm)
  have HW := Lib.hid hw
  have HRP := Lib.hid hp
  have HNW := Lib.hid hne.2.1
  have HNR := Lib.hid hne.2.2.1
  have HNB := Lib.hid hne.1
  have ZS := Lib.hid z2
  have HNS := Lib.hid (show ¬ bs = bm by omega)
  have N0 := is_no ⟨#[112, 117, 116]⟩ 3 1 hr0 hG hn hn2 hA0 hs (by omega) hw hp z3 hne hBm h0 h00
  rw [show ((3 : Nat) : Int) = 3 from rfl] at N0
  replace N0 := Lib.hid N0
  have N1 := is_no ⟨#[100, 101, 108, 101, 116, 101]⟩ 2 2 hr0 hG hn hn2 hA0 hs (by omega) hw hp z3 hne hBm h1 h00
  rw [show ((2 : Nat) : Int) = 2 from rfl] at N1
  replace N1 := Lib.hid N1
  have N2 := is_no ⟨#[97, 100, 100]⟩ 3 3 hr0 hG hn hn2 hA0 hs (by omega) hw hp z3 hne hBm h2 h00
  rw [show ((3 : Nat) : Int) = 3 from rfl] at N2
  replace N2 := Lib.hid N2
  have IS := is_good ⟨#[99, 108, 101, 97, 114]⟩ 3 4 hr0 hG hn hn2 hA0 hs (by omega) hw hp z3 hne hBm h3 hh
  rw [show ((3 : Nat) : Int) = 3 from rfl] at IS
  replace IS := Lib.hid IS
  have hlen : n = 4 := by rw [← hn]; exact (isB_true h3).2
  have n3 : (3 : Int) < (n : Int) := by omega
  have HX := Lib.hid (wd_cell hA0 (i := 3) (by omega))
  have CT := Lib.hid (fun V (h : Chg (fun x => x = bm) W0 V) => rtext_any (s := wdA ws 3) (HRC.out V h) (HGC.out V h) (hs 3))
  unfold RN at CT
  rw [hv] at CT
  generalize wdA ws 3 = x3 at *
  have HGE := Lib.hid (show w.heap.size ≤ bs by omega)
  clear hr hb hn h00 hn2 hA hs hbl hgl hBw z0 z1 z2 z3 hb0 hr0 hG hA0 hw hp hne hBm h0 h1 h2 h3 hh hlen hv
  go_enter Tryz.func57, Tryz.ntmps57
  go_upto_region 4 with fail
  rw [← hW0]
  rw [← hbm, ← hbs, ← hbw, ← hbr]
  clear hW0 hbm hbs hbw hbr
  go_upto_region 12 with (first
    | (go_at_call 75; ((with_reducible refine N0.out.mono ?_); rintro e w0 ⟨rfl, q0⟩; rw [q0]; clear q0 w0))
    | (go_at_call 75; ((with_reducible refine N1.out.mono ?_); rintro e w0 ⟨rfl, q0⟩; rw [q0]; clear q0 w0))
    | (go_at_call 75; ((with_reducible refine N2.out.mono ?_); rintro e w0 ⟨rfl, q0⟩; rw [q0]; clear q0 w0))
    | (go_at_call 75; ((with_reducible refine IS.out.mono ?_); rintro e v1 ⟨rfl, zz, cc⟩; have Z0 := Lib.hid zz; have CE := Lib.hid cc; clear zz cc))
    | fail)
  refine wp_region_held_drew (S := (fun V : World => Chg (fun x => x = bm) W0 V)) (by kernel_rfl) ?_ (fun hHeld => ?_)
  · exact CE.out.drew
  have HHeld := Lib.hid hHeld; clear hHeld
  refine wT (i := 0) (oi := { dst := some 52, op := Op.load 64 (Operand.tmp 2), type := 64, pos := "parse.go:154", after := #[], guard := none }) (v := (.pointer (some ⟨g, 0, none⟩) : Value)) rfl (Or.inl ⟨by rfl, ?_⟩) HHeld.out ?_
  · intro V hV; have hc0 := hV.cell HRP.out HNR.out; clear hV; go_simp
  try simp only [pu, pn, s1, s2, s3]
  refine wT (i := 1) (oi := { dst := some 53, op := Op.load 39 (Operand.tmp 3), type := 39, pos := "parse.go:154", after := #[], guard := none }) (v := (.slice (some ⟨b, 0, none⟩) n n : Value)) rfl (Or.inl ⟨by rfl, ?_⟩) HHeld.out ?_
  · intro V hV; have hc0 := hV.cell HW.out HNW.out; clear hV; go_simp
  try simp only [pu, pn, s1, s2, s3]
  refine wT (i := 2) (oi := { dst := some 54, op := Op.indexAddr 39 (Operand.tmp 53) (Operand.const (Value.int IntKind.i64 3)), type := 0, pos := "parse.go:154", after := #[{ on := 1, ground := Ground.data }], guard := none }) (v := ?_) rfl (Or.inl ⟨by rfl, ?_⟩) HHeld.out ?_
  rotate_left
  · intro w hSw; clear hSw; go_simp; try with_reducible rfl
  try simp only [pu, pn, s1, s2, s3]
  refine wT (i := 3) (oi := { dst := some 55, op := Op.load 9 (Operand.tmp 54), type := 9, pos := "parse.go:154", after := #[{ on := 2, ground := Ground.data }], guard := none }) (v := (.string x3 : Value)) rfl (Or.inl ⟨by rfl, ?_⟩) HHeld.out ?_
  · intro V hV; have hc0 := hV.cell HX.out HNB.out; clear hV; go_simp
  try simp only [pu, pn, s1, s2, s3]
  refine wpAnyH_ready (rs := [4]) (by kernel_rfl) (by simp) ?_
  refine AllReadyH.cons (o := { dst := some 56, op := Op.call { callee := Callee.value (Operand.func 74), args := #[Operand.tmp 52, Operand.tmp 55], argTypes := #[64, 9] }, type := 9, pos := "parse.go:154", after := #[{ on := 0, ground := Ground.data }, { on := 3, ground := Ground.data }], guard := none }) rfl (fun K hK => ?_) AllReadyH.nil
  go_simp
  (go_at_call 74; ((with_reducible refine (CT.out _ HHeld.out).mono ?_); rintro e v2 ⟨rfl, bb⟩; have C2 := Lib.hid (HHeld.out.later bb); have Z2 := Lib.hid (keep_bel (bel_dr bb) Z0.out); clear bb))
  refine hK.out _ _ ?_ (fun hHeld => ?_)
  · exact C2.out
  clear HHeld; have HHeld := Lib.hid hHeld; clear hHeld
  clear hK K
  try simp only [pu, pn, s1, s2, s3]
  refine wT (i := 5) (oi := { dst := some 57, op := Op.fieldAddr 73 (Operand.tmp 5) 3, type := 0, pos := "parse.go:154", after := #[{ on := 0, ground := Ground.phase }, { on := 1, ground := Ground.phase }, { on := 2, ground := Ground.phase }, { on := 3, ground := Ground.phase }, { on := 4, ground := Ground.phase }], guard := none }) (v := ?_) rfl (Or.inl ⟨by rfl, ?_⟩) HHeld.out ?_
  rotate_left
  · intro w hSw; clear hSw; go_simp; try with_reducible rfl
  try simp only [pu, pn, s1, s2, s3]
  refine wpAnyH_ready (rs := [6]) (by kernel_rfl) (by simp) ?_
  refine AllReadyH.cons (o := { dst := none, op := Op.store 9 (Operand.tmp 57) (Operand.tmp 56), type := 0, pos := "parse.go:154", after := #[{ on := 5, ground := Ground.data }, { on := 4, ground := Ground.data }, { on := 4, ground := Ground.chain }, { on := 0, ground := Ground.phase }, { on := 1, ground := Ground.phase }, { on := 2, ground := Ground.phase }, { on := 3, ground := Ground.phase }, { on := 4, ground := Ground.phase }], guard := none }) rfl (fun K hK => ?_) AllReadyH.nil
  obtain ⟨k0, k1, k2, k3, k4, k5⟩ := cells6 Z2.out
  obtain ⟨f0, f1, f2, f3, f4, f5⟩ := froz6 Z2.out
  go_simp
  clear k0 k1 k2 k3 k4 k5 f0 f1 f2 f3 f4 f5
  have ZU : (v2.setCell ⟨bm, 3, none⟩ (.string v)).heap[bm]? = some (.cells #[.int .u8 4, .int .i64 q, .string k, .string v, .string ⟨#[]⟩, .int .u64 0] 73 (0, 0)) := hset Z2.out (.string v)
  have GU : Chg (fun x => x = bm) v2 (v2.setCell ⟨bm, 3, none⟩ (.string v)) := Chg.set _ _ rfl
  obtain ⟨u1, hu1⟩ : ∃ u, u = (v2.setCell ⟨bm, 3, none⟩ (.string v)) := ⟨_, rfl⟩
  rw [← hu1] at ZU GU ⊢
  clear hu1
  replace ZU := Lib.hid ZU
  replace GU := Lib.hid GU
  refine hK.out _ _ ?_ (fun hHeld => ?_)
  · exact HHeld.out.then GU.out
  clear HHeld; have HHeld := Lib.hid hHeld; clear hHeld
  clear hK K
  try simp only [pu, pn, s1, s2, s3]
  refine wpAnyH_done (by kernel_rfl) ?_ _
  have CF := Lib.hid HHeld.out
  clear HHeld
  have ZB := Lib.hid (CF.out.keep ZS.out HNS.out)
  obtain ⟨k0, k1, k2, k3, k4, k5⟩ := cells6 ZU.out
  obtain ⟨f0, f1, f2, f3, f4, f5⟩ := cells6 ZB.out
  obtain ⟨g0, g1, g2, g3, g4, g5⟩ := froz6 ZB.out
  go_wp2
  clear k0 k1 k2 k3 k4 k5 f0 f1 f2 f3 f4 f5 g0 g1 g2 g3 g4 g5
  have ZF := set6w ZB.out (.int .u8 4) (.int .i64 q) (.string k) (.string v) (.string ⟨#[]⟩) (.int .u64 0)
  have BF : Below w.heap.size w ((((((u1.setCell ⟨bs, 0, none⟩ (.int .u8 4)).setCell ⟨bs, 1, none⟩ (.int .i64 q)).setCell ⟨bs, 2, none⟩ (.string k)).setCell ⟨bs, 3, none⟩ (.string v)).setCell ⟨bs, 4, none⟩ (.string ⟨#[]⟩)).setCell ⟨bs, 5, none⟩ (.int .u64 0)) := (HBF.out _ CF.out).trans ((chg6 u1 bs (.int .u8 4) (.int .i64 q) (.string k) (.string v) (.string ⟨#[]⟩) (.int .u64 0)).below (lo := w.heap.size) (fun x e => e ▸ HGE.out) (HBF.out _ CF.out).size)
  obtain ⟨WF, hWF⟩ : ∃ WF, WF = ((((((u1.setCell ⟨bs, 0, none⟩ (.int .u8 4)).setCell ⟨bs, 1, none⟩ (.int .i64 q)).setCell ⟨bs, 2, none⟩ (.string k)).setCell ⟨bs, 3, none⟩ (.string v)).setCell ⟨bs, 4, none⟩ (.string ⟨#[]⟩)).setCell ⟨bs, 5, none⟩ (.int .u64 0)) := ⟨_, rfl⟩
  rw [← hWF] at ZF BF ⊢
  clear hWF
  obtain ⟨k0, k1, k2, k3, k4, k5⟩ := cells6 ZF
  refine bodyPost_ret (v := .agg #[.int .u8 4, .int .i64 q, .string k, .string v, .string ⟨#[]⟩, .int .u64 0]) (by simp [results, Tryz.results57, go_sem, k0, k1, k2, k3, k4, k5]) rfl ⟨rfl, BF⟩
set_option maxHeartbeats 2000000 in
set_option maxRecDepth 100000 in
theorem rm_delete_ok {B g b n : Nat} {t : ByteArray} {ln : Int} {ws : List ByteArray} {w : World} (hr : RB nV aV w g t ln) (hb : GB B w) (hn : ws.length = n) (h00 : 0 < n) (hn2 : n ≤ 4000000) (hA : ES.Rd w (some ⟨b, 0, none⟩) ws) (hs : ∀ i, (wdA ws i).size ≤ 1000000) (h0 : isB ws ⟨#[112, 117, 116]⟩ 3 = false) (h1 : isB ws ⟨#[100, 101, 108, 101, 116, 101]⟩ 2 = true) {q : Int} {k : ByteArray} (hh : mgH ws = some (q, k)) :
    Calls Tryz.prog 57 #[.pointer (some ⟨g, 0, none⟩), .slice (some ⟨b, 0, none⟩) n n] w (RN (some (M.v ⟨2, q, k, ⟨#[]⟩, ⟨#[]⟩, 0⟩)) ln w) := by
  have hbl := rd_lt hA (by omega)
  have hgl := hr.lt
  have hBw := hb.le
  obtain ⟨W0, hW0⟩ : ∃ W0, W0 = ((((w.alloc (.cells #[.pointer (some ⟨g, 0, none⟩)] 64)).alloc (.cells #[.slice (some ⟨b, 0, none⟩) n n] 39)).alloc (.cells #[.int .u8 0, .int .i64 0, .string ⟨#[]⟩, .string ⟨#[]⟩, .string ⟨#[]⟩, .int .u64 0] 73)).alloc (.cells #[.int .u8 0, .int .i64 0, .string ⟨#[]⟩, .string ⟨#[]⟩, .string ⟨#[]⟩, .int .u64 0] 73)) := ⟨_, rfl⟩
  obtain ⟨z0, z1, z2, z3, hb0⟩ := four w (.cells #[.pointer (some ⟨g, 0, none⟩)] 64) (.cells #[.slice (some ⟨b, 0, none⟩) n n] 39) (.cells #[.int .u8 0, .int .i64 0, .string ⟨#[]⟩, .string ⟨#[]⟩, .string ⟨#[]⟩, .int .u64 0] 73) (.cells #[.int .u8 0, .int .i64 0, .string ⟨#[]⟩, .string ⟨#[]⟩, .string ⟨#[]⟩, .int .u64 0] 73)
  rw [← hW0] at z0 z1 z2 z3 hb0
  obtain ⟨br, hbr⟩ : ∃ x, x = w.heap.size := ⟨_, rfl⟩
  obtain ⟨bw, hbw⟩ : ∃ x, x = w.heap.size + 1 := ⟨_, rfl⟩
  obtain ⟨bs, hbs⟩ : ∃ x, x = w.heap.size + 1 + 1 := ⟨_, rfl⟩
  obtain ⟨bm, hbm⟩ : ∃ x, x = w.heap.size + 1 + 1 + 1 := ⟨_, rfl⟩
  rw [← hbr] at z0
  rw [← hbw] at z1
  rw [← hbs] at z2
  rw [← hbm] at z3
  have hr0 := hr.later hb0
  have hG := hb.later hb0
  have hA0 := hA.later hb0
  have hw : W0.cell? ⟨bw, 0, none⟩ = some (.slice (some ⟨b, 0, none⟩) n n) := cellh z1 rfl
  have hp : W0.cell? ⟨br, 0, none⟩ = some (.pointer (some ⟨g, 0, none⟩)) := cellh z0 rfl
  have hne : b ≠ bm ∧ bw ≠ bm ∧ br ≠ bm ∧ g ≠ bm := ⟨by omega, by omega, by omega, by omega⟩
  have hBm : B ≤ bm := by omega
  have HBF := Lib.hid (fun V (h : Chg (fun x => x = bm) W0 V) => (hb0.trans (h.below (lo := w.heap.size) (fun x e => by omega) hb0.size) : Below w.heap.size w V))
  have HRC := Lib.hid (fun V (h : Chg (fun x => x = bm) W0 V) => (show RB nV aV V g t ln from h.keep hr0 hne.2.2.2))
  have HGC := Lib.hid (fun V (h : Chg (fun x => x = bm) W0 V) => hG.chg h hBm)
  have HW := Lib.hid hw
  have HRP := Lib.hid hp
  have HNW := Lib.hid hne.2.1
  have HNR := Lib.hid hne.2.2.1
  have HNB := Lib.hid hne.1
  have ZS := Lib.hid z2
  have HNS := Lib.hid (show ¬ bs = bm by omega)
  have N0 := is_no ⟨#[112, 117, 116]⟩ 3 1 hr0 hG hn hn2 hA0 hs (by omega) hw hp z3 hne hBm h0 h00
  rw [show ((3 : Nat) : Int) = 3 from rfl] at N0
  replace N0 := Lib.hid N0
  have IS := is_good ⟨#[100, 101, 108, 101, 116, 101]⟩ 2 2 hr0 hG hn hn2 hA0 hs (by omega) hw hp z3 hne hBm h1 hh
  rw [show ((2 : Nat) : Int) = 2 from rfl] at IS
  replace IS := Lib.hid IS
  have HGE := Lib.hid (show w.heap.size ≤ bs by omega)
  clear hr hb hn h00 hn2 hA hs hbl hgl hBw z0 z1 z2 z3 hb0 hr0 hG hA0 hw hp hne hBm h0 h1 hh
  go_enter Tryz.func57, Tryz.ntmps57
  go_upto_region 4 with fail
  rw [← hW0]
  rw [← hbm, ← hbs, ← hbw, ← hbr]
  clear hW0 hbm hbs hbw hbr
  go_upto_region 13 with (first
    | (go_at_call 75; ((with_reducible refine N0.out.mono ?_); rintro e w0 ⟨rfl, q0⟩; rw [q0]; clear q0 w0))
    | (go_at_call 75; ((with_reducible refine IS.out.mono ?_); rintro e v1 ⟨rfl, zz, cc⟩; have Z0 := Lib.hid zz; have CE := Lib.hid cc; clear zz cc))
    | fail)
  have CF := CE
  have ZB := Lib.hid (CF.out.keep ZS.out HNS.out)
  obtain ⟨k0, k1, k2, k3, k4, k5⟩ := cells6 Z0.out
  obtain ⟨f0, f1, f2, f3, f4, f5⟩ := cells6 ZB.out
  obtain ⟨g0, g1, g2, g3, g4, g5⟩ := froz6 ZB.out
  go_wp2
  clear k0 k1 k2 k3 k4 k5 f0 f1 f2 f3 f4 f5 g0 g1 g2 g3 g4 g5
  have ZF := set6w ZB.out (.int .u8 2) (.int .i64 q) (.string k) (.string ⟨#[]⟩) (.string ⟨#[]⟩) (.int .u64 0)
  have BF : Below w.heap.size w ((((((v1.setCell ⟨bs, 0, none⟩ (.int .u8 2)).setCell ⟨bs, 1, none⟩ (.int .i64 q)).setCell ⟨bs, 2, none⟩ (.string k)).setCell ⟨bs, 3, none⟩ (.string ⟨#[]⟩)).setCell ⟨bs, 4, none⟩ (.string ⟨#[]⟩)).setCell ⟨bs, 5, none⟩ (.int .u64 0)) := (HBF.out _ CF.out).trans ((chg6 v1 bs (.int .u8 2) (.int .i64 q) (.string k) (.string ⟨#[]⟩) (.string ⟨#[]⟩) (.int .u64 0)).below (lo := w.heap.size) (fun x e => e ▸ HGE.out) (HBF.out _ CF.out).size)
  obtain ⟨WF, hWF⟩ : ∃ WF, WF = ((((((v1.setCell ⟨bs, 0, none⟩ (.int .u8 2)).setCell ⟨bs, 1, none⟩ (.int .i64 q)).setCell ⟨bs, 2, none⟩ (.string k)).setCell ⟨bs, 3, none⟩ (.string ⟨#[]⟩)).setCell ⟨bs, 4, none⟩ (.string ⟨#[]⟩)).setCell ⟨bs, 5, none⟩ (.int .u64 0)) := ⟨_, rfl⟩
  rw [← hWF] at ZF BF ⊢
  clear hWF
  obtain ⟨k0, k1, k2, k3, k4, k5⟩ := cells6 ZF
  refine bodyPost_ret (v := .agg #[.int .u8 2, .int .i64 q, .string k, .string ⟨#[]⟩, .string ⟨#[]⟩, .int .u64 0]) (by simp [results, Tryz.results57, go_sem, k0, k1, k2, k3, k4, k5]) rfl ⟨rfl, BF⟩
end Go.Proofs.YtdebedeebmmleaaGreatDoor
