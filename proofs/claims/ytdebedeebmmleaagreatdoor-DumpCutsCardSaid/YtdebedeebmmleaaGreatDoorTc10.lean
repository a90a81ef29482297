/- The reader: a message's line. -/
import Derived.Test.YtdebedeebmmleaaGreatDoorTc09
set_option linter.unusedVariables false
set_option linter.unusedSimpArgs false
namespace Go.Proofs.YtdebedeebmmleaaGreatDoor
open Go.RowKit Go.Maps
variable {nV aV : Value}
/-- What every message's line says: its tick and its key. -/
def mgH (ws : List ByteArray) : Option (Int × ByteArray) := (rgB (-1099511627776) 1099511627776 (wdA ws 1)).bind fun q => (txtB (wdA ws 2)).map fun k => (q, k)
/-- A message's line. -/
def mgB (ws : List ByteArray) : Option M :=
  if isB ws ⟨#[112, 117, 116]⟩ 3 then (mgH ws).bind fun h => (txtB (wdA ws 3)).map fun v => ⟨1, h.1, h.2, ⟨#[]⟩, v, 0⟩
  else if isB ws ⟨#[100, 101, 108, 101, 116, 101]⟩ 2 then (mgH ws).map fun h => ⟨2, h.1, h.2, ⟨#[]⟩, ⟨#[]⟩, 0⟩
  else if isB ws ⟨#[97, 100, 100]⟩ 3 then (mgH ws).bind fun h => (delB (wdA ws 3)).map fun u => ⟨3, h.1, h.2, ⟨#[]⟩, ⟨#[]⟩, (u : Int)⟩
  else if isB ws ⟨#[99, 108, 101, 97, 114]⟩ 3 then (mgH ws).bind fun h => (txtB (wdA ws 3)).map fun v => ⟨4, h.1, h.2, v, ⟨#[]⟩, 0⟩
  else none
theorem four (w : World) (x y z u : Obj) : ((((w.alloc x).alloc y).alloc z).alloc u).heap[w.heap.size]? = some x ∧ ((((w.alloc x).alloc y).alloc z).alloc u).heap[w.heap.size + 1]? = some y ∧ ((((w.alloc x).alloc y).alloc z).alloc u).heap[w.heap.size + 1 + 1]? = some z ∧ ((((w.alloc x).alloc y).alloc z).alloc u).heap[w.heap.size + 1 + 1 + 1]? = some u ∧ Below w.heap.size w ((((w.alloc x).alloc y).alloc z).alloc u) := by
  have a := heap_alloc_new w x
  have b := heap_alloc_new (w.alloc x) y
  have c := heap_alloc_new ((w.alloc x).alloc y) z
  have d := heap_alloc_new (((w.alloc x).alloc y).alloc z) u
  refine ⟨keep_bel (alb _ _) (keep_bel (alb _ _) (keep_bel (alb _ _) a)), keep_bel (alb _ _) (keep_bel (alb _ _) ?_), keep_bel (alb _ _) ?_, ?_, bel_alloc (bel_alloc (bel_alloc (alb w _) _) _) _⟩
  · simpa using b
  · simpa using c
  · simpa using d
theorem is_bad {B g b n bw br bm : Nat} {t : ByteArray} {ln : Int} {ws : List ByteArray} {w : World} (x : ByteArray) (m : Nat) (kd : Int) (hr : RB nV aV w g t ln) (hb : GB B w) (hn : ws.length = n) (hn2 : n ≤ 4000000) (hA : ES.Rd w (some ⟨b, 0, none⟩) ws) (hs : ∀ i, (wdA ws i).size ≤ 1000000) (hm : 2 ≤ m ∧ m ≤ 10)
    (hw : w.cell? ⟨bw, 0, none⟩ = some (.slice (some ⟨b, 0, none⟩) n n)) (hp : w.cell? ⟨br, 0, none⟩ = some (.pointer (some ⟨g, 0, none⟩))) (hz : w.heap[bm]? = some (.cells #[.int .u8 0, .int .i64 0, .string ⟨#[]⟩, .string ⟨#[]⟩, .string ⟨#[]⟩, .int .u64 0] 73 (0, 0))) (hne : b ≠ bm ∧ bw ≠ bm ∧ br ≠ bm ∧ g ≠ bm) (hBm : B ≤ bm) (hi : isB ws x m = true) (hh : mgH ws = none) :
    Calls Tryz.prog 75 #[.string x, .int .i64 (m : Int), .int .u8 kd, .pointer (some ⟨bw, 0, none⟩), .pointer (some ⟨br, 0, none⟩), .pointer (some ⟨bm, 0, none⟩)] w fun e w' => e = .panicked [FP ln 3] ∧ Chg (fun x => x = bm) w w' := by
  unfold mgH at hh
  cases hq : rgB (-1099511627776) 1099511627776 (wdA ws 1) with
  | none => exact is_b1 x m kd hr hb hn hn2 hA hs hm hw hp hz hne hBm hi hq
  | some q =>
    cases ht : txtB (wdA ws 2) with
    | none => exact is_b2 x m kd hr hb hn hn2 hA hs hm hw hp hz hne hBm hi hq ht
    | some k =>
      rw [hq, ht] at hh
      cases hh
theorem is_good {B g b n bw br bm : Nat} {t : ByteArray} {ln : Int} {ws : List ByteArray} {w : World} (x : ByteArray) (m : Nat) (kd : Int) (hr : RB nV aV w g t ln) (hb : GB B w) (hn : ws.length = n) (hn2 : n ≤ 4000000) (hA : ES.Rd w (some ⟨b, 0, none⟩) ws) (hs : ∀ i, (wdA ws i).size ≤ 1000000) (hm : 2 ≤ m ∧ m ≤ 10)
    (hw : w.cell? ⟨bw, 0, none⟩ = some (.slice (some ⟨b, 0, none⟩) n n)) (hp : w.cell? ⟨br, 0, none⟩ = some (.pointer (some ⟨g, 0, none⟩))) (hz : w.heap[bm]? = some (.cells #[.int .u8 0, .int .i64 0, .string ⟨#[]⟩, .string ⟨#[]⟩, .string ⟨#[]⟩, .int .u64 0] 73 (0, 0))) (hne : b ≠ bm ∧ bw ≠ bm ∧ br ≠ bm ∧ g ≠ bm) (hBm : B ≤ bm) (hi : isB ws x m = true) {q : Int} {k : ByteArray} (hh : mgH ws = some (q, k)) :
    Calls Tryz.prog 75 #[.string x, .int .i64 (m : Int), .int .u8 kd, .pointer (some ⟨bw, 0, none⟩), .pointer (some ⟨br, 0, none⟩), .pointer (some ⟨bm, 0, none⟩)] w fun e w' => e = .returned (.bool true) ∧ w'.heap[bm]? = some (.cells #[.int .u8 kd, .int .i64 q, .string k, .string ⟨#[]⟩, .string ⟨#[]⟩, .int .u64 0] 73 (0, 0)) ∧ Chg (fun x => x = bm) w w' := by
  unfold mgH at hh
  cases hq : rgB (-1099511627776) 1099511627776 (wdA ws 1) with
  | none => rw [hq] at hh; cases hh
  | some q' =>
    cases ht : txtB (wdA ws 2) with
    | none => rw [hq, ht] at hh; cases hh
    | some k' =>
      rw [hq, ht] at hh
      injection hh with hh
      injection hh with h1 h2
      subst h1
      subst h2
      exact is_ok x m kd hr hb hn hn2 hA hs hm hw hp hz hne hBm hi hq ht
set_option maxHeartbeats 2000000 in
set_option maxRecDepth 100000 in
theorem rm_bad0 {B g b n : Nat} {t : ByteArray} {ln : Int} {ws : List ByteArray} {w : World} (hr : RB nV aV w g t ln) (hb : GB B w) (hn : ws.length = n) (h00 : 0 < n) (hn2 : n ≤ 4000000) (hA : ES.Rd w (some ⟨b, 0, none⟩) ws) (hs : ∀ i, (wdA ws i).size ≤ 1000000) (h0 : isB ws ⟨#[112, 117, 116]⟩ 3 = true) (hh : mgH ws = none) :
    Calls Tryz.prog 57 #[.pointer (some ⟨g, 0, none⟩), .slice (some ⟨b, 0, none⟩) n n] w (RN none ln w) := by
  have hbl := rd_lt hA (by omega)
  have hgl := hr.lt
  have hBw := hb.le
  obtain ⟨W0, hW0⟩ : ∃ W0, W0 = ((((w.alloc (.cells #[.pointer (some ⟨g, 0, none⟩)] 64)).alloc (.cells #[.slice (some ⟨b, 0, none⟩) n n] 39)).alloc (.cells #[.int .u8 0, .int .i64 0, .string ⟨#[]⟩, .string ⟨#[]⟩, .string ⟨#[]⟩, .int .u64 0] 73)).alloc (.cells #[.int .u8 0, .int .i64 0, .string ⟨#[]⟩, .string ⟨#[]⟩, .string ⟨#[]⟩, .int .u64 0] 73)) := ⟨_, rfl⟩
  obtain ⟨z0, z1, z2, z3, hb0⟩ := four w (.cells #[.pointer (some ⟨g, 0, none⟩)] 64) (.cells #[.slice (some ⟨b, 0, none⟩) n n] 39) (.cells #[.int .u8 0, .int .i64 0, .string ⟨#[]⟩, .string ⟨#[]⟩, .string ⟨#[]⟩, .int .u64 0] 73) (.cells #[.int .u8 0, .int .i64 0, .string ⟨#[]⟩, .string ⟨#[]⟩, .string ⟨#[]⟩, .int .u64 0] 73)
  rw [← hW0] at z0 z1 z2 z3 hb0
  obtain ⟨br, hbr⟩ : ∃ x, x = w.heap.size := ⟨_, rfl⟩
  obtain ⟨bw, hbw⟩ : ∃ x, x = w.heap.size + 1 := ⟨_, rfl⟩
  obtain ⟨bs, hbs⟩ : ∃ x, x = w.heap.size + 1 + 1 := ⟨_, rfl⟩
  obtain ⟨bm, hbm⟩ : ∃ x, x = w.heap.size + 1 + 1 + 1 := ⟨_, rfl⟩
  rw [← hbr] at z0
  rw [← hbw] at z1
  rw [← hbs] at z2
  rw [← hbm] at z3
  have hr0 := hr.later hb0
  have hG := hb.later hb0
  have hA0 := hA.later hb0
  have hw : W0.cell? ⟨bw, 0, none⟩ = some (.slice (some ⟨b, 0, none⟩) n n) := cellh z1 rfl
  have hp : W0.cell? ⟨br, 0, none⟩ = some (.pointer (some ⟨g, 0, none⟩)) := cellh z0 rfl
  have hne : b ≠ bm ∧ bw ≠ bm ∧ br ≠ bm ∧ g ≠ bm := ⟨by omega, by omega, by omega, by omega⟩
  have hBm : B ≤ bm := by omega
  have HBF := Lib.hid (fun V (h : Chg (fun x => x = bm) W0 V) => (hb0.trans (h.below (lo := w.heap.size) (fun x e => by omega) hb0.size) : Below w.heap.size w V))
  have HRC := Lib.hid (fun V (h : Chg (fun x => x = bm) W0 V) => (show RB nV aV V g t ln from h.keep hr0 hne.2.2.2))
  have HGC := Lib.hid (fun V (h : Chg (fun x => x = bm) W0 V) => hG.chg h hBm)
  have HW := Lib.hid hw
  have HRP := Lib.hid hp
  have HNW := Lib.hid hne.2.1
  have HNR := Lib.hid hne.2.2.1
  have HNB := Lib.hid hne.1
  have ZS := Lib.hid z2
  have HNS := Lib.hid (show ¬ bs = bm by omega)
  have IS := is_bad ⟨#[112, 117, 116]⟩ 3 1 hr0 hG hn hn2 hA0 hs (by omega) hw hp z3 hne hBm h0 hh
  rw [show ((3 : Nat) : Int) = 3 from rfl] at IS
  replace IS := Lib.hid IS
  have hlen : n = 4 := by rw [← hn]; exact (isB_true h0).2
  have n3 : (3 : Int) < (n : Int) := by omega
  have HX := Lib.hid (wd_cell hA0 (i := 3) (by omega))
  clear hr hb hn h00 hn2 hA hs hbl hgl hBw z0 z1 z2 z3 hb0 hr0 hG hA0 hw hp hne hBm h0 hh hlen
  go_enter Tryz.func57, Tryz.ntmps57
  go_upto_region 4 with fail
  rw [← hW0]
  rw [← hbm, ← hbs, ← hbw, ← hbr]
  clear hW0 hbm hbs hbw hbr
  go_wp2_with (first
    | (go_at_call 75; ((with_reducible refine IS.out.mono ?_); rintro e v1 ⟨rfl, cc⟩; have CE := Lib.hid cc; clear cc))
    | fail)
  exact ⟨rfl, rfl, HBF.out _ CE.out⟩
set_option maxHeartbeats 2000000 in
set_option maxRecDepth 100000 in
theorem rm_bad1 {B g b n : Nat} {t : ByteArray} {ln : Int} {ws : List ByteArray} {w : World} (hr : RB nV aV w g t ln) (hb : GB B w) (hn : ws.length = n) (h00 : 0 < n) (hn2 : n ≤ 4000000) (hA : ES.Rd w (some ⟨b, 0, none⟩) ws) (hs : ∀ i, (wdA ws i).size ≤ 1000000) (h0 : isB ws ⟨#[112, 117, 116]⟩ 3 = false) (h1 : isB ws ⟨#[100, 101, 108, 101, 116, 101]⟩ 2 = true) (hh : mgH ws = none) :
    Calls Tryz.prog 57 #[.pointer (some ⟨g, 0, none⟩), .slice (some ⟨b, 0, none⟩) n n] w (RN none ln w) := by
  have hbl := rd_lt hA (by omega)
  have hgl := hr.lt
  have hBw := hb.le
  obtain ⟨W0, hW0⟩ : ∃ W0, W0 = ((((w.alloc (.cells #[.pointer (some ⟨g, 0, none⟩)] 64)).alloc (.cells #[.slice (some ⟨b, 0, none⟩) n n] 39)).alloc (.cells #[.int .u8 0, .int .i64 0, .string ⟨#[]⟩, .string ⟨#[]⟩, .string ⟨#[]⟩, .int .u64 0] 73)).alloc (.cells #[.int .u8 0, .int .i64 0, .string ⟨#[]⟩, .string ⟨#[]⟩, .string ⟨#[]⟩, .int .u64 0] 73)) := ⟨_, rfl⟩
  obtain ⟨z0, z1, z2, z3, hb0⟩ := four w (.cells #[.pointer (some ⟨g, 0, none⟩)] 64) (.cells #[.slice (some ⟨b, 0, none⟩) n n] 39) (.cells #[.int .u8 0, .int .i64 0, .string ⟨#[]⟩, .string ⟨#[]⟩, .string ⟨#[]⟩, .int .u64 0] 73) (.cells #[.int .u8 0, .int .i64 0, .string ⟨#[]⟩, .string ⟨#[]⟩, .string ⟨#[]⟩, .int .u64 0] 73)
  rw [← hW0] at z0 z1 z2 z3 hb0
  obtain ⟨br, hbr⟩ : ∃ x, x = w.heap.size := ⟨_, rfl⟩
  obtain ⟨bw, hbw⟩ : ∃ x, x = w.heap.size + 1 := ⟨_, rfl⟩
  obtain ⟨bs, hbs⟩ : ∃ x, x = w.heap.size + 1 + 1 := ⟨_, rfl⟩
  obtain ⟨bm, hbm⟩ : ∃ x, x = w.heap.size + 1 + 1 + 1 := ⟨_, rfl⟩
  rw [← hbr] at z0
  rw [← hbw] at z1
  rw [← hbs] at z2
  rw [← hbm] at z3
  have hr0 := hr.later hb0
  have hG := hb.later hb0
  have hA0 := hA.later hb0
  have hw : W0.cell? ⟨bw, 0, none⟩ = some (.slice (some ⟨b, 0, none⟩) n n) := cellh z1 rfl
  have hp : W0.cell? ⟨br, 0, none⟩ = some (.pointer (some ⟨g, 0, none⟩)) := cellh z0 rfl
  have hne : b ≠ bm ∧ bw ≠ bm ∧ br ≠ bm ∧ g ≠ bm := ⟨by omega, by omega, by omega, by omega⟩
  have hBm : B ≤ bm := by omega
  have HBF := Lib.hid (fun V (h : Chg (fun x => x = bm) W0 V) => (hb0.trans (h.below (lo := w.heap.size) (fun x e => by omega) hb0.size) : Below w.heap.size w V))
  have HRC := Lib.hid (fun V (h : Chg (fun x => x = bm) W0 V) => (show RB nV aV V g t ln from h.keep hr0 hne.2.2.2))
  have HGC := Lib.hid (fun V (h : Chg (fun x => x = bm) W0 V) => hG.chg h hBm)
  have HW := Lib.hid hw
  have HRP := Lib.hid hp
  have HNW := Lib.hid hne.2.1
  have HNR := Lib.hid hne.2.2.1
  have HNB := Lib.hid hne.1
  have ZS := Lib.hid z2
  have HNS := Lib.hid (show ¬ bs = bm by omega)
  have N0 := is_no ⟨#[112, 117, 116]⟩ 3 1 hr0 hG hn hn2 hA0 hs (by omega) hw hp z3 hne hBm h0 h00
  rw [show ((3 : Nat) : Int) = 3 from rfl] at N0
  replace N0 := Lib.hid N0
  have IS := is_bad ⟨#[100, 101, 108, 101, 116, 101]⟩ 2 2 hr0 hG hn hn2 hA0 hs (by omega) hw hp z3 hne hBm h1 hh
  rw [show ((2 : Nat) : Int) = 2 from rfl] at IS
  replace IS := Lib.hid IS
  clear hr hb hn h00 hn2 hA hs hbl hgl hBw z0 z1 z2 z3 hb0 hr0 hG hA0 hw hp hne hBm h0 h1 hh
  go_enter Tryz.func57, Tryz.ntmps57
  go_upto_region 4 with fail
  rw [← hW0]
  rw [← hbm, ← hbs, ← hbw, ← hbr]
  clear hW0 hbm hbs hbw hbr
  go_wp2_with (first
    | (go_at_call 75; ((with_reducible refine N0.out.mono ?_); rintro e w0 ⟨rfl, q0⟩; rw [q0]; clear q0 w0))
    | (go_at_call 75; ((with_reducible refine IS.out.mono ?_); rintro e v1 ⟨rfl, cc⟩; have CE := Lib.hid cc; clear cc))
    | fail)
  exact ⟨rfl, rfl, HBF.out _ CE.out⟩
set_option maxHeartbeats 2000000 in
set_option maxRecDepth 100000 in
theorem rm_bad2 {B g b n : Nat} {t : ByteArray} {ln : Int} {ws : List ByteArray} {w : World} (hr : RB nV aV w g t ln) (hb : GB B w) (hn : ws.length = n) (h00 : 0 < n) (hn2 : n ≤ 4000000) (hA : ES.Rd w (some ⟨b, 0, none⟩) ws) (hs : ∀ i, (wdA ws i).size ≤ 1000000) (h0 : isB ws ⟨#[112, 117, 116]⟩ 3 = false) (h1 : isB ws ⟨#[100, 101, 108, 101, 116, 101]⟩ 2 = false) (h2 : isB ws ⟨#[97, 100, 100]⟩ 3 = true) (hh : mgH ws = none) :
    Calls Tryz.prog 57 #[.pointer (some ⟨g, 0, none⟩), .slice (some ⟨b, 0, none⟩) n n] w (RN none ln w) := by
  have hbl := rd_lt hA (by omega)
  have hgl := hr.lt
  have hBw := hb.le
  obtain ⟨W0, hW0⟩ : ∃ W0, W0 = ((((w.alloc (.cells #[.pointer (some ⟨g, 0, none⟩)] 64)).alloc (.cells #[.slice (some ⟨b, 0, none⟩) n n] 39)).alloc (.cells #[.int .u8 0, .int .i64 0, .string ⟨#[]⟩, .string ⟨#[]⟩, .string ⟨#[]⟩, .int .u64 0] 73)).alloc (.cells #[.int .u8 0, .int .i64 0, .string ⟨#[]⟩, .string ⟨#[]⟩, .string ⟨#[]⟩, .int .u64 0] 73)) := ⟨_, rfl⟩
  obtain ⟨z0, z1, z2, z3, hb0⟩ := four w (.cells #[.pointer (some ⟨g, 0, none⟩)] 64) (.cells #[.slice (some ⟨b, 0, none⟩) n n] 39) (.cells #[.int .u8 0, .int .i64 0, .string ⟨#[]⟩, .string ⟨#[]⟩, .string ⟨#[]⟩, .int .u64 0] 73) (.cells #[.int .u8 0, .int .i64 0, .string ⟨#[]⟩, .string ⟨#[]⟩, .string ⟨#[]⟩, .int .u64 0] 73)
  rw [← hW0] at z0 z1 z2 z3 hb0
  obtain ⟨br, hbr⟩ : ∃ x, x = w.heap.size := ⟨_, rfl⟩
  obtain ⟨bw, hbw⟩ : ∃ x, x = w.heap.size + 1 := ⟨_, rfl⟩
  obtain ⟨bs, hbs⟩ : ∃ x, x = w.heap.size + 1 + 1 := ⟨_, rfl⟩
  obtain ⟨bm, hbm⟩ : ∃ x, x = w.heap.size + 1 + 1 + 1 := ⟨_, rfl⟩
  rw [← hbr] at z0
  rw [← hbw] at z1
  rw [← hbs] at z2
  rw [← hbm] at z3
  have hr0 := hr.later hb0
  have hG := hb.later hb0
  have hA0 := hA.later hb0
  have hw : W0.cell? ⟨bw, 0, none⟩ = some (.slice (some ⟨b, 0, none⟩) n n) := cellh z1 rfl
  have hp : W0.cell? ⟨br, 0, none⟩ = some (.pointer (some ⟨g, 0, none⟩)) := cellh z0 rfl
  have hne : b ≠ bm ∧ bw ≠ bm ∧ br ≠ bm ∧ g ≠ bm := ⟨by omega, by omega, by omega, by omega⟩
  have hBm : B ≤ bm := by omega
  have HBF := Lib.hid (fun V (h : Chg (fun x => x = bm) W0 V) => (hb0.trans (h.below (lo := w.heap.size) (fun x e => by omega) hb0.size) : Below w.heap.size w V))
  have HRC := Lib.hid (fun V (h : Chg (fun x => x = bm) W0 V) => (show RB nV aV V g t ln from h.keep hr0 hne.2.2.2))
  have HGC := Lib.hid (fun V (h : Chg (fun x => x = bm) W0 V) => hG.chg h hBm)
  have HW := Lib.hid hw
  have HRP := Lib.hid hp
  have HNW := Lib.hid hne.2.1
  have HNR := Lib.hid hne.2.2.1
  have HNB := Lib.hid hne.1
  have ZS := Lib.hid z2
  have HNS := Lib.hid (show ¬ bs = bm by omega)
  have N0 := is_no ⟨#[112, 117, 116]⟩ 3 1 hr0 hG hn hn2 hA0 hs (by omega) hw hp z3 hne hBm h0 h00
  rw [show ((3 : Nat) : Int) = 3 from rfl] at N0
  replace N0 := Lib.hid N0
  have N1 := is_no ⟨#[100, 101, 108, 101, 116, 101]⟩ 2 2 hr0 hG hn hn2 hA0 hs (by omega) hw hp z3 hne hBm h1 h00
  rw [show ((2 : Nat) : Int) = 2 from rfl] at N1
  replace N1 := Lib.hid N1
  have IS := is_bad ⟨#[97, 100, 100]⟩ 3 3 hr0 hG hn hn2 hA0 hs (by omega) hw hp z3 hne hBm h2 hh
  rw [show ((3 : Nat) : Int) = 3 from rfl] at IS
  replace IS := Lib.hid IS
  have hlen : n = 4 := by rw [← hn]; exact (isB_true h2).2
  have n3 : (3 : Int) < (n : Int) := by omega
  have HX := Lib.hid (wd_cell hA0 (i := 3) (by omega))
  clear hr hb hn h00 hn2 hA hs hbl hgl hBw z0 z1 z2 z3 hb0 hr0 hG hA0 hw hp hne hBm h0 h1 h2 hh hlen
  go_enter Tryz.func57, Tryz.ntmps57
  go_upto_region 4 with fail
  rw [← hW0]
  rw [← hbm, ← hbs, ← hbw, ← hbr]
  clear hW0 hbm hbs hbw hbr
  go_wp2_with (first
    | (go_at_call 75; ((with_reducible refine N0.out.mono ?_); rintro e w0 ⟨rfl, q0⟩; rw [q0]; clear q0 w0))
    | (go_at_call 75; ((with_reducible refine N1.out.mono ?_); rintro e w0 ⟨rfl, q0⟩; rw [q0]; clear q0 w0))
    | (go_at_call 75; ((with_reducible refine IS.out.mono ?_); rintro e v1 ⟨rfl, cc⟩; have CE := Lib.hid cc; clear cc))
    | fail)
  exact ⟨rfl, rfl, HBF.out _ CE.out⟩
set_option maxHeartbeats 2000000 in
set_option maxRecDepth 100000 in
theorem rm_bad3 {B g b n : Nat} {t : ByteArray} {ln : Int} {ws : List ByteArray} {w : World} (hr : RB nV aV w g t ln) (hb : GB B w) (hn : ws.length = n) (h00 : 0 < n) (hn2 : n ≤ 4000000) (hA : ES.Rd w (some ⟨b, 0, none⟩) ws) (hs : ∀ i, (wdA ws i).size ≤ 1000000) (h0 : isB ws ⟨#[112, 117, 116]⟩ 3 = false) (h1 : isB ws ⟨#[100, 101, 108, 101, 116, 101]⟩ 2 = false) (h2 : isB ws ⟨#[97, 100, 100]⟩ 3 = false) (h3 : isB ws ⟨#[99, 108, 101, 97, 114]⟩ 3 = true) (hh : mgH ws = none) :
    Calls Tryz.prog 57 #[.pointer (some ⟨g, 0, none⟩), .slice (some ⟨b, 0, none⟩) n n] w (RN none ln w) := by
  have hbl := rd_lt hA (by omega)
  have hgl := hr.lt
  have hBw := hb.le
  obtain ⟨W0, hW0⟩ : ∃ W0, W0 = ((((w.alloc (.cells #[.pointer (some ⟨g, 0, none⟩)] 64)).alloc (.cells #[.slice (some ⟨b, 0, none⟩) n n] 39)).alloc (.cells #[.int .u8 0, .int .i64 0, .string ⟨#[]⟩, .string ⟨#[]⟩, .string ⟨#[]⟩, .int .u64 0] 73)).alloc (.cells #[.int .u8 0, .int .i64 0, .string ⟨#[]⟩, .string ⟨#[]⟩, .string ⟨#[]⟩, .int .u64 0] 73)) := ⟨_, rfl⟩
  obtain ⟨z0, z1, z2, z3, hb0⟩ := four w (.cells #[.pointer (some ⟨g, 0, none⟩)] 64) (.cells #[.slice (some ⟨b, 0, none⟩) n n] 39) (.cells #[.int .u8 0, .int .i64 0, .string ⟨#[]⟩, .string ⟨#[]⟩, .string ⟨#[]⟩, .int .u64 0] 73) (.cells #[.int .u8 0, .int .i64 0, .string ⟨#[]⟩, .string ⟨#[]⟩, .string ⟨#[]⟩, .int .u64 0] 73)
  rw [← hW0] at z0 z1 z2 z3 hb0
  obtain ⟨br, hbr⟩ : ∃ x, x = w.heap.size := ⟨_, rfl⟩
  obtain ⟨bw, hbw⟩ : ∃ x, x = w.heap.size + 1 := ⟨_, rfl⟩
  obtain ⟨bs, hbs⟩ : ∃ x, x = w.heap.size + 1 + 1 := ⟨_, rfl⟩
  obtain ⟨bm, hbm⟩ : ∃ x, x = w.heap.size + 1 + 1 + 1 := ⟨_, rfl⟩
  rw [← hbr] at z0
  rw [← hbw] at z1
  rw [← hbs] at z2
  rw [← hbm] at z3
  have hr0 := hr.later hb0
  have hG := hb.later hb0
  have hA0 := hA.later hb0
  have hw : W0.cell? ⟨bw, 0, none⟩ = some (.slice (some ⟨b, 0, none⟩) n n) := cellh z1 rfl
  have hp : W0.cell? ⟨br, 0, none⟩ = some (.pointer (some ⟨g, 0, none⟩)) := cellh z0 rfl
  have hne : b ≠ bm ∧ bw ≠ bm ∧ br ≠ bm ∧ g ≠ bm := ⟨by omega, by omega, by omega, by omega⟩
  have hBm : B ≤ bm := by omega
  have HBF := Lib.hid (fun V (h : Chg (fun x => x = bm) W0 V) => (hb0.trans (h.below (lo := w.heap.size) (fun x e => by omega) hb0.size) : Below w.heap.size w V))
  have HRC := Lib.hid (fun V (h : Chg (fun x => x = bm) W0 V) => (show RB nV aV V g t ln from h.keep hr0 hne.2.2.2))
  have HGC := Lib.hid (fun V (h : Chg (fun x => x = bm) W0 V) => hG.chg h hBm)
  have HW := Lib.hid hw
  have HRP := Lib.hid hp
  have HNW := Lib.hid hne.2.1
  have HNR := Lib.hid hne.2.2.1
  have HNB := Lib.hid hne.1
  have ZS := Lib.hid z2
  have HNS := Lib.hid (show ¬ bs = bm by omega)
  have N0 := is_no ⟨#[112, 117, 116]⟩ 3 1 hr0 hG hn hn2 hA0 hs (by omega) hw hp z3 hne hBm h0 h00
  rw [show ((3 : Nat) : Int) = 3 from rfl] at N0
  replace N0 := Lib.hid N0
  have N1 := is_no ⟨#[100, 101, 108, 101, 116, 101]⟩ 2 2 hr0 hG hn hn2 hA0 hs (by omega) hw hp z3 hne hBm h1 h00
  rw [show ((2 : Nat) : Int) = 2 from rfl] at N1
  replace N1 := Lib.hid N1
  have N2 := is_no ⟨#[97, 100, 100]⟩ 3 3 hr0 hG hn hn2 hA0 hs (by omega) hw hp z3 hne hBm h2 h00
  rw [show ((3 : Nat) : Int) = 3 from rfl] at N2
  replace N2 := Lib.hid N2
  have IS := is_bad ⟨#[99, 108, 101, 97, 114]⟩ 3 4 hr0 hG hn hn2 hA0 hs (by omega) hw hp z3 hne hBm h3 hh
  rw [show ((3 : Nat) : Int) = 3 from rfl] at IS
  replace IS := Lib.hid IS
  have hlen : n = 4 := by rw [← hn]; exact (isB_true h3).2
  have n3 : (3 : Int) < (n : Int) := by omega
  have HX := Lib.hid (wd_cell hA0 (i := 3) (by omega))
  clear hr hb hn h00 hn2 hA hs hbl hgl hBw z0 z1 z2 z3 hb0 hr0 hG hA0 hw hp hne hBm h0 h1 h2 h3 hh hlen
  go_enter Tryz.func57, Tryz.ntmps57
  go_upto_region 4 with fail
  rw [← hW0]
  rw [← hbm, ← hbs, ← hbw, ← hbr]
  clear hW0 hbm hbs hbw hbr
  go_wp2_with (first
    | (go_at_call 75; ((with_reducible refine N0.out.mono ?_); rintro e w0 ⟨rfl, q0⟩; rw [q0]; clear q0 w0))
    | (go_at_call 75; ((with_reducible refine N1.out.mono ?_); rintro e w0 ⟨rfl, q0⟩; rw [q0]; clear q0 w0))
    | (go_at_call 75; ((with_reducible refine N2.out.mono ?_); rintro e w0 ⟨rfl, q0⟩; rw [q0]; clear q0 w0))
    | (go_at_call 75; ((with_reducible refine IS.out.mono ?_); rintro e v1 ⟨rfl, cc⟩; have CE := Lib.hid cc; clear cc))
    | fail)
  exact ⟨rfl, rfl, HBF.out _ CE.out⟩
set_option maxHeartbeats 2000000 in
set_option maxRecDepth 100000 in
theorem rm_none {B g b n : Nat} {t : ByteArray} {ln : Int} {ws : List ByteArray} {w : World} (hr : RB nV aV w g t ln) (hb : GB B w) (hn : ws.length = n) (h00 : 0 < n) (hn2 : n ≤ 4000000) (hA : ES.Rd w (some ⟨b, 0, none⟩) ws) (hs : ∀ i, (wdA ws i).size ≤ 1000000) (h0 : isB ws ⟨#[112, 117, 116]⟩ 3 = false) (h1 : isB ws ⟨#[100, 101, 108, 101, 116, 101]⟩ 2 = false) (h2 : isB ws ⟨#[97, 100, 100]⟩ 3 = false) (h3 : isB ws ⟨#[99, 108, 101, 97, 114]⟩ 3 = false)  :
    Calls Tryz.prog 57 #[.pointer (some ⟨g, 0, none⟩), .slice (some ⟨b, 0, none⟩) n n] w (RN none ln w) := by
  have hbl := rd_lt hA (by omega)
  have hgl := hr.lt
  have hBw := hb.le
  obtain ⟨W0, hW0⟩ : ∃ W0, W0 = ((((w.alloc (.cells #[.pointer (some ⟨g, 0, none⟩)] 64)).alloc (.cells #[.slice (some ⟨b, 0, none⟩) n n] 39)).alloc (.cells #[.int .u8 0, .int .i64 0, .string ⟨#[]⟩, .string ⟨#[]⟩, .string ⟨#[]⟩, .int .u64 0] 73)).alloc (.cells #[.int .u8 0, .int .i64 0, .string ⟨#[]⟩, .string ⟨#[]⟩, .string ⟨#[]⟩, .int .u64 0] 73)) := ⟨_, rfl⟩
  obtain ⟨z0, z1, z2, z3, hb0⟩ := four w (.cells #[.pointer (some ⟨g, 0, none⟩)] 64) (.cells #[.slice (some ⟨b, 0, none⟩) n n] 39) (.cells #[.int .u8 0, .int .i64 0, .string ⟨#[]⟩, .string ⟨#[]⟩, .string ⟨#[]⟩, .int .u64 0] 73) (.cells #[.int .u8 0, .int .i64 0, .string ⟨#[]⟩, .string ⟨#[]⟩, .string ⟨#[]⟩, .int .u64 0] 73)
  rw [← hW0] at z0 z1 z2 z3 hb0
  obtain ⟨br, hbr⟩ : ∃ x, x = w.heap.size := ⟨_, rfl⟩
  obtain ⟨bw, hbw⟩ : ∃ x, x = w.heap.size + 1 := ⟨_, rfl⟩
  obtain ⟨bs, hbs⟩ : ∃ x, x = w.heap.size + 1 + 1 := ⟨_, rfl⟩
  obtain ⟨bm, hbm⟩ : ∃ x, x = w.heap.size + 1 + 1 + 1 := ⟨_, rfl⟩
  rw [← hbr] at z0
  rw [← hbw] at z1
  rw [← hbs] at z2
  rw [← hbm] at z3
  have hr0 := hr.later hb0
  have hG := hb.later hb0
  have hA0 := hA.later hb0
  have hw : W0.cell? ⟨bw, 0, none⟩ = some (.slice (some ⟨b, 0, none⟩) n n) := cellh z1 rfl
  have hp : W0.cell? ⟨br, 0, none⟩ = some (.pointer (some ⟨g, 0, none⟩)) := cellh z0 rfl
  have hne : b ≠ bm ∧ bw ≠ bm ∧ br ≠ bm ∧ g ≠ bm := ⟨by omega, by omega, by omega, by omega⟩
  have hBm : B ≤ bm := by omega
  have HBF := Lib.hid (fun V (h : Chg (fun x => x = bm) W0 V) => (hb0.trans (h.below (lo := w.heap.size) (fun x e => by omega) hb0.size) : Below w.heap.size w V))
  have HRC := Lib.hid (fun V (h : Chg (fun x => x = bm) W0 V) => (show RB nV aV V g t ln from h.keep hr0 hne.2.2.2))
  have HGC := Lib.hid (fun V (h : Chg (fun x => x = bm) W0 V) => hG.chg h hBm)
  have HW := Lib.hid hw
  have HRP := Lib.hid hp
  have HNW := Lib.hid hne.2.1
  have HNR := Lib.hid hne.2.2.1
  have HNB := Lib.hid hne.1
  have ZS := Lib.hid z2
  have HNS := Lib.hid (show ¬ bs = bm by omega)
  have N0 := is_no ⟨#[112, 117, 116]⟩ 3 1 hr0 hG hn hn2 hA0 hs (by omega) hw hp z3 hne hBm h0 h00
  rw [show ((3 : Nat) : Int) = 3 from rfl] at N0
  replace N0 := Lib.hid N0
  have N1 := is_no ⟨#[100, 101, 108, 101, 116, 101]⟩ 2 2 hr0 hG hn hn2 hA0 hs (by omega) hw hp z3 hne hBm h1 h00
  rw [show ((2 : Nat) : Int) = 2 from rfl] at N1
  replace N1 := Lib.hid N1
  have N2 := is_no ⟨#[97, 100, 100]⟩ 3 3 hr0 hG hn hn2 hA0 hs (by omega) hw hp z3 hne hBm h2 h00
  rw [show ((3 : Nat) : Int) = 3 from rfl] at N2
  replace N2 := Lib.hid N2
  have N3 := is_no ⟨#[99, 108, 101, 97, 114]⟩ 3 4 hr0 hG hn hn2 hA0 hs (by omega) hw hp z3 hne hBm h3 h00
  rw [show ((3 : Nat) : Int) = 3 from rfl] at N3
  replace N3 := Lib.hid N3
  clear hr hb hn h00 hn2 hA hs hbl hgl hBw z0 z1 z2 z3 hb0 hr0 hG hA0 hw hp hne hBm h0 h1 h2 h3
  go_enter Tryz.func57, Tryz.ntmps57
  go_upto_region 4 with fail
  rw [← hW0]
  rw [← hbm, ← hbs, ← hbw, ← hbr]
  clear hW0 hbm hbs hbw hbr
  have hp := HRP.out
  go_wp2_with (first
    | (go_at_call 75; ((with_reducible refine N0.out.mono ?_); rintro e w0 ⟨rfl, q0⟩; rw [q0]; clear q0 w0))
    | (go_at_call 75; ((with_reducible refine N1.out.mono ?_); rintro e w0 ⟨rfl, q0⟩; rw [q0]; clear q0 w0))
    | (go_at_call 75; ((with_reducible refine N2.out.mono ?_); rintro e w0 ⟨rfl, q0⟩; rw [q0]; clear q0 w0))
    | (go_at_call 75; ((with_reducible refine N3.out.mono ?_); rintro e w0 ⟨rfl, q0⟩; rw [q0]; clear q0 w0))
    | (go_at_call 51; ((with_reducible refine (check_bad g 3 _ (HRC.out _ (Chg.refl _ W0))).mono ?_); rintro e w4 ⟨rfl, rfl⟩))
    | fail)
  exact ⟨rfl, rfl, HBF.out _ (Chg.refl _ _)⟩
end Go.Proofs.YtdebedeebmmleaaGreatDoor
