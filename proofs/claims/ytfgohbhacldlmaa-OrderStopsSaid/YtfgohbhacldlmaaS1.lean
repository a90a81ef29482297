/- A deed on both: where a key is put, dropped, or keys are cut. -/
import Derived.Test.YtfgohbhacldlmaaS0
import Derived.Test.YtfgohbhacldlmaaH1
import Derived.Deep.RegionHeld3
namespace Go.Proofs.Ytfgohbhacldlmaa
set_option linter.unusedSimpArgs false
open Go.RowKit
set_option linter.unusedVariables false

abbrev StepPost (w : World) (N : Nat) (L' : PL) (e : Ending) (w' : World) : Prop := ∃ A' c', e = .returned (.tuple #[.slice A' L'.length c', .bool true]) ∧ RdP w' A' L' ∧ MapIs w' N L' ∧ w.grownBy w' (some N) ∧ L'.length ≤ c'
theorem rd_box {w w' : World} {b o N : Nat} {v : Value} (h : w.cell? ⟨b, o, none⟩ = some v) (hne : b ≠ N) (hg : w.grownBy w' (some N)) : w'.cell? ⟨b, o, none⟩ = some v :=
  (grown_far hg (World.block_lt_of_cell? w _ h) (by intro e; cases e; exact hne rfl)).trans h
set_option maxHeartbeats 4000000 in
set_option maxRecDepth 100000 in
theorem step0 (N : Nat) (A : Option Addr) (c : Nat) (L : PL) (k t : ByteArray) (nn : Int) (w : World) (hm : MapIs w N L) (hs : Srt ltS L) (hn : L.length ≤ 980) (hr : RdP w A L) :
    Calls Try.prog 10 #[.pointer (some ⟨N, 0, none⟩), .slice A L.length c, .agg #[.int .i64 0, .string k, .string t, .int .i64 nn]] w (StepPost w N (putL ltS k nn L)) := by
  obtain ⟨c0, c1, c2, c3⟩ := d_cells w 0 k t nn
  have hB := bel_alloc (Below.refl w.heap.size w) (dObj 0 k t nn)
  have hNlt := hm.lt
  obtain ⟨gv, bb, hg, hb⟩ := get_two k L
  have GT : Hid (Calls Try.prog 30 #[.slice A L.length c, .string k] (w.alloc (dObj 0 k t nn)) fun e w' => e = .returned (.tuple #[.int .i64 gv, .bool (!bb)]) ∧ (w.alloc (dObj 0 k t nn)) = w') := Lib.hid (by
    have := rget_any A L.length c L k (w.alloc (dObj 0 k t nn)) rfl (by omega) (Rd.later hr hB)
    rw [rget_get, hg] at this; exact this)
  have PU : Hid (∀ W, RdP W A L → Calls Try.prog 31 #[.slice A L.length c, .string k, .int .i64 nn] W (RowPost W (putL ltS k nn L))) := Lib.hid (fun W h => by
    have := rput_any A L.length c L k nn W rfl (by omega) h
    rw [put_eq hs] at this; exact this)
  have MP : Hid (∀ W, MapIs W N L → Calls Try.prog 27 #[.pointer (some ⟨N, 0, none⟩), .string k, .int .i64 nn] W fun e w' => e = .returned (.bool bb) ∧ MapIs w' N (putL ltS k nn L) ∧ W.grownBy w' (some N)) := Lib.hid (fun W h => by
    have := put_any N L k nn W h hs (by omega)
    rw [hb] at this; exact this)
  have HM := Lib.hid (hm.later hB)
  have HR := Lib.hid (Rd.later hr hB)
  have HB := Lib.hid hB
  have HN := Lib.hid hNlt
  clear hm hr hs hg hb hB
  go_enter Try.func10, Try.ntmps10
  go_wp2_with (first | (go_at_call 30; (with_reducible refine GT.out.mono ?_); rintro e w1 ⟨rfl, rfl⟩) | fail)
  have KP : Hid (∀ V, (w.alloc (dObj 0 k t nn)).grownBy V (some N) → V.cell? ⟨w.heap.size, 1, none⟩ = some (.string k) ∧ V.cell? ⟨w.heap.size, 3, none⟩ = some (.int .i64 nn)) := Lib.hid (fun V hV => ⟨rd_box c1 (by omega) hV, rd_box c3 (by omega) hV⟩)
  have hD : Below (w.alloc (dObj 0 k t nn)).heap.size (w.alloc (dObj 0 k t nn)) (w.alloc (dObj 0 k t nn)).drew := bel_dw (Below.refl _ _)
  have G0 := Lib.hid (bel_grown hD (some N))
  have M1 := Lib.hid (HM.out.later hD)
  have R1 := Lib.hid (Rd.later HR.out hD)
  clear GT c0 c1 c2 c3 hNlt hD
  generalize w.alloc (dObj 0 k t nn) = V at *
  go_region_held3 (fun X => X.cell? ⟨w.heap.size, 1, none⟩ = some (.string k) ∧ X.cell? ⟨w.heap.size, 3, none⟩ = some (.int .i64 nn))
    (first | exact KP.out _ G0.out | exact KP.out _ (by assumption))
    (first
      | (go_at_call 31; (with_reducible refine (PU.out _ R1.out).mono ?_); clear PU; rintro e w2 ⟨A2, c2, rfl, r2, b2, l2⟩; have g2 : V.grownBy w2 (some N) := (G0.out.trans (bel_grown b2 (some N))); have M2 := Lib.hid (M1.out.later b2); have R2 := Lib.hid r2; have L2 := Lib.hid l2; clear b2 r2 l2)
      | (go_at_call 27; (with_reducible refine (MP.out _ M2.out).mono ?_); clear MP; rintro e w3 ⟨rfl, m3, g3⟩; have g4 : V.grownBy w3 (some N) := (g2.trans g3); have M3 := Lib.hid m3; have R3 := Lib.hid (MapIs.row M2.out R2.out g3); clear m3 g3))
  have hfin : w.grownBy w3 (some N) := (bel_grown HB.out (some N)).trans g4
  go_wp2_with fail
  cases bb
  all_goals
    refine bodyPost_ret (v := .tuple #[.slice A2 (putL ltS k nn L).length c2, .bool true]) (by simp [results, Try.results10, go_sem]) rfl ⟨A2, c2, rfl, R3.out, M3.out, hfin, L2.out⟩
set_option maxHeartbeats 4000000 in
set_option maxRecDepth 100000 in
theorem step1 (N : Nat) (A : Option Addr) (c : Nat) (L : PL) (k t : ByteArray) (nn : Int) (w : World) (hm : MapIs w N L) (hs : Srt ltS L) (hn : L.length ≤ 980) (hr : RdP w A L) :
    Calls Try.prog 10 #[.pointer (some ⟨N, 0, none⟩), .slice A L.length c, .agg #[.int .i64 1, .string k, .string t, .int .i64 nn]] w (StepPost w N (dropL ltS k L)) := by
  obtain ⟨c0, c1, c2, c3⟩ := d_cells w 1 k t nn
  have hB := bel_alloc (Below.refl w.heap.size w) (dObj 1 k t nn)
  have hNlt := hm.lt
  obtain ⟨gv, bb, hg, hb⟩ := get_two k L
  have GT : Hid (Calls Try.prog 30 #[.slice A L.length c, .string k] (w.alloc (dObj 1 k t nn)) fun e w' => e = .returned (.tuple #[.int .i64 gv, .bool (!bb)]) ∧ (w.alloc (dObj 1 k t nn)) = w') := Lib.hid (by
    have := rget_any A L.length c L k (w.alloc (dObj 1 k t nn)) rfl (by omega) (Rd.later hr hB)
    rw [rget_get, hg] at this; exact this)
  have PU : Hid (∀ W, RdP W A L → Calls Try.prog 32 #[.slice A L.length c, .string k] W (RowPost W (dropL ltS k L))) := Lib.hid (fun W h => by
    have := (rdrop_any A L.length c L k W rfl (by omega) h)
    rw [drop_eq hs] at this; exact this.mono (fun e w' ⟨a, cc, h1, h2, h3, h4, _⟩ => ⟨some a, cc, h1, h2, h3, h4⟩))
  have MP : Hid (∀ W, MapIs W N L → Calls Try.prog 28 #[.pointer (some ⟨N, 0, none⟩), .string k] W fun e w' => e = .returned (.bool (!bb)) ∧ MapIs w' N (dropL ltS k L) ∧ W.grownBy w' (some N)) := Lib.hid (fun W h => by
    have := drop_any N L k W h hs (by omega)
    rw [hb] at this; exact this)
  have HM := Lib.hid (hm.later hB)
  have HR := Lib.hid (Rd.later hr hB)
  have HB := Lib.hid hB
  have HN := Lib.hid hNlt
  clear hm hr hs hg hb hB
  go_enter Try.func10, Try.ntmps10
  go_wp2_with (first | (go_at_call 30; (with_reducible refine GT.out.mono ?_); rintro e w1 ⟨rfl, rfl⟩) | fail)
  have KP : Hid (∀ V, (w.alloc (dObj 1 k t nn)).grownBy V (some N) → V.cell? ⟨w.heap.size, 1, none⟩ = some (.string k) ∧ V.cell? ⟨w.heap.size, 3, none⟩ = some (.int .i64 nn)) := Lib.hid (fun V hV => ⟨rd_box c1 (by omega) hV, rd_box c3 (by omega) hV⟩)
  have hD : Below (w.alloc (dObj 1 k t nn)).heap.size (w.alloc (dObj 1 k t nn)) (w.alloc (dObj 1 k t nn)).drew := bel_dw (Below.refl _ _)
  have G0 := Lib.hid (bel_grown hD (some N))
  have M1 := Lib.hid (HM.out.later hD)
  have R1 := Lib.hid (Rd.later HR.out hD)
  clear GT c0 c1 c2 c3 hNlt hD
  generalize w.alloc (dObj 1 k t nn) = V at *
  go_region_held3 (fun X => X.cell? ⟨w.heap.size, 1, none⟩ = some (.string k) ∧ X.cell? ⟨w.heap.size, 3, none⟩ = some (.int .i64 nn))
    (first | exact KP.out _ G0.out | exact KP.out _ (by assumption))
    (first
      | (go_at_call 32; (with_reducible refine (PU.out _ R1.out).mono ?_); clear PU; rintro e w2 ⟨A2, c2, rfl, r2, b2, l2⟩; have g2 : V.grownBy w2 (some N) := (G0.out.trans (bel_grown b2 (some N))); have M2 := Lib.hid (M1.out.later b2); have R2 := Lib.hid r2; have L2 := Lib.hid l2; clear b2 r2 l2)
      | (go_at_call 28; (with_reducible refine (MP.out _ M2.out).mono ?_); clear MP; rintro e w3 ⟨rfl, m3, g3⟩; have g4 : V.grownBy w3 (some N) := (g2.trans g3); have M3 := Lib.hid m3; have R3 := Lib.hid (MapIs.row M2.out R2.out g3); clear m3 g3))
  have hfin : w.grownBy w3 (some N) := (bel_grown HB.out (some N)).trans g4
  go_wp2_with fail
  cases bb
  all_goals
    refine bodyPost_ret (v := .tuple #[.slice A2 (dropL ltS k L).length c2, .bool true]) (by simp [results, Try.results10, go_sem]) rfl ⟨A2, c2, rfl, R3.out, M3.out, hfin, L2.out⟩
set_option maxHeartbeats 4000000 in
set_option maxRecDepth 100000 in
theorem step2 (N : Nat) (A : Option Addr) (c : Nat) (L : PL) (k t : ByteArray) (nn : Int) (w : World) (hm : MapIs w N L) (hs : Srt ltS L) (hn : L.length ≤ 980) (hr : RdP w A L) :
    Calls Try.prog 10 #[.pointer (some ⟨N, 0, none⟩), .slice A L.length c, .agg #[.int .i64 2, .string k, .string t, .int .i64 nn]] w (StepPost w N (cutD k t L)) := by
  obtain ⟨c0, c1, c2, c3⟩ := d_cells w 2 k t nn
  have hB := bel_alloc (Below.refl w.heap.size w) (dObj 2 k t nn)
  have hNlt := hm.lt
  obtain ⟨gv, bb, hg, hb⟩ := get_two k L
  have GT : Hid (Calls Try.prog 30 #[.slice A L.length c, .string k] (w.alloc (dObj 2 k t nn)) fun e w' => e = .returned (.tuple #[.int .i64 gv, .bool (!bb)]) ∧ (w.alloc (dObj 2 k t nn)) = w') := Lib.hid (by
    have := rget_any A L.length c L k (w.alloc (dObj 2 k t nn)) rfl (by omega) (Rd.later hr hB)
    rw [rget_get, hg] at this; exact this)
  have PU : Hid (∀ W, RdP W A L → Calls Try.prog 33 #[.slice A L.length c, .string k, .string t] W (RowPost W (cutD k t L))) := Lib.hid (fun W h => by
    have := rcut_any A L.length c L k t W rfl (by omega) h
    rw [cut_eq2 hs] at this; exact this.mono (fun e w' ⟨a, cc, h1, h2, h3, h4, _⟩ => ⟨some a, cc, h1, h2, h3, h4⟩))
  have MP : Hid (∀ W, MapIs W N L → Calls Try.prog 29 #[.pointer (some ⟨N, 0, none⟩), .string k, .string t] W fun e w' => e = .returned (.int .i64 ((L.length : Int) - ((cutD k t L).length : Int))) ∧ MapIs w' N (cutD k t L) ∧ W.grownBy w' (some N)) := Lib.hid (fun W h => by
    by_cases hlt : ltS k t = true
    · have := cut_yes N L k t W h hs (by omega) hlt
      unfold cutD; rw [if_pos hlt]; exact this
    · have := cut_no N k t W (by simpa using hlt)
      unfold cutD; rw [if_neg hlt]
      exact this.mono (fun e w' ⟨h1, h2⟩ => ⟨by rw [h1]; simp, h.later h2, bel_grown h2 _⟩))
  have HM := Lib.hid (hm.later hB)
  have HR := Lib.hid (Rd.later hr hB)
  have HB := Lib.hid hB
  have hcl := cutD_len hs k t
  have i1 : (L.length : Int) ≤ 980 := by omega
  have i2 : (0 : Int) ≤ (L.length : Int) := by omega
  have i3 : ((cutD k t L).length : Int) ≤ 980 := by omega
  have i4 : (0 : Int) ≤ ((cutD k t L).length : Int) := by omega
  have KP : Hid (∀ V, Below (w.alloc (dObj 2 k t nn)).heap.size (w.alloc (dObj 2 k t nn)) V → V.cell? ⟨w.heap.size, 1, none⟩ = some (.string k) ∧ V.cell? ⟨w.heap.size, 2, none⟩ = some (.string t)) := Lib.hid (fun V hV => ⟨bel_later hV c1, bel_later hV c2⟩)
  clear hm hr hs hg hb hB hcl
  go_enter Try.func10, Try.ntmps10
  go_wp2_with (first
    | (go_at_call 30; (with_reducible refine GT.out.mono ?_); rintro e w1 ⟨rfl, rfl⟩)
    | (go_at_call 33; (with_reducible refine (PU.out _ HR.out).mono ?_); rintro e w2 ⟨A2, cc2, rfl, r2, b2, l2⟩; obtain ⟨d1, d2⟩ := KP.out _ b2; have G2 := Lib.hid ((bel_grown HB.out (some N)).trans (bel_grown b2 (some N))); have M2 := Lib.hid (HM.out.later b2); have R2 := Lib.hid r2; have L2 := Lib.hid l2; clear b2 r2 l2)
    | (go_at_call 29; (with_reducible refine (MP.out _ M2.out).mono ?_); rintro e w3 ⟨rfl, m3, g3⟩; have G3 := Lib.hid (G2.out.trans g3); have M3 := Lib.hid m3; have R3 := Lib.hid (MapIs.row M2.out R2.out g3); clear m3 g3)
    | fail)
  refine bodyPost_ret (v := .tuple #[.slice A2 (cutD k t L).length cc2, .bool true]) (by simp [results, Try.results10, go_sem]) rfl ⟨A2, cc2, rfl, R3.out, M3.out, G3.out, L2.out⟩
end Go.Proofs.Ytfgohbhacldlmaa
