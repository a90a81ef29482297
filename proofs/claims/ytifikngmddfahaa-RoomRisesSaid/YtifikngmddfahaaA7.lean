/- The law RoomRises: its walk. -/
import Derived.Test.YtifikngmddfahaaA6
namespace Go.Proofs.Ytifikngmddfahaa
set_option linter.unusedSimpArgs false
open Go.RowKit
set_option linter.unusedVariables false

def gF (a m : Int) : Int := if a < 2147483647 then a + m else a
theorem gF_ge (a m : Int) (h : 0 ≤ m) : a ≤ gF a m := by unfold gF; split <;> omega

/-- The state of the loop: so many of the numbers were raised. -/
def RR (w : World) (k v f b l bl n bu ch : Int) (lf mf : Nat → Int) (i : Nat) (wr : World) : Prop :=
  Box9 wr w.heap.size k v f b l bl n bu ch ∧ (∀ j, j < 4 → wr.cell? ⟨w.heap.size + 1, j, none⟩ = some (.int .i64 (lf j))) ∧ (∀ j, j < 4 → wr.cell? ⟨w.heap.size + 1 + 1, j, none⟩ = some (.int .u16 (mf j))) ∧
  (∀ j, j < 4 → wr.cell? ⟨w.heap.size + 1 + 1 + 1, j, none⟩ = some (.int .i64 (if j < i then gF (lf j) (mf j) else 0))) ∧ (∀ j, j < 4 → wr.frozen? ⟨w.heap.size + 1 + 1 + 1, j, none⟩ = false) ∧ Below w.heap.size w wr

theorem RR_two {w wr : World} {k v f b l bl n bu ch : Int} {lf mf : Nat → Int} {i : Nat} {x y : Int} (h : RR w k v f b l bl n bu ch lf mf i wr) (hi : i < 4) (hy : y = gF (lf i) (mf i)) :
    RR w k v f b l bl n bu ch lf mf (i + 1) (((wr.setCell ⟨w.heap.size + 1 + 1 + 1, i, none⟩ (.int .i64 x)).setCell ⟨w.heap.size + 1 + 1 + 1, i, none⟩ (.int .i64 y)).drew) := by
  obtain ⟨⟨b0, b1, b2, b3, b4, b5, b6, b7, b8⟩, cl, cm, cg, cf, hB⟩ := h
  have c := cg i hi
  refine ⟨⟨?_, ?_, ?_, ?_, ?_, ?_, ?_, ?_, ?_⟩, fun j hj => ?_, fun j hj => ?_, fun j hj => ?_, fun j hj => ?_, ?_⟩
  · simp [go_sem, b0]
  · simp [go_sem, b1]
  · simp [go_sem, b2]
  · simp [go_sem, b3]
  · simp [go_sem, b4]
  · simp [go_sem, b5]
  · simp [go_sem, b6]
  · simp [go_sem, b7]
  · simp [go_sem, b8]
  · simp [go_sem, cl j hj]
  · simp [go_sem, cm j hj]
  · have g := cg j hj
    by_cases q : j = i
    · subst q
      simp [go_sem, c, hy]
    · have q2 : i ≠ j := fun h => q h.symm
      have e : (j < i + 1) = (j < i) := by simp; omega
      simp only [e]
      simp [go_sem, q, q2, g]
  · have g := cf j hj
    simp [go_sem, g]
  · exact ((hB.setCell (p := ⟨w.heap.size + 1 + 1 + 1, i, none⟩) (by simp; omega) _).setCell (p := ⟨w.heap.size + 1 + 1 + 1, i, none⟩) (by simp; omega) _).drew
theorem RR_one {w wr : World} {k v f b l bl n bu ch : Int} {lf mf : Nat → Int} {i : Nat} {y : Int} (h : RR w k v f b l bl n bu ch lf mf i wr) (hi : i < 4) (hy : y = gF (lf i) (mf i)) :
    RR w k v f b l bl n bu ch lf mf (i + 1) (wr.setCell ⟨w.heap.size + 1 + 1 + 1, i, none⟩ (.int .i64 y)) := by
  obtain ⟨⟨b0, b1, b2, b3, b4, b5, b6, b7, b8⟩, cl, cm, cg, cf, hB⟩ := h
  have c := cg i hi
  refine ⟨⟨?_, ?_, ?_, ?_, ?_, ?_, ?_, ?_, ?_⟩, fun j hj => ?_, fun j hj => ?_, fun j hj => ?_, fun j hj => ?_, ?_⟩
  · simp [go_sem, b0]
  · simp [go_sem, b1]
  · simp [go_sem, b2]
  · simp [go_sem, b3]
  · simp [go_sem, b4]
  · simp [go_sem, b5]
  · simp [go_sem, b6]
  · simp [go_sem, b7]
  · simp [go_sem, b8]
  · simp [go_sem, cl j hj]
  · simp [go_sem, cm j hj]
  · have g := cg j hj
    by_cases q : j = i
    · subst q
      simp [go_sem, c, hy]
    · have q2 : i ≠ j := fun h => q h.symm
      have e : (j < i + 1) = (j < i) := by simp; omega
      simp only [e]
      simp [go_sem, q, q2, g]
  · have g := cf j hj
    simp [go_sem, g]
  · exact hB.setCell (p := ⟨w.heap.size + 1 + 1 + 1, i, none⟩) (by simp; omega) _

set_option maxRecDepth 100000 in
set_option maxHeartbeats 4000000 in
theorem rises_walk (k v f b l bl n bu ch l0 l1 l2 l3 m0 m1 m2 m3 : Int) (w : World) (hl : ∀ x ∈ [l0, l1, l2, l3], -9223372036854775808 ≤ x ∧ x ≤ 9223372036854775807) (hm : ∀ x ∈ [m0, m1, m2, m3], 0 ≤ x ∧ x ≤ 65535) :
    Calls Try.prog 4 #[cfg k v f b l bl n bu ch, .agg #[.int .i64 l0, .int .i64 l1, .int .i64 l2, .int .i64 l3], .agg #[.int .u16 m0, .int .u16 m1, .int .u16 m2, .int .u16 m3]] w fun e w' => e = .returned (.bool true) ∧ Below w.heap.size w w' := by
  have hlf : ∀ j, j < 4 → -9223372036854775808 ≤ [l0, l1, l2, l3].getD j 0 ∧ [l0, l1, l2, l3].getD j 0 ≤ 9223372036854775807 := by
    intro j hj
    rcases (by omega : j = 0 ∨ j = 1 ∨ j = 2 ∨ j = 3) with rfl | rfl | rfl | rfl <;> exact hl _ (by simp)
  have hmf : ∀ j, j < 4 → 0 ≤ [m0, m1, m2, m3].getD j 0 ∧ [m0, m1, m2, m3].getD j 0 ≤ 65535 := by
    intro j hj
    rcases (by omega : j = 0 ∨ j = 1 ∨ j = 2 ∨ j = 3) with rfl | rfl | rfl | rfl <;> exact hm _ (by simp)
  obtain ⟨lf, hlf'⟩ : ∃ lf : Nat → Int, lf = fun j => [l0, l1, l2, l3].getD j 0 := ⟨_, rfl⟩
  obtain ⟨mf, hmf'⟩ : ∃ mf : Nat → Int, mf = fun j => [m0, m1, m2, m3].getD j 0 := ⟨_, rfl⟩
  have HL : Hid (∀ j, j < 4 → -9223372036854775808 ≤ lf j ∧ lf j ≤ 9223372036854775807) := Lib.hid (by rw [hlf']; exact hlf)
  have HM : Hid (∀ j, j < 4 → 0 ≤ mf j ∧ mf j ≤ 65535) := Lib.hid (by rw [hmf']; exact hmf)
  have hst : RR w k v f b l bl n bu ch lf mf 0 ((((w.alloc (.cells #[.int .i64 k, .int .i64 v, .int .i64 f, .int .i64 b, .int .i64 l, .int .i64 bl, .int .i64 n, .int .i64 bu, .int .i64 ch] 23)).alloc (.cells #[.int .i64 l0, .int .i64 l1, .int .i64 l2, .int .i64 l3] 33)).alloc (.cells #[.int .u16 m0, .int .u16 m1, .int .u16 m2, .int .u16 m3] 35)).alloc (.cells #[.int .i64 0, .int .i64 0, .int .i64 0, .int .i64 0] 33)) := by
    subst hlf' hmf'
    refine ⟨?_, ?_, ?_, ?_, ?_, by go_grown⟩
    · refine ⟨?_, ?_, ?_, ?_, ?_, ?_, ?_, ?_, ?_⟩ <;> simp [go_sem]
    · intro j hj
      rcases (by omega : j = 0 ∨ j = 1 ∨ j = 2 ∨ j = 3) with rfl | rfl | rfl | rfl <;> simp [go_sem]
    · intro j hj
      rcases (by omega : j = 0 ∨ j = 1 ∨ j = 2 ∨ j = 3) with rfl | rfl | rfl | rfl <;> simp [go_sem]
    · intro j hj
      rcases (by omega : j = 0 ∨ j = 1 ∨ j = 2 ∨ j = 3) with rfl | rfl | rfl | rfl <;> simp [go_sem]
    · intro j hj
      simp [go_sem]
  have HST := Lib.hid hst
  clear hl hm hlf hmf hlf' hmf' hst
  go_enter Try.func4, Try.ntmps4
  go_wp2
  go_loopw [8] (fun iv wr => ∃ i : Nat, i ≤ 4 ∧ iv = .int .i64 i ∧ RR w k v f b l bl n bu ch lf mf i wr) (fun i _ => 4 - (intOf i).toNat)
  case atStart => exact ⟨0, by omega, rfl, HST.out⟩
  case round =>
    obtain ⟨i, hi, rfl, hR⟩ := hrel
    by_cases h8 : i = 4
    · subst h8
      obtain ⟨⟨e0, e1, e2, e3, e4, e5, e6, e7, e8⟩, cl, cm, cg, cf, hB⟩ := hR
      have e9 := cl 0 (by omega)
      have e10 := cl 1 (by omega)
      have e11 := cl 2 (by omega)
      have e12 := cl 3 (by omega)
      have e13 := cg 0 (by omega)
      have e14 := cg 1 (by omega)
      have e15 := cg 2 (by omega)
      have e16 := cg 3 (by omega)
      rw [if_pos (by omega)] at e13 e14 e15 e16
      have i0 := gF_ge (lf 0) (mf 0) (HM.out 0 (by omega)).1
      have i1 := gF_ge (lf 1) (mf 1) (HM.out 1 (by omega)).1
      have i2 := gF_ge (lf 2) (mf 2) (HM.out 2 (by omega)).1
      have i3 := gF_ge (lf 3) (mf 3) (HM.out 3 (by omega)).1
      generalize gF (lf 0) (mf 0) = c0 at *
      generalize gF (lf 1) (mf 1) = c1 at *
      generalize gF (lf 2) (mf 2) = c2 at *
      generalize gF (lf 3) (mf 3) = c3 at *
      generalize lf 0 = a0 at *
      generalize lf 1 = a1 at *
      generalize lf 2 = a2 at *
      generalize lf 3 = a3 at *
      have n1 := need_mono l i0
      have n2 := alone_mono i0
      have n3 := wait_mono bu i1 i2 i3
      have d1 := fun W => need_any k v f b l bl n bu ch a0 W
      have d2 := fun W => need_any k v f b l bl n bu ch c0 W
      have d3 := fun W => alone_any k v f b l bl n bu ch a0 W
      have d4 := fun W => alone_any k v f b l bl n bu ch c0 W
      have d5 := fun W => wait_any k v f b l bl n bu ch a1 a2 a3 W
      have d6 := fun W => wait_any k v f b l bl n bu ch c1 c2 c3 W
      generalize needF l a0 = x1 at *
      generalize needF l c0 = x2 at *
      generalize aloneF a0 = x3 at *
      generalize aloneF c0 = x4 at *
      generalize waitF bu a1 a2 a3 = x5 at *
      generalize waitF bu c1 c2 c3 = x6 at *
      have D1 := Lib.hid d1
      have D2 := Lib.hid d2
      have D3 := Lib.hid d3
      have D4 := Lib.hid d4
      have D5 := Lib.hid d5
      have D6 := Lib.hid d6
      have kp : ∀ W, Below wr.heap.size wr W → (W.cell? ⟨w.heap.size, 0, none⟩ = some (.int .i64 k) ∧ W.cell? ⟨w.heap.size, 1, none⟩ = some (.int .i64 v) ∧ W.cell? ⟨w.heap.size, 2, none⟩ = some (.int .i64 f) ∧ W.cell? ⟨w.heap.size, 3, none⟩ = some (.int .i64 b) ∧ W.cell? ⟨w.heap.size, 4, none⟩ = some (.int .i64 l) ∧ W.cell? ⟨w.heap.size, 5, none⟩ = some (.int .i64 bl) ∧ W.cell? ⟨w.heap.size, 6, none⟩ = some (.int .i64 n) ∧ W.cell? ⟨w.heap.size, 7, none⟩ = some (.int .i64 bu) ∧ W.cell? ⟨w.heap.size, 8, none⟩ = some (.int .i64 ch) ∧ W.cell? ⟨w.heap.size + 1, 0, none⟩ = some (.int .i64 a0) ∧ W.cell? ⟨w.heap.size + 1, 1, none⟩ = some (.int .i64 a1) ∧ W.cell? ⟨w.heap.size + 1, 2, none⟩ = some (.int .i64 a2) ∧ W.cell? ⟨w.heap.size + 1, 3, none⟩ = some (.int .i64 a3) ∧ W.cell? ⟨w.heap.size + 1 + 1 + 1, 0, none⟩ = some (.int .i64 c0) ∧ W.cell? ⟨w.heap.size + 1 + 1 + 1, 1, none⟩ = some (.int .i64 c1) ∧ W.cell? ⟨w.heap.size + 1 + 1 + 1, 2, none⟩ = some (.int .i64 c2) ∧ W.cell? ⟨w.heap.size + 1 + 1 + 1, 3, none⟩ = some (.int .i64 c3)) := fun W h => ⟨bel_later h e0, bel_later h e1, bel_later h e2, bel_later h e3, bel_later h e4, bel_later h e5, bel_later h e6, bel_later h e7, bel_later h e8, bel_later h e9, bel_later h e10, bel_later h e11, bel_later h e12, bel_later h e13, bel_later h e14, bel_later h e15, bel_later h e16⟩
      have KP := Lib.hid kp
      clear cl cm cg cf i0 i1 i2 i3 d1 d2 d3 d4 d5 d6 kp HST HL HM
      go_wp2_with fail
      go_region_held3 (fun W => W.cell? ⟨w.heap.size, 0, none⟩ = some (.int .i64 k) ∧ W.cell? ⟨w.heap.size, 1, none⟩ = some (.int .i64 v) ∧ W.cell? ⟨w.heap.size, 2, none⟩ = some (.int .i64 f) ∧ W.cell? ⟨w.heap.size, 3, none⟩ = some (.int .i64 b) ∧ W.cell? ⟨w.heap.size, 4, none⟩ = some (.int .i64 l) ∧ W.cell? ⟨w.heap.size, 5, none⟩ = some (.int .i64 bl) ∧ W.cell? ⟨w.heap.size, 6, none⟩ = some (.int .i64 n) ∧ W.cell? ⟨w.heap.size, 7, none⟩ = some (.int .i64 bu) ∧ W.cell? ⟨w.heap.size, 8, none⟩ = some (.int .i64 ch) ∧ W.cell? ⟨w.heap.size + 1, 0, none⟩ = some (.int .i64 a0) ∧ W.cell? ⟨w.heap.size + 1, 1, none⟩ = some (.int .i64 a1) ∧ W.cell? ⟨w.heap.size + 1, 2, none⟩ = some (.int .i64 a2) ∧ W.cell? ⟨w.heap.size + 1, 3, none⟩ = some (.int .i64 a3) ∧ W.cell? ⟨w.heap.size + 1 + 1 + 1, 0, none⟩ = some (.int .i64 c0) ∧ W.cell? ⟨w.heap.size + 1 + 1 + 1, 1, none⟩ = some (.int .i64 c1) ∧ W.cell? ⟨w.heap.size + 1 + 1 + 1, 2, none⟩ = some (.int .i64 c2) ∧ W.cell? ⟨w.heap.size + 1 + 1 + 1, 3, none⟩ = some (.int .i64 c3)) (exact KP.out _ (by go_grown))
        (first
          | (go_at_call 6; refine (live_any _).mono ?_; rintro e w1 ⟨rfl, hb⟩; have hbw : Below wr.heap.size wr w1 := Below.trans (by go_grown) (hb.mono (by first | assumption | (simp; done) | omega)); have hbs : wr.heap.size ≤ w1.heap.size := hbw.size)
          | (go_at_call 11; (with_reducible refine (D1.out _).mono ?_); rintro e w1 ⟨rfl, hb⟩; have hbw : Below wr.heap.size wr w1 := Below.trans (by go_grown) (hb.mono (by first | assumption | (simp; done) | omega)); have hbs : wr.heap.size ≤ w1.heap.size := hbw.size)
          | (go_at_call 11; (with_reducible refine (D2.out _).mono ?_); rintro e w1 ⟨rfl, hb⟩; have hbw : Below wr.heap.size wr w1 := Below.trans (by go_grown) (hb.mono (by first | assumption | (simp; done) | omega)); have hbs : wr.heap.size ≤ w1.heap.size := hbw.size)
          | (go_at_call 12; (with_reducible refine (D3.out _).mono ?_); rintro e w1 ⟨rfl, hb⟩; have hbw : Below wr.heap.size wr w1 := Below.trans (by go_grown) (hb.mono (by first | assumption | (simp; done) | omega)); have hbs : wr.heap.size ≤ w1.heap.size := hbw.size)
          | (go_at_call 12; (with_reducible refine (D4.out _).mono ?_); rintro e w1 ⟨rfl, hb⟩; have hbw : Below wr.heap.size wr w1 := Below.trans (by go_grown) (hb.mono (by first | assumption | (simp; done) | omega)); have hbs : wr.heap.size ≤ w1.heap.size := hbw.size)
          | (go_at_call 13; (with_reducible refine (D5.out _).mono ?_); rintro e w1 ⟨rfl, hb⟩; have hbw : Below wr.heap.size wr w1 := Below.trans (by go_grown) (hb.mono (by first | assumption | (simp; done) | omega)); have hbs : wr.heap.size ≤ w1.heap.size := hbw.size)
          | (go_at_call 13; (with_reducible refine (D6.out _).mono ?_); rintro e w1 ⟨rfl, hb⟩; have hbw : Below wr.heap.size wr w1 := Below.trans (by go_grown) (hb.mono (by first | assumption | (simp; done) | omega)); have hbs : wr.heap.size ≤ w1.heap.size := hbw.size))
      all_goals
        go_wp2
        go_ret
        exact ⟨rfl, bel_step hB (by assumption) (Nat.le_refl _)⟩
    · have hi4 : i < 4 := by omega
      have hi1 : (i : Int) < 4 := by omega
      have hi0 : (0 : Int) ≤ (i : Int) := by omega
      have HR := Lib.hid hR
      obtain ⟨B9, cl, cm, cg, cf, hB⟩ := hR
      have x1 := cl i hi4
      have x2 := cm i hi4
      have x3 := cg i hi4
      have x4 := cf i hi4
      rw [if_neg (Nat.lt_irrefl _)] at x3
      obtain ⟨y0, y1⟩ := HL.out i hi4
      obtain ⟨z0, z1⟩ := HM.out i hi4
      obtain ⟨a, ha⟩ : ∃ a, a = lf i := ⟨_, rfl⟩
      obtain ⟨m, hm⟩ : ∃ m, m = mf i := ⟨_, rfl⟩
      rw [← ha] at x1 y0 y1
      rw [← hm] at x2 z0 z1
      have HA := Lib.hid ha
      have HMM := Lib.hid hm
      clear B9 cl cm cg cf ha hm hB
      by_cases q : a < 2147483647
      · go_wp2_with fail
        go_region
        go_wp2
        exact ⟨⟨i + 1, by omega, by simp, RR_two HR.out hi4 (by rw [← HA.out, ← HMM.out]; unfold gF; rw [if_pos q])⟩, by simp [intOf]; omega⟩
      · go_wp2
        exact ⟨⟨i + 1, by omega, by simp, RR_one HR.out hi4 (by rw [← HA.out, ← HMM.out]; unfold gF; rw [if_neg q])⟩, by simp [intOf]; omega⟩
end Go.Proofs.Ytifikngmddfahaa
