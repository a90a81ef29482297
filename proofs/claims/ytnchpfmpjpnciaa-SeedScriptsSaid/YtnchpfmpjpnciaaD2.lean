/- A script that a source made may be played. -/
import Derived.Test.YtnchpfmpjpnciaaD1
namespace Go.Proofs.Ytnchpfmpjpnciaa
set_option linter.unusedSimpArgs false
open Go.RowKit Go.Maps Go.Shelf
set_option linter.unusedVariables false
set_option maxHeartbeats 8000000 in
set_option maxRecDepth 4000 in
theorem scr_check (c2 c3 c4 c5 c6 c7 c8 : Int) (w : World) {D : Nat → Prop} {S0 s : Int} {m n np : Nat} {A P : Option Addr} (c cp : Nat) (hn : 1 ≤ n ∧ n ≤ 64) (hm : m ≤ 100) (h : Scr w D S0 m n s np A P)
    (h2 : 4 ≤ c2 ∧ c2 ≤ 64) (h3 : 0 ≤ c3 ∧ c3 ≤ 1000) (h4 : 4 ≤ c4 ∧ c4 ≤ 256) (h5 : 2 ≤ c5 ∧ c5 ≤ 4) (h6 : 2 ≤ c6 ∧ c6 ≤ 4096) (h7 : 0 ≤ c7 ∧ c7 ≤ 1000) (h8 : 3 ≤ c8 ∧ c8 ≤ 1024) :
    Calls Try.prog 22 #[.agg #[.int .i64 4, .int .i64 16, .int .i64 c2, .int .i64 c3, .int .i64 c4, .int .i64 c5, .int .i64 c6, .int .i64 c7, .int .i64 c8, .slice A n c, .slice P np cp]] w fun e w' => e = .returned (.tuple #[.int .i64 0, .int .i64 0, .int .i64 0]) ∧ Below w.heap.size w w' := by
  have HBV : Hid (Below w.heap.size w (w.alloc (.cells #[.int .i64 4, .int .i64 16, .int .i64 c2, .int .i64 c3, .int .i64 c4, .int .i64 c5, .int .i64 c6, .int .i64 c7, .int .i64 c8, .slice A n c, .slice P np cp] 53))) := Lib.hid (alb _ _)
  have RA : Hid ((w.alloc (.cells #[.int .i64 4, .int .i64 16, .int .i64 c2, .int .i64 c3, .int .i64 c4, .int .i64 c5, .int .i64 c6, .int .i64 c7, .int .i64 c8, .slice A n c, .slice P np cp] 53)).heap[w.heap.size]? = some (.cells #[.int .i64 4, .int .i64 16, .int .i64 c2, .int .i64 c3, .int .i64 c4, .int .i64 c5, .int .i64 c6, .int .i64 c7, .int .i64 c8, .slice A n c, .slice P np cp] 53 (0, 0))) := Lib.hid (heap_alloc_new w _)
  have HA := Lib.hid (h.later HBV.out)
  have CK := Lib.hid (cfg_ok c2 c3 c4 c5 c6 c7 c8 (w.alloc (.cells #[.int .i64 4, .int .i64 16, .int .i64 c2, .int .i64 c3, .int .i64 c4, .int .i64 c5, .int .i64 c6, .int .i64 c7, .int .i64 c8, .slice A n c, .slice P np cp] 53)) h2 h3 h4 h5 h6 h7 (by omega))
  have hc8 := h8.1
  have HC8 := Lib.hid hc8
  have n1 : ¬ (n : Int) < 1 := by omega
  have n2 : ¬ (64 : Int) < (n : Int) := by omega
  clear h h2 h3 h4 h5 h6 h7 h8 hc8
  go_enter Try.func22, Try.ntmps22
  go_wp2_with (first
    | (go_at_call 23; ((with_reducible refine CK.out.mono ?_); rintro e w1 ⟨rfl, b1⟩; have HB0 := Lib.hid b1; have Ra := keep_bel b1 RA.out; have a9 : w1.cell? ⟨w.heap.size, 9, none⟩ = some (.slice A n c) := (cell_of_row _ _ 9 _ 53 (0, 0) Ra).trans rfl; have a10 : w1.cell? ⟨w.heap.size, 10, none⟩ = some (.slice P np cp) := (cell_of_row _ _ 10 _ 53 (0, 0) Ra).trans rfl; clear b1 Ra))
    | fail)
  clear a9 a10
  go_loopw [5, 6, 7] (fun iv _ _ wr => ∃ i : Nat, i ≤ n ∧ iv = .int .i64 i ∧ Below (w.alloc (.cells #[.int .i64 4, .int .i64 16, .int .i64 c2, .int .i64 c3, .int .i64 c4, .int .i64 c5, .int .i64 c6, .int .i64 c7, .int .i64 c8, .slice A n c, .slice P np cp] 53)).heap.size (w.alloc (.cells #[.int .i64 4, .int .i64 16, .int .i64 c2, .int .i64 c3, .int .i64 c4, .int .i64 c5, .int .i64 c6, .int .i64 c7, .int .i64 c8, .slice A n c, .slice P np cp] 53)) wr) (fun i _ _ _ => n - (intOf i).toNat)
  case atStart => exact ⟨0, by omega, rfl, HB0.out⟩
  case round =>
    clear HB0
    obtain ⟨i, hi, rfl, hb2⟩ := hrel
    have HB2 := Lib.hid hb2
    clear hb2
    have Ra := keep_bel (HB2.out) RA.out
    have a0 : wr.cell? ⟨w.heap.size, 0, none⟩ = some (.int .i64 4) := (cell_of_row _ _ 0 _ 53 (0, 0) Ra).trans rfl
    have a1 : wr.cell? ⟨w.heap.size, 1, none⟩ = some (.int .i64 16) := (cell_of_row _ _ 1 _ 53 (0, 0) Ra).trans rfl
    have a2 : wr.cell? ⟨w.heap.size, 2, none⟩ = some (.int .i64 c2) := (cell_of_row _ _ 2 _ 53 (0, 0) Ra).trans rfl
    have a3 : wr.cell? ⟨w.heap.size, 3, none⟩ = some (.int .i64 c3) := (cell_of_row _ _ 3 _ 53 (0, 0) Ra).trans rfl
    have a4 : wr.cell? ⟨w.heap.size, 4, none⟩ = some (.int .i64 c4) := (cell_of_row _ _ 4 _ 53 (0, 0) Ra).trans rfl
    have a5 : wr.cell? ⟨w.heap.size, 5, none⟩ = some (.int .i64 c5) := (cell_of_row _ _ 5 _ 53 (0, 0) Ra).trans rfl
    have a6 : wr.cell? ⟨w.heap.size, 6, none⟩ = some (.int .i64 c6) := (cell_of_row _ _ 6 _ 53 (0, 0) Ra).trans rfl
    have a7 : wr.cell? ⟨w.heap.size, 7, none⟩ = some (.int .i64 c7) := (cell_of_row _ _ 7 _ 53 (0, 0) Ra).trans rfl
    have a8 : wr.cell? ⟨w.heap.size, 8, none⟩ = some (.int .i64 c8) := (cell_of_row _ _ 8 _ 53 (0, 0) Ra).trans rfl
    have a9 : wr.cell? ⟨w.heap.size, 9, none⟩ = some (.slice A n c) := (cell_of_row _ _ 9 _ 53 (0, 0) Ra).trans rfl
    have a10 : wr.cell? ⟨w.heap.size, 10, none⟩ = some (.slice P np cp) := (cell_of_row _ _ 10 _ 53 (0, 0) Ra).trans rfl
    clear Ra
    by_cases h9 : i < n
    · have hi1 : (i : Int) < (n : Int) := by omega
      have hi0 : (0 : Int) ≤ (i : Int) := by omega
      obtain ⟨lo, hlo, hsc, _⟩ := HA.out.later HB2.out
      obtain ⟨ga, Q, cq, lr, rfl, hga, q0, hq, hoc⟩ := ses_cell hlo hsc h9
      have HQ := Lib.hid hq
      have HO := Lib.hid hoc
      have Q0 := Lib.hid q0
      clear hlo hsc hq hoc q0
      go_wp2_with fail
      clear a0 a1 a2 a3 a4 a5 a6 a7 a8 a9 a10
      obtain ⟨W1, hW1⟩ : ∃ W, W = wr := ⟨_, rfl⟩
      rw [← hW1] at HB2 HQ HO Q0 hga ⊢
      clear hW1
      go_loopw [6, 7] (fun iv _ wr2 => ∃ k : Nat, k ≤ m ∧ iv = .int .i64 k ∧ Below W1.heap.size W1 wr2) (fun i _ _ => m - (intOf i).toNat)
      case atStart => exact ⟨0, by omega, rfl, Below.refl _ _⟩
      case round =>
        obtain ⟨k, hk, rfl, hb3⟩ := hrel
        have HB3 := Lib.hid hb3
        have HBW := Lib.hid (HB2.out.trans (hb3.mono HB2.out.size))
        clear hb3
        have Ra := keep_bel (HBW.out) RA.out
        have a0 : wr.cell? ⟨w.heap.size, 0, none⟩ = some (.int .i64 4) := (cell_of_row _ _ 0 _ 53 (0, 0) Ra).trans rfl
        have a1 : wr.cell? ⟨w.heap.size, 1, none⟩ = some (.int .i64 16) := (cell_of_row _ _ 1 _ 53 (0, 0) Ra).trans rfl
        have a2 : wr.cell? ⟨w.heap.size, 2, none⟩ = some (.int .i64 c2) := (cell_of_row _ _ 2 _ 53 (0, 0) Ra).trans rfl
        have a3 : wr.cell? ⟨w.heap.size, 3, none⟩ = some (.int .i64 c3) := (cell_of_row _ _ 3 _ 53 (0, 0) Ra).trans rfl
        have a4 : wr.cell? ⟨w.heap.size, 4, none⟩ = some (.int .i64 c4) := (cell_of_row _ _ 4 _ 53 (0, 0) Ra).trans rfl
        have a5 : wr.cell? ⟨w.heap.size, 5, none⟩ = some (.int .i64 c5) := (cell_of_row _ _ 5 _ 53 (0, 0) Ra).trans rfl
        have a6 : wr.cell? ⟨w.heap.size, 6, none⟩ = some (.int .i64 c6) := (cell_of_row _ _ 6 _ 53 (0, 0) Ra).trans rfl
        have a7 : wr.cell? ⟨w.heap.size, 7, none⟩ = some (.int .i64 c7) := (cell_of_row _ _ 7 _ 53 (0, 0) Ra).trans rfl
        have a8 : wr.cell? ⟨w.heap.size, 8, none⟩ = some (.int .i64 c8) := (cell_of_row _ _ 8 _ 53 (0, 0) Ra).trans rfl
        have a9 : wr.cell? ⟨w.heap.size, 9, none⟩ = some (.slice (some ⟨ga, 0, none⟩) n c) := (cell_of_row _ _ 9 _ 53 (0, 0) Ra).trans rfl
        have a10 : wr.cell? ⟨w.heap.size, 10, none⟩ = some (.slice P np cp) := (cell_of_row _ _ 10 _ 53 (0, 0) Ra).trans rfl
        clear Ra
        have r0 := bel_later HB3.out Q0.out
        by_cases h10 : k < m
        · have hk1 : (k : Int) < (m : Int) := by omega
          have hk0 : (0 : Int) ≤ (k : Int) := by omega
          obtain ⟨gq, B1, cb, rfl, hgq, x0, x1, x2, x3, x4, hb1⟩ := op_cells HQ.out HO.out h10
          have DR := Lib.hid (drew_bel wr)
          have AK := Lib.hid (ask_any c2 c3 c4 c5 c6 c7 c8 wr.drew HC8.out (ost (sst S0 m i) k) B1 cb (hb1.chg (Chg.of_below (D := fun _ => False) (HB3.out.drew)) (fun _ _ h => h) (fun _ h => h)))
          have eO : (ocell (ost (sst S0 m i) k) B1 cb).toArray = #[.int .u8 (oK (ost (sst S0 m i) k)), .string (oY (ost (sst S0 m i) k)), .string ⟨#[]⟩, .int .i64 (oN (ost (sst S0 m i) k)), .slice B1 (oL (ost (sst S0 m i) k)) cb] := rfl
          rw [eO] at AK
          clear eO hb1
          generalize oL (ost (sst S0 m i) k) = xL at *
          generalize oK (ost (sst S0 m i) k) = xK at *
          generalize oY (ost (sst S0 m i) k) = xY at *
          generalize oN (ost (sst S0 m i) k) = xN at *
          have HD3 := Lib.hid (HB3.out.drew)
          have z0 := bel_later HD3.out x0
          have z1 := bel_later HD3.out x1
          have z2 := bel_later HD3.out x2
          have z3 := bel_later HD3.out x3
          have z4 := bel_later HD3.out x4
          have R0 := bel_later DR.out r0
          have A0 := bel_later DR.out a0
          have A1 := bel_later DR.out a1
          have A2 := bel_later DR.out a2
          have A3 := bel_later DR.out a3
          have A4 := bel_later DR.out a4
          have A5 := bel_later DR.out a5
          have A6 := bel_later DR.out a6
          have A7 := bel_later DR.out a7
          have A8 := bel_later DR.out a8
          have A9 := bel_later DR.out a9
          have A10 := bel_later DR.out a10
          clear x0 x1 x2 x3 x4
          go_wp2_with fail
          go_region_with (go_at_call 32; refine AK.out.mono ?_; rintro e w4 ⟨rfl, b4⟩; have HB4 := Lib.hid (HD3.out.trans (b4.mono HD3.out.size)))
          all_goals
            go_wp2_with fail
            exact ⟨⟨k + 1, by omega, by simp, HB4.out⟩, by simp [intOf]; omega⟩
        · have hk1 : ¬ (k : Int) < (m : Int) := by omega
          clear hk h10
          go_wp2_with fail
          exact ⟨⟨i + 1, by omega, by simp, HBW.out⟩, by simp [intOf]; omega⟩
    · have hi1 : ¬ (i : Int) < (n : Int) := by omega
      clear hi h9
      go_wp2_with fail
      go_ret3
      exact ⟨rfl, HBV.out.trans (HB2.out.mono HBV.out.size)⟩
end Go.Proofs.Ytnchpfmpjpnciaa
