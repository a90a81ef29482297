/- What may be asked: a message. -/
import Derived.Test.YtdebedeebmmleaaGreatDoorTc02
set_option linter.unusedVariables false
set_option linter.unusedSimpArgs false
namespace Go.Proofs.YtdebedeebmmleaaGreatDoor
open Go.RowKit

set_option maxRecDepth 100000 in
set_option maxHeartbeats 2000000 in
theorem mchk_2t (q dl a0 a1 a2 a3 a4 a5 a6 a7 a8 : Int) (key too val : ByteArray) (w : World)  (hT : ¬ too.toList = []) :
    Calls Tryz.prog 81 #[.agg #[.int .u8 2, .int .i64 q, .string key, .string too, .string val, .int .u64 dl], cfg a0 a1 a2 a3 a4 a5 a6 a7 a8] w fun e w' => e = .returned (.int .i64 (3)) ∧ Below w.heap.size w w' := by
  have C := Lib.hid (fun w => mpure_o 2 q dl key too val w (by omega) (by omega) (by omega))
  go_enter Tryz.func81, Tryz.ntmps81
  go_wp2_with fail
  obtain ⟨W, hWW⟩ : ∃ W, W = (w.alloc (.cells #[.int .u8 2, .int .i64 q, .string key, .string too, .string val, .int .u64 dl] 73)).alloc (.cells #[.int .i64 a0, .int .i64 a1, .int .i64 a2, .int .i64 a3, .int .i64 a4, .int .i64 a5, .int .i64 a6, .int .i64 a7, .int .i64 a8] 115) := ⟨_, rfl⟩
  have e0 : W.cell? ⟨w.heap.size, 0, none⟩ = some (.int .u8 2) := by rw [hWW]; simp [go_sem]
  have e1 : W.cell? ⟨w.heap.size, 1, none⟩ = some (.int .i64 q) := by rw [hWW]; simp [go_sem]
  have e2 : W.cell? ⟨w.heap.size, 2, none⟩ = some (.string key) := by rw [hWW]; simp [go_sem]
  have e3 : W.cell? ⟨w.heap.size, 3, none⟩ = some (.string too) := by rw [hWW]; simp [go_sem]
  have e4 : W.cell? ⟨w.heap.size, 4, none⟩ = some (.string val) := by rw [hWW]; simp [go_sem]
  have e5 : W.cell? ⟨w.heap.size, 5, none⟩ = some (.int .u64 dl) := by rw [hWW]; simp [go_sem]
  have e6 : W.cell? ⟨w.heap.size + 1, 0, none⟩ = some (.int .i64 a0) := by rw [hWW]; simp [go_sem]
  have e7 : W.cell? ⟨w.heap.size + 1, 1, none⟩ = some (.int .i64 a1) := by rw [hWW]; simp [go_sem]
  have hW : Below w.heap.size w W := by rw [hWW]; go_grown
  have hS : w.heap.size ≤ W.heap.size := hW.size
  rw [← hWW]
  clear hWW
  go_region_with (go_at_call 98; (with_reducible refine (C.out _).mono ?_); rintro e w1 ⟨rfl, hb⟩; have d0 : w1.cell? ⟨w.heap.size, 0, none⟩ = some (.int .u8 2) := (by first | exact bel_later hb e0 | exact bel_later (bel_dr hb) e0); have d1 : w1.cell? ⟨w.heap.size, 1, none⟩ = some (.int .i64 q) := (by first | exact bel_later hb e1 | exact bel_later (bel_dr hb) e1); have d2 : w1.cell? ⟨w.heap.size, 2, none⟩ = some (.string key) := (by first | exact bel_later hb e2 | exact bel_later (bel_dr hb) e2); have d3 : w1.cell? ⟨w.heap.size, 3, none⟩ = some (.string too) := (by first | exact bel_later hb e3 | exact bel_later (bel_dr hb) e3); have d4 : w1.cell? ⟨w.heap.size, 4, none⟩ = some (.string val) := (by first | exact bel_later hb e4 | exact bel_later (bel_dr hb) e4); have d5 : w1.cell? ⟨w.heap.size, 5, none⟩ = some (.int .u64 dl) := (by first | exact bel_later hb e5 | exact bel_later (bel_dr hb) e5); have d6 : w1.cell? ⟨w.heap.size + 1, 0, none⟩ = some (.int .i64 a0) := (by first | exact bel_later hb e6 | exact bel_later (bel_dr hb) e6); have d7 : w1.cell? ⟨w.heap.size + 1, 1, none⟩ = some (.int .i64 a1) := (by first | exact bel_later hb e7 | exact bel_later (bel_dr hb) e7); have hw1 : Below w.heap.size w w1 := (by first | exact hW.trans (hb.mono hS) | exact hW.trans ((bel_dr hb).mono hS)); clear hb)
  all_goals
    go_wp2
    go_ret
    exact ⟨rfl, by first | exact hw1 | exact bel_step hw1 (by assumption) (Nat.le_refl _) | go_grown⟩
set_option maxRecDepth 100000 in
set_option maxHeartbeats 2000000 in
theorem mchk_2v (q dl a0 a1 a2 a3 a4 a5 a6 a7 a8 : Int) (key too val : ByteArray) (w : World)  (hT : too.toList = []) (hV : ¬ val.toList = []) :
    Calls Tryz.prog 81 #[.agg #[.int .u8 2, .int .i64 q, .string key, .string too, .string val, .int .u64 dl], cfg a0 a1 a2 a3 a4 a5 a6 a7 a8] w fun e w' => e = .returned (.int .i64 (3)) ∧ Below w.heap.size w w' := by
  have C := Lib.hid (fun w => mpure_o 2 q dl key too val w (by omega) (by omega) (by omega))
  go_enter Tryz.func81, Tryz.ntmps81
  go_wp2_with fail
  obtain ⟨W, hWW⟩ : ∃ W, W = (w.alloc (.cells #[.int .u8 2, .int .i64 q, .string key, .string too, .string val, .int .u64 dl] 73)).alloc (.cells #[.int .i64 a0, .int .i64 a1, .int .i64 a2, .int .i64 a3, .int .i64 a4, .int .i64 a5, .int .i64 a6, .int .i64 a7, .int .i64 a8] 115) := ⟨_, rfl⟩
  have e0 : W.cell? ⟨w.heap.size, 0, none⟩ = some (.int .u8 2) := by rw [hWW]; simp [go_sem]
  have e1 : W.cell? ⟨w.heap.size, 1, none⟩ = some (.int .i64 q) := by rw [hWW]; simp [go_sem]
  have e2 : W.cell? ⟨w.heap.size, 2, none⟩ = some (.string key) := by rw [hWW]; simp [go_sem]
  have e3 : W.cell? ⟨w.heap.size, 3, none⟩ = some (.string too) := by rw [hWW]; simp [go_sem]
  have e4 : W.cell? ⟨w.heap.size, 4, none⟩ = some (.string val) := by rw [hWW]; simp [go_sem]
  have e5 : W.cell? ⟨w.heap.size, 5, none⟩ = some (.int .u64 dl) := by rw [hWW]; simp [go_sem]
  have e6 : W.cell? ⟨w.heap.size + 1, 0, none⟩ = some (.int .i64 a0) := by rw [hWW]; simp [go_sem]
  have e7 : W.cell? ⟨w.heap.size + 1, 1, none⟩ = some (.int .i64 a1) := by rw [hWW]; simp [go_sem]
  have hW : Below w.heap.size w W := by rw [hWW]; go_grown
  have hS : w.heap.size ≤ W.heap.size := hW.size
  rw [← hWW]
  clear hWW
  go_region_with (go_at_call 98; (with_reducible refine (C.out _).mono ?_); rintro e w1 ⟨rfl, hb⟩; have d0 : w1.cell? ⟨w.heap.size, 0, none⟩ = some (.int .u8 2) := (by first | exact bel_later hb e0 | exact bel_later (bel_dr hb) e0); have d1 : w1.cell? ⟨w.heap.size, 1, none⟩ = some (.int .i64 q) := (by first | exact bel_later hb e1 | exact bel_later (bel_dr hb) e1); have d2 : w1.cell? ⟨w.heap.size, 2, none⟩ = some (.string key) := (by first | exact bel_later hb e2 | exact bel_later (bel_dr hb) e2); have d3 : w1.cell? ⟨w.heap.size, 3, none⟩ = some (.string too) := (by first | exact bel_later hb e3 | exact bel_later (bel_dr hb) e3); have d4 : w1.cell? ⟨w.heap.size, 4, none⟩ = some (.string val) := (by first | exact bel_later hb e4 | exact bel_later (bel_dr hb) e4); have d5 : w1.cell? ⟨w.heap.size, 5, none⟩ = some (.int .u64 dl) := (by first | exact bel_later hb e5 | exact bel_later (bel_dr hb) e5); have d6 : w1.cell? ⟨w.heap.size + 1, 0, none⟩ = some (.int .i64 a0) := (by first | exact bel_later hb e6 | exact bel_later (bel_dr hb) e6); have d7 : w1.cell? ⟨w.heap.size + 1, 1, none⟩ = some (.int .i64 a1) := (by first | exact bel_later hb e7 | exact bel_later (bel_dr hb) e7); have hw1 : Below w.heap.size w w1 := (by first | exact hW.trans (hb.mono hS) | exact hW.trans ((bel_dr hb).mono hS)); clear hb)
  all_goals
    go_wp2
    go_ret
    exact ⟨rfl, by first | exact hw1 | exact bel_step hw1 (by assumption) (Nat.le_refl _) | go_grown⟩
set_option maxRecDepth 100000 in
set_option maxHeartbeats 2000000 in
theorem mchk_2d (q dl a0 a1 a2 a3 a4 a5 a6 a7 a8 : Int) (key too val : ByteArray) (w : World)  (hT : too.toList = []) (hV : val.toList = []) (hD : ¬ dl = 0) :
    Calls Tryz.prog 81 #[.agg #[.int .u8 2, .int .i64 q, .string key, .string too, .string val, .int .u64 dl], cfg a0 a1 a2 a3 a4 a5 a6 a7 a8] w fun e w' => e = .returned (.int .i64 (3)) ∧ Below w.heap.size w w' := by
  have C := Lib.hid (fun w => mpure_o 2 q dl key too val w (by omega) (by omega) (by omega))
  go_enter Tryz.func81, Tryz.ntmps81
  go_wp2_with fail
  obtain ⟨W, hWW⟩ : ∃ W, W = (w.alloc (.cells #[.int .u8 2, .int .i64 q, .string key, .string too, .string val, .int .u64 dl] 73)).alloc (.cells #[.int .i64 a0, .int .i64 a1, .int .i64 a2, .int .i64 a3, .int .i64 a4, .int .i64 a5, .int .i64 a6, .int .i64 a7, .int .i64 a8] 115) := ⟨_, rfl⟩
  have e0 : W.cell? ⟨w.heap.size, 0, none⟩ = some (.int .u8 2) := by rw [hWW]; simp [go_sem]
  have e1 : W.cell? ⟨w.heap.size, 1, none⟩ = some (.int .i64 q) := by rw [hWW]; simp [go_sem]
  have e2 : W.cell? ⟨w.heap.size, 2, none⟩ = some (.string key) := by rw [hWW]; simp [go_sem]
  have e3 : W.cell? ⟨w.heap.size, 3, none⟩ = some (.string too) := by rw [hWW]; simp [go_sem]
  have e4 : W.cell? ⟨w.heap.size, 4, none⟩ = some (.string val) := by rw [hWW]; simp [go_sem]
  have e5 : W.cell? ⟨w.heap.size, 5, none⟩ = some (.int .u64 dl) := by rw [hWW]; simp [go_sem]
  have e6 : W.cell? ⟨w.heap.size + 1, 0, none⟩ = some (.int .i64 a0) := by rw [hWW]; simp [go_sem]
  have e7 : W.cell? ⟨w.heap.size + 1, 1, none⟩ = some (.int .i64 a1) := by rw [hWW]; simp [go_sem]
  have hW : Below w.heap.size w W := by rw [hWW]; go_grown
  have hS : w.heap.size ≤ W.heap.size := hW.size
  rw [← hWW]
  clear hWW
  go_region_with (go_at_call 98; (with_reducible refine (C.out _).mono ?_); rintro e w1 ⟨rfl, hb⟩; have d0 : w1.cell? ⟨w.heap.size, 0, none⟩ = some (.int .u8 2) := (by first | exact bel_later hb e0 | exact bel_later (bel_dr hb) e0); have d1 : w1.cell? ⟨w.heap.size, 1, none⟩ = some (.int .i64 q) := (by first | exact bel_later hb e1 | exact bel_later (bel_dr hb) e1); have d2 : w1.cell? ⟨w.heap.size, 2, none⟩ = some (.string key) := (by first | exact bel_later hb e2 | exact bel_later (bel_dr hb) e2); have d3 : w1.cell? ⟨w.heap.size, 3, none⟩ = some (.string too) := (by first | exact bel_later hb e3 | exact bel_later (bel_dr hb) e3); have d4 : w1.cell? ⟨w.heap.size, 4, none⟩ = some (.string val) := (by first | exact bel_later hb e4 | exact bel_later (bel_dr hb) e4); have d5 : w1.cell? ⟨w.heap.size, 5, none⟩ = some (.int .u64 dl) := (by first | exact bel_later hb e5 | exact bel_later (bel_dr hb) e5); have d6 : w1.cell? ⟨w.heap.size + 1, 0, none⟩ = some (.int .i64 a0) := (by first | exact bel_later hb e6 | exact bel_later (bel_dr hb) e6); have d7 : w1.cell? ⟨w.heap.size + 1, 1, none⟩ = some (.int .i64 a1) := (by first | exact bel_later hb e7 | exact bel_later (bel_dr hb) e7); have hw1 : Below w.heap.size w w1 := (by first | exact hW.trans (hb.mono hS) | exact hW.trans ((bel_dr hb).mono hS)); clear hb)
  all_goals
    go_wp2
    go_ret
    exact ⟨rfl, by first | exact hw1 | exact bel_step hw1 (by assumption) (Nat.le_refl _) | go_grown⟩
set_option maxRecDepth 100000 in
set_option maxHeartbeats 2000000 in
theorem mchk_2g (q a0 a1 a2 a3 a4 a5 a6 a7 a8 : Int) (key too val : ByteArray) (w : World)  (hT : too.toList = []) (hV : val.toList = []) (hR : rightS key a0 = true) :
    Calls Tryz.prog 81 #[.agg #[.int .u8 2, .int .i64 q, .string key, .string too, .string val, .int .u64 0], cfg a0 a1 a2 a3 a4 a5 a6 a7 a8] w fun e w' => e = .returned (.int .i64 (0)) ∧ Below w.heap.size w w' := by
  have C := Lib.hid (fun w => mpure_o 2 q 0 key too val w (by omega) (by omega) (by omega))
  have R := fun W => right_any key a0 W
  simp only [hR] at R
  have RR := Lib.hid R
  clear R
  go_enter Tryz.func81, Tryz.ntmps81
  go_wp2_with fail
  obtain ⟨W, hWW⟩ : ∃ W, W = (w.alloc (.cells #[.int .u8 2, .int .i64 q, .string key, .string too, .string val, .int .u64 0] 73)).alloc (.cells #[.int .i64 a0, .int .i64 a1, .int .i64 a2, .int .i64 a3, .int .i64 a4, .int .i64 a5, .int .i64 a6, .int .i64 a7, .int .i64 a8] 115) := ⟨_, rfl⟩
  have e0 : W.cell? ⟨w.heap.size, 0, none⟩ = some (.int .u8 2) := by rw [hWW]; simp [go_sem]
  have e1 : W.cell? ⟨w.heap.size, 1, none⟩ = some (.int .i64 q) := by rw [hWW]; simp [go_sem]
  have e2 : W.cell? ⟨w.heap.size, 2, none⟩ = some (.string key) := by rw [hWW]; simp [go_sem]
  have e3 : W.cell? ⟨w.heap.size, 3, none⟩ = some (.string too) := by rw [hWW]; simp [go_sem]
  have e4 : W.cell? ⟨w.heap.size, 4, none⟩ = some (.string val) := by rw [hWW]; simp [go_sem]
  have e5 : W.cell? ⟨w.heap.size, 5, none⟩ = some (.int .u64 0) := by rw [hWW]; simp [go_sem]
  have e6 : W.cell? ⟨w.heap.size + 1, 0, none⟩ = some (.int .i64 a0) := by rw [hWW]; simp [go_sem]
  have e7 : W.cell? ⟨w.heap.size + 1, 1, none⟩ = some (.int .i64 a1) := by rw [hWW]; simp [go_sem]
  have hW : Below w.heap.size w W := by rw [hWW]; go_grown
  have hS : w.heap.size ≤ W.heap.size := hW.size
  rw [← hWW]
  clear hWW
  go_region_with (go_at_call 98; (with_reducible refine (C.out _).mono ?_); rintro e w1 ⟨rfl, hb⟩; have d0 : w1.cell? ⟨w.heap.size, 0, none⟩ = some (.int .u8 2) := (by first | exact bel_later hb e0 | exact bel_later (bel_dr hb) e0); have d1 : w1.cell? ⟨w.heap.size, 1, none⟩ = some (.int .i64 q) := (by first | exact bel_later hb e1 | exact bel_later (bel_dr hb) e1); have d2 : w1.cell? ⟨w.heap.size, 2, none⟩ = some (.string key) := (by first | exact bel_later hb e2 | exact bel_later (bel_dr hb) e2); have d3 : w1.cell? ⟨w.heap.size, 3, none⟩ = some (.string too) := (by first | exact bel_later hb e3 | exact bel_later (bel_dr hb) e3); have d4 : w1.cell? ⟨w.heap.size, 4, none⟩ = some (.string val) := (by first | exact bel_later hb e4 | exact bel_later (bel_dr hb) e4); have d5 : w1.cell? ⟨w.heap.size, 5, none⟩ = some (.int .u64 0) := (by first | exact bel_later hb e5 | exact bel_later (bel_dr hb) e5); have d6 : w1.cell? ⟨w.heap.size + 1, 0, none⟩ = some (.int .i64 a0) := (by first | exact bel_later hb e6 | exact bel_later (bel_dr hb) e6); have d7 : w1.cell? ⟨w.heap.size + 1, 1, none⟩ = some (.int .i64 a1) := (by first | exact bel_later hb e7 | exact bel_later (bel_dr hb) e7); have hw1 : Below w.heap.size w w1 := (by first | exact hW.trans (hb.mono hS) | exact hW.trans ((bel_dr hb).mono hS)); clear hb)
  all_goals go_wp2_with fail
  all_goals
    refine (RR.out _).mono ?_
    rintro e w2 ⟨rfl, rfl⟩
    go_wp2
    go_ret
    exact ⟨rfl, by first | exact hw1 | exact bel_step hw1 (by assumption) (Nat.le_refl _) | go_grown⟩
set_option maxRecDepth 100000 in
set_option maxHeartbeats 2000000 in
theorem mchk_2b (q a0 a1 a2 a3 a4 a5 a6 a7 a8 : Int) (key too val : ByteArray) (w : World)  (hT : too.toList = []) (hV : val.toList = []) (hR : rightS key a0 = false) :
    Calls Tryz.prog 81 #[.agg #[.int .u8 2, .int .i64 q, .string key, .string too, .string val, .int .u64 0], cfg a0 a1 a2 a3 a4 a5 a6 a7 a8] w fun e w' => e = .returned (.int .i64 (6)) ∧ Below w.heap.size w w' := by
  have C := Lib.hid (fun w => mpure_o 2 q 0 key too val w (by omega) (by omega) (by omega))
  have R := fun W => right_any key a0 W
  simp only [hR] at R
  have RR := Lib.hid R
  clear R
  go_enter Tryz.func81, Tryz.ntmps81
  go_wp2_with fail
  obtain ⟨W, hWW⟩ : ∃ W, W = (w.alloc (.cells #[.int .u8 2, .int .i64 q, .string key, .string too, .string val, .int .u64 0] 73)).alloc (.cells #[.int .i64 a0, .int .i64 a1, .int .i64 a2, .int .i64 a3, .int .i64 a4, .int .i64 a5, .int .i64 a6, .int .i64 a7, .int .i64 a8] 115) := ⟨_, rfl⟩
  have e0 : W.cell? ⟨w.heap.size, 0, none⟩ = some (.int .u8 2) := by rw [hWW]; simp [go_sem]
  have e1 : W.cell? ⟨w.heap.size, 1, none⟩ = some (.int .i64 q) := by rw [hWW]; simp [go_sem]
  have e2 : W.cell? ⟨w.heap.size, 2, none⟩ = some (.string key) := by rw [hWW]; simp [go_sem]
  have e3 : W.cell? ⟨w.heap.size, 3, none⟩ = some (.string too) := by rw [hWW]; simp [go_sem]
  have e4 : W.cell? ⟨w.heap.size, 4, none⟩ = some (.string val) := by rw [hWW]; simp [go_sem]
  have e5 : W.cell? ⟨w.heap.size, 5, none⟩ = some (.int .u64 0) := by rw [hWW]; simp [go_sem]
  have e6 : W.cell? ⟨w.heap.size + 1, 0, none⟩ = some (.int .i64 a0) := by rw [hWW]; simp [go_sem]
  have e7 : W.cell? ⟨w.heap.size + 1, 1, none⟩ = some (.int .i64 a1) := by rw [hWW]; simp [go_sem]
  have hW : Below w.heap.size w W := by rw [hWW]; go_grown
  have hS : w.heap.size ≤ W.heap.size := hW.size
  rw [← hWW]
  clear hWW
  go_region_with (go_at_call 98; (with_reducible refine (C.out _).mono ?_); rintro e w1 ⟨rfl, hb⟩; have d0 : w1.cell? ⟨w.heap.size, 0, none⟩ = some (.int .u8 2) := (by first | exact bel_later hb e0 | exact bel_later (bel_dr hb) e0); have d1 : w1.cell? ⟨w.heap.size, 1, none⟩ = some (.int .i64 q) := (by first | exact bel_later hb e1 | exact bel_later (bel_dr hb) e1); have d2 : w1.cell? ⟨w.heap.size, 2, none⟩ = some (.string key) := (by first | exact bel_later hb e2 | exact bel_later (bel_dr hb) e2); have d3 : w1.cell? ⟨w.heap.size, 3, none⟩ = some (.string too) := (by first | exact bel_later hb e3 | exact bel_later (bel_dr hb) e3); have d4 : w1.cell? ⟨w.heap.size, 4, none⟩ = some (.string val) := (by first | exact bel_later hb e4 | exact bel_later (bel_dr hb) e4); have d5 : w1.cell? ⟨w.heap.size, 5, none⟩ = some (.int .u64 0) := (by first | exact bel_later hb e5 | exact bel_later (bel_dr hb) e5); have d6 : w1.cell? ⟨w.heap.size + 1, 0, none⟩ = some (.int .i64 a0) := (by first | exact bel_later hb e6 | exact bel_later (bel_dr hb) e6); have d7 : w1.cell? ⟨w.heap.size + 1, 1, none⟩ = some (.int .i64 a1) := (by first | exact bel_later hb e7 | exact bel_later (bel_dr hb) e7); have hw1 : Below w.heap.size w w1 := (by first | exact hW.trans (hb.mono hS) | exact hW.trans ((bel_dr hb).mono hS)); clear hb)
  all_goals go_wp2_with fail
  all_goals
    refine (RR.out _).mono ?_
    rintro e w2 ⟨rfl, rfl⟩
    go_wp2
    go_ret
    exact ⟨rfl, by first | exact hw1 | exact bel_step hw1 (by assumption) (Nat.le_refl _) | go_grown⟩
set_option maxRecDepth 100000 in
set_option maxHeartbeats 2000000 in
theorem mchk_ot (k q dl a0 a1 a2 a3 a4 a5 a6 a7 a8 : Int) (key too val : ByteArray) (w : World) (h1 : k ≠ 1) (h2 : k ≠ 2) (h3 : k ≠ 3) (h4 : k ≠ 4) (hT : ¬ too.toList = []) :
    Calls Tryz.prog 81 #[.agg #[.int .u8 k, .int .i64 q, .string key, .string too, .string val, .int .u64 dl], cfg a0 a1 a2 a3 a4 a5 a6 a7 a8] w fun e w' => e = .returned (.int .i64 (3)) ∧ Below w.heap.size w w' := by
  have C := Lib.hid (fun w => mpure_o k q dl key too val w (by omega) (by omega) (by omega))
  go_enter Tryz.func81, Tryz.ntmps81
  go_wp2_with fail
  obtain ⟨W, hWW⟩ : ∃ W, W = (w.alloc (.cells #[.int .u8 k, .int .i64 q, .string key, .string too, .string val, .int .u64 dl] 73)).alloc (.cells #[.int .i64 a0, .int .i64 a1, .int .i64 a2, .int .i64 a3, .int .i64 a4, .int .i64 a5, .int .i64 a6, .int .i64 a7, .int .i64 a8] 115) := ⟨_, rfl⟩
  have e0 : W.cell? ⟨w.heap.size, 0, none⟩ = some (.int .u8 k) := by rw [hWW]; simp [go_sem]
  have e1 : W.cell? ⟨w.heap.size, 1, none⟩ = some (.int .i64 q) := by rw [hWW]; simp [go_sem]
  have e2 : W.cell? ⟨w.heap.size, 2, none⟩ = some (.string key) := by rw [hWW]; simp [go_sem]
  have e3 : W.cell? ⟨w.heap.size, 3, none⟩ = some (.string too) := by rw [hWW]; simp [go_sem]
  have e4 : W.cell? ⟨w.heap.size, 4, none⟩ = some (.string val) := by rw [hWW]; simp [go_sem]
  have e5 : W.cell? ⟨w.heap.size, 5, none⟩ = some (.int .u64 dl) := by rw [hWW]; simp [go_sem]
  have e6 : W.cell? ⟨w.heap.size + 1, 0, none⟩ = some (.int .i64 a0) := by rw [hWW]; simp [go_sem]
  have e7 : W.cell? ⟨w.heap.size + 1, 1, none⟩ = some (.int .i64 a1) := by rw [hWW]; simp [go_sem]
  have hW : Below w.heap.size w W := by rw [hWW]; go_grown
  have hS : w.heap.size ≤ W.heap.size := hW.size
  rw [← hWW]
  clear hWW
  go_region_with (go_at_call 98; (with_reducible refine (C.out _).mono ?_); rintro e w1 ⟨rfl, hb⟩; have d0 : w1.cell? ⟨w.heap.size, 0, none⟩ = some (.int .u8 k) := (by first | exact bel_later hb e0 | exact bel_later (bel_dr hb) e0); have d1 : w1.cell? ⟨w.heap.size, 1, none⟩ = some (.int .i64 q) := (by first | exact bel_later hb e1 | exact bel_later (bel_dr hb) e1); have d2 : w1.cell? ⟨w.heap.size, 2, none⟩ = some (.string key) := (by first | exact bel_later hb e2 | exact bel_later (bel_dr hb) e2); have d3 : w1.cell? ⟨w.heap.size, 3, none⟩ = some (.string too) := (by first | exact bel_later hb e3 | exact bel_later (bel_dr hb) e3); have d4 : w1.cell? ⟨w.heap.size, 4, none⟩ = some (.string val) := (by first | exact bel_later hb e4 | exact bel_later (bel_dr hb) e4); have d5 : w1.cell? ⟨w.heap.size, 5, none⟩ = some (.int .u64 dl) := (by first | exact bel_later hb e5 | exact bel_later (bel_dr hb) e5); have d6 : w1.cell? ⟨w.heap.size + 1, 0, none⟩ = some (.int .i64 a0) := (by first | exact bel_later hb e6 | exact bel_later (bel_dr hb) e6); have d7 : w1.cell? ⟨w.heap.size + 1, 1, none⟩ = some (.int .i64 a1) := (by first | exact bel_later hb e7 | exact bel_later (bel_dr hb) e7); have hw1 : Below w.heap.size w w1 := (by first | exact hW.trans (hb.mono hS) | exact hW.trans ((bel_dr hb).mono hS)); clear hb)
  all_goals
    go_wp2
    go_ret
    exact ⟨rfl, by first | exact hw1 | exact bel_step hw1 (by assumption) (Nat.le_refl _) | go_grown⟩
set_option maxRecDepth 100000 in
set_option maxHeartbeats 2000000 in
theorem mchk_ov (k q dl a0 a1 a2 a3 a4 a5 a6 a7 a8 : Int) (key too val : ByteArray) (w : World) (h1 : k ≠ 1) (h2 : k ≠ 2) (h3 : k ≠ 3) (h4 : k ≠ 4) (hT : too.toList = []) (hV : ¬ val.toList = []) :
    Calls Tryz.prog 81 #[.agg #[.int .u8 k, .int .i64 q, .string key, .string too, .string val, .int .u64 dl], cfg a0 a1 a2 a3 a4 a5 a6 a7 a8] w fun e w' => e = .returned (.int .i64 (3)) ∧ Below w.heap.size w w' := by
  have C := Lib.hid (fun w => mpure_o k q dl key too val w (by omega) (by omega) (by omega))
  go_enter Tryz.func81, Tryz.ntmps81
  go_wp2_with fail
  obtain ⟨W, hWW⟩ : ∃ W, W = (w.alloc (.cells #[.int .u8 k, .int .i64 q, .string key, .string too, .string val, .int .u64 dl] 73)).alloc (.cells #[.int .i64 a0, .int .i64 a1, .int .i64 a2, .int .i64 a3, .int .i64 a4, .int .i64 a5, .int .i64 a6, .int .i64 a7, .int .i64 a8] 115) := ⟨_, rfl⟩
  have e0 : W.cell? ⟨w.heap.size, 0, none⟩ = some (.int .u8 k) := by rw [hWW]; simp [go_sem]
  have e1 : W.cell? ⟨w.heap.size, 1, none⟩ = some (.int .i64 q) := by rw [hWW]; simp [go_sem]
  have e2 : W.cell? ⟨w.heap.size, 2, none⟩ = some (.string key) := by rw [hWW]; simp [go_sem]
  have e3 : W.cell? ⟨w.heap.size, 3, none⟩ = some (.string too) := by rw [hWW]; simp [go_sem]
  have e4 : W.cell? ⟨w.heap.size, 4, none⟩ = some (.string val) := by rw [hWW]; simp [go_sem]
  have e5 : W.cell? ⟨w.heap.size, 5, none⟩ = some (.int .u64 dl) := by rw [hWW]; simp [go_sem]
  have e6 : W.cell? ⟨w.heap.size + 1, 0, none⟩ = some (.int .i64 a0) := by rw [hWW]; simp [go_sem]
  have e7 : W.cell? ⟨w.heap.size + 1, 1, none⟩ = some (.int .i64 a1) := by rw [hWW]; simp [go_sem]
  have hW : Below w.heap.size w W := by rw [hWW]; go_grown
  have hS : w.heap.size ≤ W.heap.size := hW.size
  rw [← hWW]
  clear hWW
  go_region_with (go_at_call 98; (with_reducible refine (C.out _).mono ?_); rintro e w1 ⟨rfl, hb⟩; have d0 : w1.cell? ⟨w.heap.size, 0, none⟩ = some (.int .u8 k) := (by first | exact bel_later hb e0 | exact bel_later (bel_dr hb) e0); have d1 : w1.cell? ⟨w.heap.size, 1, none⟩ = some (.int .i64 q) := (by first | exact bel_later hb e1 | exact bel_later (bel_dr hb) e1); have d2 : w1.cell? ⟨w.heap.size, 2, none⟩ = some (.string key) := (by first | exact bel_later hb e2 | exact bel_later (bel_dr hb) e2); have d3 : w1.cell? ⟨w.heap.size, 3, none⟩ = some (.string too) := (by first | exact bel_later hb e3 | exact bel_later (bel_dr hb) e3); have d4 : w1.cell? ⟨w.heap.size, 4, none⟩ = some (.string val) := (by first | exact bel_later hb e4 | exact bel_later (bel_dr hb) e4); have d5 : w1.cell? ⟨w.heap.size, 5, none⟩ = some (.int .u64 dl) := (by first | exact bel_later hb e5 | exact bel_later (bel_dr hb) e5); have d6 : w1.cell? ⟨w.heap.size + 1, 0, none⟩ = some (.int .i64 a0) := (by first | exact bel_later hb e6 | exact bel_later (bel_dr hb) e6); have d7 : w1.cell? ⟨w.heap.size + 1, 1, none⟩ = some (.int .i64 a1) := (by first | exact bel_later hb e7 | exact bel_later (bel_dr hb) e7); have hw1 : Below w.heap.size w w1 := (by first | exact hW.trans (hb.mono hS) | exact hW.trans ((bel_dr hb).mono hS)); clear hb)
  all_goals
    go_wp2
    go_ret
    exact ⟨rfl, by first | exact hw1 | exact bel_step hw1 (by assumption) (Nat.le_refl _) | go_grown⟩
set_option maxRecDepth 100000 in
set_option maxHeartbeats 2000000 in
theorem mchk_od (k q dl a0 a1 a2 a3 a4 a5 a6 a7 a8 : Int) (key too val : ByteArray) (w : World) (h1 : k ≠ 1) (h2 : k ≠ 2) (h3 : k ≠ 3) (h4 : k ≠ 4) (hT : too.toList = []) (hV : val.toList = []) (hD : ¬ dl = 0) :
    Calls Tryz.prog 81 #[.agg #[.int .u8 k, .int .i64 q, .string key, .string too, .string val, .int .u64 dl], cfg a0 a1 a2 a3 a4 a5 a6 a7 a8] w fun e w' => e = .returned (.int .i64 (3)) ∧ Below w.heap.size w w' := by
  have C := Lib.hid (fun w => mpure_o k q dl key too val w (by omega) (by omega) (by omega))
  go_enter Tryz.func81, Tryz.ntmps81
  go_wp2_with fail
  obtain ⟨W, hWW⟩ : ∃ W, W = (w.alloc (.cells #[.int .u8 k, .int .i64 q, .string key, .string too, .string val, .int .u64 dl] 73)).alloc (.cells #[.int .i64 a0, .int .i64 a1, .int .i64 a2, .int .i64 a3, .int .i64 a4, .int .i64 a5, .int .i64 a6, .int .i64 a7, .int .i64 a8] 115) := ⟨_, rfl⟩
  have e0 : W.cell? ⟨w.heap.size, 0, none⟩ = some (.int .u8 k) := by rw [hWW]; simp [go_sem]
  have e1 : W.cell? ⟨w.heap.size, 1, none⟩ = some (.int .i64 q) := by rw [hWW]; simp [go_sem]
  have e2 : W.cell? ⟨w.heap.size, 2, none⟩ = some (.string key) := by rw [hWW]; simp [go_sem]
  have e3 : W.cell? ⟨w.heap.size, 3, none⟩ = some (.string too) := by rw [hWW]; simp [go_sem]
  have e4 : W.cell? ⟨w.heap.size, 4, none⟩ = some (.string val) := by rw [hWW]; simp [go_sem]
  have e5 : W.cell? ⟨w.heap.size, 5, none⟩ = some (.int .u64 dl) := by rw [hWW]; simp [go_sem]
  have e6 : W.cell? ⟨w.heap.size + 1, 0, none⟩ = some (.int .i64 a0) := by rw [hWW]; simp [go_sem]
  have e7 : W.cell? ⟨w.heap.size + 1, 1, none⟩ = some (.int .i64 a1) := by rw [hWW]; simp [go_sem]
  have hW : Below w.heap.size w W := by rw [hWW]; go_grown
  have hS : w.heap.size ≤ W.heap.size := hW.size
  rw [← hWW]
  clear hWW
  go_region_with (go_at_call 98; (with_reducible refine (C.out _).mono ?_); rintro e w1 ⟨rfl, hb⟩; have d0 : w1.cell? ⟨w.heap.size, 0, none⟩ = some (.int .u8 k) := (by first | exact bel_later hb e0 | exact bel_later (bel_dr hb) e0); have d1 : w1.cell? ⟨w.heap.size, 1, none⟩ = some (.int .i64 q) := (by first | exact bel_later hb e1 | exact bel_later (bel_dr hb) e1); have d2 : w1.cell? ⟨w.heap.size, 2, none⟩ = some (.string key) := (by first | exact bel_later hb e2 | exact bel_later (bel_dr hb) e2); have d3 : w1.cell? ⟨w.heap.size, 3, none⟩ = some (.string too) := (by first | exact bel_later hb e3 | exact bel_later (bel_dr hb) e3); have d4 : w1.cell? ⟨w.heap.size, 4, none⟩ = some (.string val) := (by first | exact bel_later hb e4 | exact bel_later (bel_dr hb) e4); have d5 : w1.cell? ⟨w.heap.size, 5, none⟩ = some (.int .u64 dl) := (by first | exact bel_later hb e5 | exact bel_later (bel_dr hb) e5); have d6 : w1.cell? ⟨w.heap.size + 1, 0, none⟩ = some (.int .i64 a0) := (by first | exact bel_later hb e6 | exact bel_later (bel_dr hb) e6); have d7 : w1.cell? ⟨w.heap.size + 1, 1, none⟩ = some (.int .i64 a1) := (by first | exact bel_later hb e7 | exact bel_later (bel_dr hb) e7); have hw1 : Below w.heap.size w w1 := (by first | exact hW.trans (hb.mono hS) | exact hW.trans ((bel_dr hb).mono hS)); clear hb)
  all_goals
    go_wp2
    go_ret
    exact ⟨rfl, by first | exact hw1 | exact bel_step hw1 (by assumption) (Nat.le_refl _) | go_grown⟩
set_option maxRecDepth 100000 in
set_option maxHeartbeats 2000000 in
theorem mchk_oo (k q a0 a1 a2 a3 a4 a5 a6 a7 a8 : Int) (key too val : ByteArray) (w : World) (h1 : k ≠ 1) (h2 : k ≠ 2) (h3 : k ≠ 3) (h4 : k ≠ 4) (hT : too.toList = []) (hV : val.toList = []) :
    Calls Tryz.prog 81 #[.agg #[.int .u8 k, .int .i64 q, .string key, .string too, .string val, .int .u64 0], cfg a0 a1 a2 a3 a4 a5 a6 a7 a8] w fun e w' => e = .returned (.int .i64 (3)) ∧ Below w.heap.size w w' := by
  have C := Lib.hid (fun w => mpure_o k q 0 key too val w (by omega) (by omega) (by omega))
  go_enter Tryz.func81, Tryz.ntmps81
  go_wp2_with fail
  obtain ⟨W, hWW⟩ : ∃ W, W = (w.alloc (.cells #[.int .u8 k, .int .i64 q, .string key, .string too, .string val, .int .u64 0] 73)).alloc (.cells #[.int .i64 a0, .int .i64 a1, .int .i64 a2, .int .i64 a3, .int .i64 a4, .int .i64 a5, .int .i64 a6, .int .i64 a7, .int .i64 a8] 115) := ⟨_, rfl⟩
  have e0 : W.cell? ⟨w.heap.size, 0, none⟩ = some (.int .u8 k) := by rw [hWW]; simp [go_sem]
  have e1 : W.cell? ⟨w.heap.size, 1, none⟩ = some (.int .i64 q) := by rw [hWW]; simp [go_sem]
  have e2 : W.cell? ⟨w.heap.size, 2, none⟩ = some (.string key) := by rw [hWW]; simp [go_sem]
  have e3 : W.cell? ⟨w.heap.size, 3, none⟩ = some (.string too) := by rw [hWW]; simp [go_sem]
  have e4 : W.cell? ⟨w.heap.size, 4, none⟩ = some (.string val) := by rw [hWW]; simp [go_sem]
  have e5 : W.cell? ⟨w.heap.size, 5, none⟩ = some (.int .u64 0) := by rw [hWW]; simp [go_sem]
  have e6 : W.cell? ⟨w.heap.size + 1, 0, none⟩ = some (.int .i64 a0) := by rw [hWW]; simp [go_sem]
  have e7 : W.cell? ⟨w.heap.size + 1, 1, none⟩ = some (.int .i64 a1) := by rw [hWW]; simp [go_sem]
  have hW : Below w.heap.size w W := by rw [hWW]; go_grown
  have hS : w.heap.size ≤ W.heap.size := hW.size
  rw [← hWW]
  clear hWW
  go_region_with (go_at_call 98; (with_reducible refine (C.out _).mono ?_); rintro e w1 ⟨rfl, hb⟩; have d0 : w1.cell? ⟨w.heap.size, 0, none⟩ = some (.int .u8 k) := (by first | exact bel_later hb e0 | exact bel_later (bel_dr hb) e0); have d1 : w1.cell? ⟨w.heap.size, 1, none⟩ = some (.int .i64 q) := (by first | exact bel_later hb e1 | exact bel_later (bel_dr hb) e1); have d2 : w1.cell? ⟨w.heap.size, 2, none⟩ = some (.string key) := (by first | exact bel_later hb e2 | exact bel_later (bel_dr hb) e2); have d3 : w1.cell? ⟨w.heap.size, 3, none⟩ = some (.string too) := (by first | exact bel_later hb e3 | exact bel_later (bel_dr hb) e3); have d4 : w1.cell? ⟨w.heap.size, 4, none⟩ = some (.string val) := (by first | exact bel_later hb e4 | exact bel_later (bel_dr hb) e4); have d5 : w1.cell? ⟨w.heap.size, 5, none⟩ = some (.int .u64 0) := (by first | exact bel_later hb e5 | exact bel_later (bel_dr hb) e5); have d6 : w1.cell? ⟨w.heap.size + 1, 0, none⟩ = some (.int .i64 a0) := (by first | exact bel_later hb e6 | exact bel_later (bel_dr hb) e6); have d7 : w1.cell? ⟨w.heap.size + 1, 1, none⟩ = some (.int .i64 a1) := (by first | exact bel_later hb e7 | exact bel_later (bel_dr hb) e7); have hw1 : Below w.heap.size w w1 := (by first | exact hW.trans (hb.mono hS) | exact hW.trans ((bel_dr hb).mono hS)); clear hb)
  all_goals
    go_wp2
    go_ret
    exact ⟨rfl, by first | exact hw1 | exact bel_step hw1 (by assumption) (Nat.le_refl _) | go_grown⟩
end Go.Proofs.YtdebedeebmmleaaGreatDoor
