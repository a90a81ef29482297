/- Texts of the proof, one behind the other. -/
import Derived.Test.YtdebedeebmmleaaGreatDoorTc02
import Derived.Test.YtdebedeebmmleaaGreatDoorTc18
import Derived.Test.YtdebedeebmmleaaGreatDoorTc19
set_option linter.unusedVariables false
set_option linter.unusedSimpArgs false
namespace Go.Proofs.YtdebedeebmmleaaGreatDoor
open Go.RowKit

set_option maxRecDepth 100000 in
set_option maxHeartbeats 2000000 in
theorem mchk_4v (q dl a0 a1 a2 a3 a4 a5 a6 a7 a8 : Int) (key too val : ByteArray) (w : World)  (hV : ¬ val.toList = []) :
    Calls Tryz.prog 81 #[.agg #[.int .u8 4, .int .i64 q, .string key, .string too, .string val, .int .u64 dl], cfg a0 a1 a2 a3 a4 a5 a6 a7 a8] w fun e w' => e = .returned (.int .i64 (3)) ∧ Below w.heap.size w w' := by
  have C := Lib.hid (fun w => mpure_4 q dl key too val w)
  go_enter Tryz.func81, Tryz.ntmps81
  go_wp2_with fail
  obtain ⟨W, hWW⟩ : ∃ W, W = (w.alloc (.cells #[.int .u8 4, .int .i64 q, .string key, .string too, .string val, .int .u64 dl] 73)).alloc (.cells #[.int .i64 a0, .int .i64 a1, .int .i64 a2, .int .i64 a3, .int .i64 a4, .int .i64 a5, .int .i64 a6, .int .i64 a7, .int .i64 a8] 115) := ⟨_, rfl⟩
  have e0 : W.cell? ⟨w.heap.size, 0, none⟩ = some (.int .u8 4) := by rw [hWW]; simp [go_sem]
  have e1 : W.cell? ⟨w.heap.size, 1, none⟩ = some (.int .i64 q) := by rw [hWW]; simp [go_sem]
  have e2 : W.cell? ⟨w.heap.size, 2, none⟩ = some (.string key) := by rw [hWW]; simp [go_sem]
  have e3 : W.cell? ⟨w.heap.size, 3, none⟩ = some (.string too) := by rw [hWW]; simp [go_sem]
  have e4 : W.cell? ⟨w.heap.size, 4, none⟩ = some (.string val) := by rw [hWW]; simp [go_sem]
  have e5 : W.cell? ⟨w.heap.size, 5, none⟩ = some (.int .u64 dl) := by rw [hWW]; simp [go_sem]
  have e6 : W.cell? ⟨w.heap.size + 1, 0, none⟩ = some (.int .i64 a0) := by rw [hWW]; simp [go_sem]
  have e7 : W.cell? ⟨w.heap.size + 1, 1, none⟩ = some (.int .i64 a1) := by rw [hWW]; simp [go_sem]
  have hW : Below w.heap.size w W := by rw [hWW]; go_grown
  have hS : w.heap.size ≤ W.heap.size := hW.size
  rw [← hWW]
  clear hWW
  go_region_with (go_at_call 98; (with_reducible refine (C.out _).mono ?_); rintro e w1 ⟨rfl, hb⟩; have d0 : w1.cell? ⟨w.heap.size, 0, none⟩ = some (.int .u8 4) := (by first | exact bel_later hb e0 | exact bel_later (bel_dr hb) e0); have d1 : w1.cell? ⟨w.heap.size, 1, none⟩ = some (.int .i64 q) := (by first | exact bel_later hb e1 | exact bel_later (bel_dr hb) e1); have d2 : w1.cell? ⟨w.heap.size, 2, none⟩ = some (.string key) := (by first | exact bel_later hb e2 | exact bel_later (bel_dr hb) e2); have d3 : w1.cell? ⟨w.heap.size, 3, none⟩ = some (.string too) := (by first | exact bel_later hb e3 | exact bel_later (bel_dr hb) e3); have d4 : w1.cell? ⟨w.heap.size, 4, none⟩ = some (.string val) := (by first | exact bel_later hb e4 | exact bel_later (bel_dr hb) e4); have d5 : w1.cell? ⟨w.heap.size, 5, none⟩ = some (.int .u64 dl) := (by first | exact bel_later hb e5 | exact bel_later (bel_dr hb) e5); have d6 : w1.cell? ⟨w.heap.size + 1, 0, none⟩ = some (.int .i64 a0) := (by first | exact bel_later hb e6 | exact bel_later (bel_dr hb) e6); have d7 : w1.cell? ⟨w.heap.size + 1, 1, none⟩ = some (.int .i64 a1) := (by first | exact bel_later hb e7 | exact bel_later (bel_dr hb) e7); have hw1 : Below w.heap.size w w1 := (by first | exact hW.trans (hb.mono hS) | exact hW.trans ((bel_dr hb).mono hS)); clear hb)
  all_goals
    go_wp2
    go_ret
    exact ⟨rfl, by first | exact hw1 | exact bel_step hw1 (by assumption) (Nat.le_refl _) | go_grown⟩
set_option maxRecDepth 100000 in
set_option maxHeartbeats 2000000 in
theorem mchk_4d (q dl a0 a1 a2 a3 a4 a5 a6 a7 a8 : Int) (key too val : ByteArray) (w : World)  (hV : val.toList = []) (hD : ¬ dl = 0) :
    Calls Tryz.prog 81 #[.agg #[.int .u8 4, .int .i64 q, .string key, .string too, .string val, .int .u64 dl], cfg a0 a1 a2 a3 a4 a5 a6 a7 a8] w fun e w' => e = .returned (.int .i64 (3)) ∧ Below w.heap.size w w' := by
  have C := Lib.hid (fun w => mpure_4 q dl key too val w)
  go_enter Tryz.func81, Tryz.ntmps81
  go_wp2_with fail
  obtain ⟨W, hWW⟩ : ∃ W, W = (w.alloc (.cells #[.int .u8 4, .int .i64 q, .string key, .string too, .string val, .int .u64 dl] 73)).alloc (.cells #[.int .i64 a0, .int .i64 a1, .int .i64 a2, .int .i64 a3, .int .i64 a4, .int .i64 a5, .int .i64 a6, .int .i64 a7, .int .i64 a8] 115) := ⟨_, rfl⟩
  have e0 : W.cell? ⟨w.heap.size, 0, none⟩ = some (.int .u8 4) := by rw [hWW]; simp [go_sem]
  have e1 : W.cell? ⟨w.heap.size, 1, none⟩ = some (.int .i64 q) := by rw [hWW]; simp [go_sem]
  have e2 : W.cell? ⟨w.heap.size, 2, none⟩ = some (.string key) := by rw [hWW]; simp [go_sem]
  have e3 : W.cell? ⟨w.heap.size, 3, none⟩ = some (.string too) := by rw [hWW]; simp [go_sem]
  have e4 : W.cell? ⟨w.heap.size, 4, none⟩ = some (.string val) := by rw [hWW]; simp [go_sem]
  have e5 : W.cell? ⟨w.heap.size, 5, none⟩ = some (.int .u64 dl) := by rw [hWW]; simp [go_sem]
  have e6 : W.cell? ⟨w.heap.size + 1, 0, none⟩ = some (.int .i64 a0) := by rw [hWW]; simp [go_sem]
  have e7 : W.cell? ⟨w.heap.size + 1, 1, none⟩ = some (.int .i64 a1) := by rw [hWW]; simp [go_sem]
  have hW : Below w.heap.size w W := by rw [hWW]; go_grown
  have hS : w.heap.size ≤ W.heap.size := hW.size
  rw [← hWW]
  clear hWW
  go_region_with (go_at_call 98; (with_reducible refine (C.out _).mono ?_); rintro e w1 ⟨rfl, hb⟩; have d0 : w1.cell? ⟨w.heap.size, 0, none⟩ = some (.int .u8 4) := (by first | exact bel_later hb e0 | exact bel_later (bel_dr hb) e0); have d1 : w1.cell? ⟨w.heap.size, 1, none⟩ = some (.int .i64 q) := (by first | exact bel_later hb e1 | exact bel_later (bel_dr hb) e1); have d2 : w1.cell? ⟨w.heap.size, 2, none⟩ = some (.string key) := (by first | exact bel_later hb e2 | exact bel_later (bel_dr hb) e2); have d3 : w1.cell? ⟨w.heap.size, 3, none⟩ = some (.string too) := (by first | exact bel_later hb e3 | exact bel_later (bel_dr hb) e3); have d4 : w1.cell? ⟨w.heap.size, 4, none⟩ = some (.string val) := (by first | exact bel_later hb e4 | exact bel_later (bel_dr hb) e4); have d5 : w1.cell? ⟨w.heap.size, 5, none⟩ = some (.int .u64 dl) := (by first | exact bel_later hb e5 | exact bel_later (bel_dr hb) e5); have d6 : w1.cell? ⟨w.heap.size + 1, 0, none⟩ = some (.int .i64 a0) := (by first | exact bel_later hb e6 | exact bel_later (bel_dr hb) e6); have d7 : w1.cell? ⟨w.heap.size + 1, 1, none⟩ = some (.int .i64 a1) := (by first | exact bel_later hb e7 | exact bel_later (bel_dr hb) e7); have hw1 : Below w.heap.size w w1 := (by first | exact hW.trans (hb.mono hS) | exact hW.trans ((bel_dr hb).mono hS)); clear hb)
  all_goals
    go_wp2
    go_ret
    exact ⟨rfl, by first | exact hw1 | exact bel_step hw1 (by assumption) (Nat.le_refl _) | go_grown⟩
set_option maxRecDepth 100000 in
set_option maxHeartbeats 2000000 in
theorem mchk_4s (q a0 a1 a2 a3 a4 a5 a6 a7 a8 : Int) (key too val : ByteArray) (w : World)  (hV : val.toList = []) (hS : a0 < (key.size : Int)) :
    Calls Tryz.prog 81 #[.agg #[.int .u8 4, .int .i64 q, .string key, .string too, .string val, .int .u64 0], cfg a0 a1 a2 a3 a4 a5 a6 a7 a8] w fun e w' => e = .returned (.int .i64 (6)) ∧ Below w.heap.size w w' := by
  have C := Lib.hid (fun w => mpure_4 q 0 key too val w)
  go_enter Tryz.func81, Tryz.ntmps81
  go_wp2_with fail
  obtain ⟨W, hWW⟩ : ∃ W, W = (w.alloc (.cells #[.int .u8 4, .int .i64 q, .string key, .string too, .string val, .int .u64 0] 73)).alloc (.cells #[.int .i64 a0, .int .i64 a1, .int .i64 a2, .int .i64 a3, .int .i64 a4, .int .i64 a5, .int .i64 a6, .int .i64 a7, .int .i64 a8] 115) := ⟨_, rfl⟩
  have e0 : W.cell? ⟨w.heap.size, 0, none⟩ = some (.int .u8 4) := by rw [hWW]; simp [go_sem]
  have e1 : W.cell? ⟨w.heap.size, 1, none⟩ = some (.int .i64 q) := by rw [hWW]; simp [go_sem]
  have e2 : W.cell? ⟨w.heap.size, 2, none⟩ = some (.string key) := by rw [hWW]; simp [go_sem]
  have e3 : W.cell? ⟨w.heap.size, 3, none⟩ = some (.string too) := by rw [hWW]; simp [go_sem]
  have e4 : W.cell? ⟨w.heap.size, 4, none⟩ = some (.string val) := by rw [hWW]; simp [go_sem]
  have e5 : W.cell? ⟨w.heap.size, 5, none⟩ = some (.int .u64 0) := by rw [hWW]; simp [go_sem]
  have e6 : W.cell? ⟨w.heap.size + 1, 0, none⟩ = some (.int .i64 a0) := by rw [hWW]; simp [go_sem]
  have e7 : W.cell? ⟨w.heap.size + 1, 1, none⟩ = some (.int .i64 a1) := by rw [hWW]; simp [go_sem]
  have hW : Below w.heap.size w W := by rw [hWW]; go_grown
  have hS : w.heap.size ≤ W.heap.size := hW.size
  rw [← hWW]
  clear hWW
  go_region_with (go_at_call 98; (with_reducible refine (C.out _).mono ?_); rintro e w1 ⟨rfl, hb⟩; have d0 : w1.cell? ⟨w.heap.size, 0, none⟩ = some (.int .u8 4) := (by first | exact bel_later hb e0 | exact bel_later (bel_dr hb) e0); have d1 : w1.cell? ⟨w.heap.size, 1, none⟩ = some (.int .i64 q) := (by first | exact bel_later hb e1 | exact bel_later (bel_dr hb) e1); have d2 : w1.cell? ⟨w.heap.size, 2, none⟩ = some (.string key) := (by first | exact bel_later hb e2 | exact bel_later (bel_dr hb) e2); have d3 : w1.cell? ⟨w.heap.size, 3, none⟩ = some (.string too) := (by first | exact bel_later hb e3 | exact bel_later (bel_dr hb) e3); have d4 : w1.cell? ⟨w.heap.size, 4, none⟩ = some (.string val) := (by first | exact bel_later hb e4 | exact bel_later (bel_dr hb) e4); have d5 : w1.cell? ⟨w.heap.size, 5, none⟩ = some (.int .u64 0) := (by first | exact bel_later hb e5 | exact bel_later (bel_dr hb) e5); have d6 : w1.cell? ⟨w.heap.size + 1, 0, none⟩ = some (.int .i64 a0) := (by first | exact bel_later hb e6 | exact bel_later (bel_dr hb) e6); have d7 : w1.cell? ⟨w.heap.size + 1, 1, none⟩ = some (.int .i64 a1) := (by first | exact bel_later hb e7 | exact bel_later (bel_dr hb) e7); have hw1 : Below w.heap.size w w1 := (by first | exact hW.trans (hb.mono hS) | exact hW.trans ((bel_dr hb).mono hS)); clear hb)
  all_goals
    go_wp2
    go_ret
    exact ⟨rfl, by first | exact hw1 | exact bel_step hw1 (by assumption) (Nat.le_refl _) | go_grown⟩
set_option maxRecDepth 100000 in
set_option maxHeartbeats 2000000 in
theorem mchk_4u (q a0 a1 a2 a3 a4 a5 a6 a7 a8 : Int) (key too val : ByteArray) (w : World)  (hV : val.toList = []) (hS : ¬ a0 < (key.size : Int)) (hU : a0 < (too.size : Int)) :
    Calls Tryz.prog 81 #[.agg #[.int .u8 4, .int .i64 q, .string key, .string too, .string val, .int .u64 0], cfg a0 a1 a2 a3 a4 a5 a6 a7 a8] w fun e w' => e = .returned (.int .i64 (6)) ∧ Below w.heap.size w w' := by
  have C := Lib.hid (fun w => mpure_4 q 0 key too val w)
  go_enter Tryz.func81, Tryz.ntmps81
  go_wp2_with fail
  obtain ⟨W, hWW⟩ : ∃ W, W = (w.alloc (.cells #[.int .u8 4, .int .i64 q, .string key, .string too, .string val, .int .u64 0] 73)).alloc (.cells #[.int .i64 a0, .int .i64 a1, .int .i64 a2, .int .i64 a3, .int .i64 a4, .int .i64 a5, .int .i64 a6, .int .i64 a7, .int .i64 a8] 115) := ⟨_, rfl⟩
  have e0 : W.cell? ⟨w.heap.size, 0, none⟩ = some (.int .u8 4) := by rw [hWW]; simp [go_sem]
  have e1 : W.cell? ⟨w.heap.size, 1, none⟩ = some (.int .i64 q) := by rw [hWW]; simp [go_sem]
  have e2 : W.cell? ⟨w.heap.size, 2, none⟩ = some (.string key) := by rw [hWW]; simp [go_sem]
  have e3 : W.cell? ⟨w.heap.size, 3, none⟩ = some (.string too) := by rw [hWW]; simp [go_sem]
  have e4 : W.cell? ⟨w.heap.size, 4, none⟩ = some (.string val) := by rw [hWW]; simp [go_sem]
  have e5 : W.cell? ⟨w.heap.size, 5, none⟩ = some (.int .u64 0) := by rw [hWW]; simp [go_sem]
  have e6 : W.cell? ⟨w.heap.size + 1, 0, none⟩ = some (.int .i64 a0) := by rw [hWW]; simp [go_sem]
  have e7 : W.cell? ⟨w.heap.size + 1, 1, none⟩ = some (.int .i64 a1) := by rw [hWW]; simp [go_sem]
  have hW : Below w.heap.size w W := by rw [hWW]; go_grown
  have hS : w.heap.size ≤ W.heap.size := hW.size
  rw [← hWW]
  clear hWW
  go_region_with (go_at_call 98; (with_reducible refine (C.out _).mono ?_); rintro e w1 ⟨rfl, hb⟩; have d0 : w1.cell? ⟨w.heap.size, 0, none⟩ = some (.int .u8 4) := (by first | exact bel_later hb e0 | exact bel_later (bel_dr hb) e0); have d1 : w1.cell? ⟨w.heap.size, 1, none⟩ = some (.int .i64 q) := (by first | exact bel_later hb e1 | exact bel_later (bel_dr hb) e1); have d2 : w1.cell? ⟨w.heap.size, 2, none⟩ = some (.string key) := (by first | exact bel_later hb e2 | exact bel_later (bel_dr hb) e2); have d3 : w1.cell? ⟨w.heap.size, 3, none⟩ = some (.string too) := (by first | exact bel_later hb e3 | exact bel_later (bel_dr hb) e3); have d4 : w1.cell? ⟨w.heap.size, 4, none⟩ = some (.string val) := (by first | exact bel_later hb e4 | exact bel_later (bel_dr hb) e4); have d5 : w1.cell? ⟨w.heap.size, 5, none⟩ = some (.int .u64 0) := (by first | exact bel_later hb e5 | exact bel_later (bel_dr hb) e5); have d6 : w1.cell? ⟨w.heap.size + 1, 0, none⟩ = some (.int .i64 a0) := (by first | exact bel_later hb e6 | exact bel_later (bel_dr hb) e6); have d7 : w1.cell? ⟨w.heap.size + 1, 1, none⟩ = some (.int .i64 a1) := (by first | exact bel_later hb e7 | exact bel_later (bel_dr hb) e7); have hw1 : Below w.heap.size w w1 := (by first | exact hW.trans (hb.mono hS) | exact hW.trans ((bel_dr hb).mono hS)); clear hb)
  all_goals
    go_wp2
    go_ret
    exact ⟨rfl, by first | exact hw1 | exact bel_step hw1 (by assumption) (Nat.le_refl _) | go_grown⟩
set_option maxRecDepth 100000 in
set_option maxHeartbeats 2000000 in
theorem mchk_4g (q a0 a1 a2 a3 a4 a5 a6 a7 a8 : Int) (key too val : ByteArray) (w : World)  (hV : val.toList = []) (hS : ¬ a0 < (key.size : Int)) (hU : ¬ a0 < (too.size : Int)) (hG : sbS key too = true) :
    Calls Tryz.prog 81 #[.agg #[.int .u8 4, .int .i64 q, .string key, .string too, .string val, .int .u64 0], cfg a0 a1 a2 a3 a4 a5 a6 a7 a8] w fun e w' => e = .returned (.int .i64 (0)) ∧ Below w.heap.size w w' := by
  have C := Lib.hid (fun w => mpure_4 q 0 key too val w)
  have SP := Lib.hid (fun W => span_4 q 0 key too val W)
  have R := fun W => rightRange_any key too W
  simp only [hG] at R
  have RR := Lib.hid R
  clear R
  go_enter Tryz.func81, Tryz.ntmps81
  go_wp2_with fail
  obtain ⟨W, hWW⟩ : ∃ W, W = (w.alloc (.cells #[.int .u8 4, .int .i64 q, .string key, .string too, .string val, .int .u64 0] 73)).alloc (.cells #[.int .i64 a0, .int .i64 a1, .int .i64 a2, .int .i64 a3, .int .i64 a4, .int .i64 a5, .int .i64 a6, .int .i64 a7, .int .i64 a8] 115) := ⟨_, rfl⟩
  have e0 : W.cell? ⟨w.heap.size, 0, none⟩ = some (.int .u8 4) := by rw [hWW]; simp [go_sem]
  have e1 : W.cell? ⟨w.heap.size, 1, none⟩ = some (.int .i64 q) := by rw [hWW]; simp [go_sem]
  have e2 : W.cell? ⟨w.heap.size, 2, none⟩ = some (.string key) := by rw [hWW]; simp [go_sem]
  have e3 : W.cell? ⟨w.heap.size, 3, none⟩ = some (.string too) := by rw [hWW]; simp [go_sem]
  have e4 : W.cell? ⟨w.heap.size, 4, none⟩ = some (.string val) := by rw [hWW]; simp [go_sem]
  have e5 : W.cell? ⟨w.heap.size, 5, none⟩ = some (.int .u64 0) := by rw [hWW]; simp [go_sem]
  have e6 : W.cell? ⟨w.heap.size + 1, 0, none⟩ = some (.int .i64 a0) := by rw [hWW]; simp [go_sem]
  have e7 : W.cell? ⟨w.heap.size + 1, 1, none⟩ = some (.int .i64 a1) := by rw [hWW]; simp [go_sem]
  have hW : Below w.heap.size w W := by rw [hWW]; go_grown
  have hS : w.heap.size ≤ W.heap.size := hW.size
  rw [← hWW]
  clear hWW
  go_region_with (go_at_call 98; (with_reducible refine (C.out _).mono ?_); rintro e w1 ⟨rfl, hb⟩; have d0 : w1.cell? ⟨w.heap.size, 0, none⟩ = some (.int .u8 4) := (by first | exact bel_later hb e0 | exact bel_later (bel_dr hb) e0); have d1 : w1.cell? ⟨w.heap.size, 1, none⟩ = some (.int .i64 q) := (by first | exact bel_later hb e1 | exact bel_later (bel_dr hb) e1); have d2 : w1.cell? ⟨w.heap.size, 2, none⟩ = some (.string key) := (by first | exact bel_later hb e2 | exact bel_later (bel_dr hb) e2); have d3 : w1.cell? ⟨w.heap.size, 3, none⟩ = some (.string too) := (by first | exact bel_later hb e3 | exact bel_later (bel_dr hb) e3); have d4 : w1.cell? ⟨w.heap.size, 4, none⟩ = some (.string val) := (by first | exact bel_later hb e4 | exact bel_later (bel_dr hb) e4); have d5 : w1.cell? ⟨w.heap.size, 5, none⟩ = some (.int .u64 0) := (by first | exact bel_later hb e5 | exact bel_later (bel_dr hb) e5); have d6 : w1.cell? ⟨w.heap.size + 1, 0, none⟩ = some (.int .i64 a0) := (by first | exact bel_later hb e6 | exact bel_later (bel_dr hb) e6); have d7 : w1.cell? ⟨w.heap.size + 1, 1, none⟩ = some (.int .i64 a1) := (by first | exact bel_later hb e7 | exact bel_later (bel_dr hb) e7); have hw1 : Below w.heap.size w w1 := (by first | exact hW.trans (hb.mono hS) | exact hW.trans ((bel_dr hb).mono hS)); clear hb)
  all_goals go_wp2_with fail
  all_goals
    refine (SP.out _).mono ?_
    rintro e w2 ⟨rfl, hb2⟩
    have hw2 : Below w.heap.size w w2 := (by first | exact bel_step hw1 hb2 (Nat.le_refl _) | exact bel_step hw1 (bel_dr hb2) (Nat.le_refl _))
    clear hb2
    go_wp2_with fail
    refine (RR.out _).mono ?_
    rintro e w3 ⟨rfl, hb3⟩
    have hw3 : Below w.heap.size w w3 := (by first | exact bel_step hw2 hb3 (Nat.le_refl _) | exact bel_step hw2 (bel_dr hb3) (Nat.le_refl _))
    clear hb3
    go_wp2
    go_ret
    exact ⟨rfl, by first | exact hw3 | go_grown⟩
set_option maxRecDepth 100000 in
set_option maxHeartbeats 2000000 in
theorem mchk_4b (q a0 a1 a2 a3 a4 a5 a6 a7 a8 : Int) (key too val : ByteArray) (w : World)  (hV : val.toList = []) (hS : ¬ a0 < (key.size : Int)) (hU : ¬ a0 < (too.size : Int)) (hG : sbS key too = false) :
    Calls Tryz.prog 81 #[.agg #[.int .u8 4, .int .i64 q, .string key, .string too, .string val, .int .u64 0], cfg a0 a1 a2 a3 a4 a5 a6 a7 a8] w fun e w' => e = .returned (.int .i64 (7)) ∧ Below w.heap.size w w' := by
  have C := Lib.hid (fun w => mpure_4 q 0 key too val w)
  have SP := Lib.hid (fun W => span_4 q 0 key too val W)
  have R := fun W => rightRange_any key too W
  simp only [hG] at R
  have RR := Lib.hid R
  clear R
  go_enter Tryz.func81, Tryz.ntmps81
  go_wp2_with fail
  obtain ⟨W, hWW⟩ : ∃ W, W = (w.alloc (.cells #[.int .u8 4, .int .i64 q, .string key, .string too, .string val, .int .u64 0] 73)).alloc (.cells #[.int .i64 a0, .int .i64 a1, .int .i64 a2, .int .i64 a3, .int .i64 a4, .int .i64 a5, .int .i64 a6, .int .i64 a7, .int .i64 a8] 115) := ⟨_, rfl⟩
  have e0 : W.cell? ⟨w.heap.size, 0, none⟩ = some (.int .u8 4) := by rw [hWW]; simp [go_sem]
  have e1 : W.cell? ⟨w.heap.size, 1, none⟩ = some (.int .i64 q) := by rw [hWW]; simp [go_sem]
  have e2 : W.cell? ⟨w.heap.size, 2, none⟩ = some (.string key) := by rw [hWW]; simp [go_sem]
  have e3 : W.cell? ⟨w.heap.size, 3, none⟩ = some (.string too) := by rw [hWW]; simp [go_sem]
  have e4 : W.cell? ⟨w.heap.size, 4, none⟩ = some (.string val) := by rw [hWW]; simp [go_sem]
  have e5 : W.cell? ⟨w.heap.size, 5, none⟩ = some (.int .u64 0) := by rw [hWW]; simp [go_sem]
  have e6 : W.cell? ⟨w.heap.size + 1, 0, none⟩ = some (.int .i64 a0) := by rw [hWW]; simp [go_sem]
  have e7 : W.cell? ⟨w.heap.size + 1, 1, none⟩ = some (.int .i64 a1) := by rw [hWW]; simp [go_sem]
  have hW : Below w.heap.size w W := by rw [hWW]; go_grown
  have hS : w.heap.size ≤ W.heap.size := hW.size
  rw [← hWW]
  clear hWW
  go_region_with (go_at_call 98; (with_reducible refine (C.out _).mono ?_); rintro e w1 ⟨rfl, hb⟩; have d0 : w1.cell? ⟨w.heap.size, 0, none⟩ = some (.int .u8 4) := (by first | exact bel_later hb e0 | exact bel_later (bel_dr hb) e0); have d1 : w1.cell? ⟨w.heap.size, 1, none⟩ = some (.int .i64 q) := (by first | exact bel_later hb e1 | exact bel_later (bel_dr hb) e1); have d2 : w1.cell? ⟨w.heap.size, 2, none⟩ = some (.string key) := (by first | exact bel_later hb e2 | exact bel_later (bel_dr hb) e2); have d3 : w1.cell? ⟨w.heap.size, 3, none⟩ = some (.string too) := (by first | exact bel_later hb e3 | exact bel_later (bel_dr hb) e3); have d4 : w1.cell? ⟨w.heap.size, 4, none⟩ = some (.string val) := (by first | exact bel_later hb e4 | exact bel_later (bel_dr hb) e4); have d5 : w1.cell? ⟨w.heap.size, 5, none⟩ = some (.int .u64 0) := (by first | exact bel_later hb e5 | exact bel_later (bel_dr hb) e5); have d6 : w1.cell? ⟨w.heap.size + 1, 0, none⟩ = some (.int .i64 a0) := (by first | exact bel_later hb e6 | exact bel_later (bel_dr hb) e6); have d7 : w1.cell? ⟨w.heap.size + 1, 1, none⟩ = some (.int .i64 a1) := (by first | exact bel_later hb e7 | exact bel_later (bel_dr hb) e7); have hw1 : Below w.heap.size w w1 := (by first | exact hW.trans (hb.mono hS) | exact hW.trans ((bel_dr hb).mono hS)); clear hb)
  all_goals go_wp2_with fail
  all_goals
    refine (SP.out _).mono ?_
    rintro e w2 ⟨rfl, hb2⟩
    have hw2 : Below w.heap.size w w2 := (by first | exact bel_step hw1 hb2 (Nat.le_refl _) | exact bel_step hw1 (bel_dr hb2) (Nat.le_refl _))
    clear hb2
    go_wp2_with fail
    refine (RR.out _).mono ?_
    rintro e w3 ⟨rfl, hb3⟩
    have hw3 : Below w.heap.size w w3 := (by first | exact bel_step hw2 hb3 (Nat.le_refl _) | exact bel_step hw2 (bel_dr hb3) (Nat.le_refl _))
    clear hb3
    go_wp2
    go_ret
    exact ⟨rfl, by first | exact hw3 | go_grown⟩
end Go.Proofs.YtdebedeebmmleaaGreatDoor
namespace Go.Proofs.YtdebedeebmmleaaGreatDoor
open Go.RowKit

/-- What a message is answered. -/
def mF (k dl a0 a1 : Int) (key too val : ByteArray) : Int :=
  if k = 1 then (if ¬ too.toList = [] then 3 else if ¬ dl = 0 then 3 else if a1 < (val.size : Int) then 6 else if rightS key a0 = true then 0 else 6)
  else if k = 2 then (if ¬ too.toList = [] then 3 else if ¬ val.toList = [] then 3 else if ¬ dl = 0 then 3 else if rightS key a0 = true then 0 else 6)
  else if k = 3 then (if ¬ too.toList = [] then 3 else if ¬ val.toList = [] then 3 else if rightS key a0 = true then 0 else 6)
  else if k = 4 then (if ¬ val.toList = [] then 3 else if ¬ dl = 0 then 3 else if a0 < (key.size : Int) then 6 else if a0 < (too.size : Int) then 6 else if sbS key too = true then 0 else 7)
  else 3

theorem mchk_any (k q dl a0 a1 a2 a3 a4 a5 a6 a7 a8 : Int) (key too val : ByteArray) (w : World) :
    Calls Tryz.prog 81 #[.agg #[.int .u8 k, .int .i64 q, .string key, .string too, .string val, .int .u64 dl], cfg a0 a1 a2 a3 a4 a5 a6 a7 a8] w fun e w' => e = .returned (.int .i64 (mF k dl a0 a1 key too val)) ∧ Below w.heap.size w w' := by
  unfold mF
  by_cases k1 : k = 1
  · subst k1
    rw [if_pos rfl]
    by_cases hT : too.toList = []
    · rw [if_neg (by simpa using hT)]
      by_cases hD : dl = 0
      · subst hD
        rw [if_neg (by simp)]
        by_cases hS : a1 < (val.size : Int)
        · rw [if_pos hS]; exact mchk_1v q a0 a1 a2 a3 a4 a5 a6 a7 a8 key too val w hT hS
        · rw [if_neg hS]
          by_cases hR : rightS key a0 = true
          · rw [if_pos hR]; exact mchk_1g q a0 a1 a2 a3 a4 a5 a6 a7 a8 key too val w hT hS hR
          · rw [if_neg hR]; exact mchk_1b q a0 a1 a2 a3 a4 a5 a6 a7 a8 key too val w hT hS (by simpa using hR)
      · rw [if_pos hD]; exact mchk_1d q dl a0 a1 a2 a3 a4 a5 a6 a7 a8 key too val w hT hD
    · rw [if_pos hT]; exact mchk_1t q dl a0 a1 a2 a3 a4 a5 a6 a7 a8 key too val w hT
  rw [if_neg k1]
  by_cases k2 : k = 2
  · subst k2
    rw [if_pos rfl]
    by_cases hT : too.toList = []
    · rw [if_neg (by simpa using hT)]
      by_cases hV : val.toList = []
      · rw [if_neg (by simpa using hV)]
        by_cases hD : dl = 0
        · subst hD
          rw [if_neg (by simp)]
          by_cases hR : rightS key a0 = true
          · rw [if_pos hR]; exact mchk_2g q a0 a1 a2 a3 a4 a5 a6 a7 a8 key too val w hT hV hR
          · rw [if_neg hR]; exact mchk_2b q a0 a1 a2 a3 a4 a5 a6 a7 a8 key too val w hT hV (by simpa using hR)
        · rw [if_pos hD]; exact mchk_2d q dl a0 a1 a2 a3 a4 a5 a6 a7 a8 key too val w hT hV hD
      · rw [if_pos hV]; exact mchk_2v q dl a0 a1 a2 a3 a4 a5 a6 a7 a8 key too val w hT hV
    · rw [if_pos hT]; exact mchk_2t q dl a0 a1 a2 a3 a4 a5 a6 a7 a8 key too val w hT
  rw [if_neg k2]
  by_cases k3 : k = 3
  · subst k3
    rw [if_pos rfl]
    by_cases hT : too.toList = []
    · rw [if_neg (by simpa using hT)]
      by_cases hV : val.toList = []
      · rw [if_neg (by simpa using hV)]
        by_cases hR : rightS key a0 = true
        · rw [if_pos hR]; exact mchk_3g q dl a0 a1 a2 a3 a4 a5 a6 a7 a8 key too val w hT hV hR
        · rw [if_neg hR]; exact mchk_3b q dl a0 a1 a2 a3 a4 a5 a6 a7 a8 key too val w hT hV (by simpa using hR)
      · rw [if_pos hV]; exact mchk_3v q dl a0 a1 a2 a3 a4 a5 a6 a7 a8 key too val w hT hV
    · rw [if_pos hT]; exact mchk_3t q dl a0 a1 a2 a3 a4 a5 a6 a7 a8 key too val w hT
  rw [if_neg k3]
  by_cases k4 : k = 4
  · subst k4
    rw [if_pos rfl]
    by_cases hV : val.toList = []
    · rw [if_neg (by simpa using hV)]
      by_cases hD : dl = 0
      · subst hD
        rw [if_neg (by simp)]
        by_cases hS : a0 < (key.size : Int)
        · rw [if_pos hS]; exact mchk_4s q a0 a1 a2 a3 a4 a5 a6 a7 a8 key too val w hV hS
        rw [if_neg hS]
        by_cases hU : a0 < (too.size : Int)
        · rw [if_pos hU]; exact mchk_4u q a0 a1 a2 a3 a4 a5 a6 a7 a8 key too val w hV hS hU
        rw [if_neg hU]
        by_cases hG : sbS key too = true
        · rw [if_pos hG]; exact mchk_4g q a0 a1 a2 a3 a4 a5 a6 a7 a8 key too val w hV hS hU hG
        · rw [if_neg hG]; exact mchk_4b q a0 a1 a2 a3 a4 a5 a6 a7 a8 key too val w hV hS hU (by simpa using hG)
      · rw [if_pos hD]; exact mchk_4d q dl a0 a1 a2 a3 a4 a5 a6 a7 a8 key too val w hV hD
    · rw [if_pos hV]; exact mchk_4v q dl a0 a1 a2 a3 a4 a5 a6 a7 a8 key too val w hV
  rw [if_neg k4]
  by_cases hT : too.toList = []
  · by_cases hV : val.toList = []
    · by_cases hD : dl = 0
      · subst hD; exact mchk_oo k q a0 a1 a2 a3 a4 a5 a6 a7 a8 key too val w k1 k2 k3 k4 hT hV
      · exact mchk_od k q dl a0 a1 a2 a3 a4 a5 a6 a7 a8 key too val w k1 k2 k3 k4 hT hV hD
    · exact mchk_ov k q dl a0 a1 a2 a3 a4 a5 a6 a7 a8 key too val w k1 k2 k3 k4 hT hV
  · exact mchk_ot k q dl a0 a1 a2 a3 a4 a5 a6 a7 a8 key too val w k1 k2 k3 k4 hT
end Go.Proofs.YtdebedeebmmleaaGreatDoor
