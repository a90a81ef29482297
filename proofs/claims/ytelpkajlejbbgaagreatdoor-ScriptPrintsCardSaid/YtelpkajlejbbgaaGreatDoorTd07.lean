/- Texts of the proof, one behind the other. -/
import Derived.Test.YtelpkajlejbbgaaGreatDoorTd01
set_option linter.unusedVariables false
set_option linter.unusedSimpArgs false
namespace Go.Proofs.YtelpkajlejbbgaaGreatDoor
open Go.RowKit

set_option maxRecDepth 100000 in
set_option maxHeartbeats 2000000 in
theorem mchk_4v (q dl a0 a1 a2 a3 a4 a5 a6 a7 a8 : Int) (key too val : ByteArray) (w : World)  (hV : ¬ val.toList = []) :
    Calls Tryz.prog 69 #[.agg #[.int .u8 4, .int .i64 q, .string key, .string too, .string val, .int .u64 dl], cfg a0 a1 a2 a3 a4 a5 a6 a7 a8] w fun e w' => e = .returned (.int .i64 (3)) ∧ Below w.heap.size w w' := by
  have C := Lib.hid (fun w => mpure_4 q dl key too val w)
  go_enter Tryz.func69, Tryz.ntmps69
  go_wp2_with fail
  obtain ⟨W, hWW⟩ : ∃ W, W = (w.alloc (.cells #[.int .u8 4, .int .i64 q, .string key, .string too, .string val, .int .u64 dl] 51)).alloc (.cells #[.int .i64 a0, .int .i64 a1, .int .i64 a2, .int .i64 a3, .int .i64 a4, .int .i64 a5, .int .i64 a6, .int .i64 a7, .int .i64 a8] 23) := ⟨_, rfl⟩
  have e0 : W.cell? ⟨w.heap.size, 0, none⟩ = some (.int .u8 4) := by rw [hWW]; simp [go_sem]
  have e1 : W.cell? ⟨w.heap.size, 1, none⟩ = some (.int .i64 q) := by rw [hWW]; simp [go_sem]
  have e2 : W.cell? ⟨w.heap.size, 2, none⟩ = some (.string key) := by rw [hWW]; simp [go_sem]
  have e3 : W.cell? ⟨w.heap.size, 3, none⟩ = some (.string too) := by rw [hWW]; simp [go_sem]
  have e4 : W.cell? ⟨w.heap.size, 4, none⟩ = some (.string val) := by rw [hWW]; simp [go_sem]
  have e5 : W.cell? ⟨w.heap.size, 5, none⟩ = some (.int .u64 dl) := by rw [hWW]; simp [go_sem]
  have e6 : W.cell? ⟨w.heap.size + 1, 0, none⟩ = some (.int .i64 a0) := by rw [hWW]; simp [go_sem]
  have e7 : W.cell? ⟨w.heap.size + 1, 1, none⟩ = some (.int .i64 a1) := by rw [hWW]; simp [go_sem]
  have hW : Below w.heap.size w W := by rw [hWW]; go_grown
  have hS : w.heap.size ≤ W.heap.size := hW.size
  rw [← hWW]
  clear hWW
  go_region_with (go_at_call 83; (with_reducible refine (C.out _).mono ?_); rintro e w1 ⟨rfl, hb⟩; have d0 : w1.cell? ⟨w.heap.size, 0, none⟩ = some (.int .u8 4) := (by first | exact bel_later hb e0 | exact bel_later (bel_dr hb) e0); have d1 : w1.cell? ⟨w.heap.size, 1, none⟩ = some (.int .i64 q) := (by first | exact bel_later hb e1 | exact bel_later (bel_dr hb) e1); have d2 : w1.cell? ⟨w.heap.size, 2, none⟩ = some (.string key) := (by first | exact bel_later hb e2 | exact bel_later (bel_dr hb) e2); have d3 : w1.cell? ⟨w.heap.size, 3, none⟩ = some (.string too) := (by first | exact bel_later hb e3 | exact bel_later (bel_dr hb) e3); have d4 : w1.cell? ⟨w.heap.size, 4, none⟩ = some (.string val) := (by first | exact bel_later hb e4 | exact bel_later (bel_dr hb) e4); have d5 : w1.cell? ⟨w.heap.size, 5, none⟩ = some (.int .u64 dl) := (by first | exact bel_later hb e5 | exact bel_later (bel_dr hb) e5); have d6 : w1.cell? ⟨w.heap.size + 1, 0, none⟩ = some (.int .i64 a0) := (by first | exact bel_later hb e6 | exact bel_later (bel_dr hb) e6); have d7 : w1.cell? ⟨w.heap.size + 1, 1, none⟩ = some (.int .i64 a1) := (by first | exact bel_later hb e7 | exact bel_later (bel_dr hb) e7); have hw1 : Below w.heap.size w w1 := (by first | exact hW.trans (hb.mono hS) | exact hW.trans ((bel_dr hb).mono hS)); clear hb)
  all_goals
    go_wp2
    go_ret
    exact ⟨rfl, by first | exact hw1 | exact bel_step hw1 (by assumption) (Nat.le_refl _) | go_grown⟩
set_option maxRecDepth 100000 in
set_option maxHeartbeats 2000000 in
theorem mchk_4d (q dl a0 a1 a2 a3 a4 a5 a6 a7 a8 : Int) (key too val : ByteArray) (w : World)  (hV : val.toList = []) (hD : ¬ dl = 0) :
    Calls Tryz.prog 69 #[.agg #[.int .u8 4, .int .i64 q, .string key, .string too, .string val, .int .u64 dl], cfg a0 a1 a2 a3 a4 a5 a6 a7 a8] w fun e w' => e = .returned (.int .i64 (3)) ∧ Below w.heap.size w w' := by
  have C := Lib.hid (fun w => mpure_4 q dl key too val w)
  go_enter Tryz.func69, Tryz.ntmps69
  go_wp2_with fail
  obtain ⟨W, hWW⟩ : ∃ W, W = (w.alloc (.cells #[.int .u8 4, .int .i64 q, .string key, .string too, .string val, .int .u64 dl] 51)).alloc (.cells #[.int .i64 a0, .int .i64 a1, .int .i64 a2, .int .i64 a3, .int .i64 a4, .int .i64 a5, .int .i64 a6, .int .i64 a7, .int .i64 a8] 23) := ⟨_, rfl⟩
  have e0 : W.cell? ⟨w.heap.size, 0, none⟩ = some (.int .u8 4) := by rw [hWW]; simp [go_sem]
  have e1 : W.cell? ⟨w.heap.size, 1, none⟩ = some (.int .i64 q) := by rw [hWW]; simp [go_sem]
  have e2 : W.cell? ⟨w.heap.size, 2, none⟩ = some (.string key) := by rw [hWW]; simp [go_sem]
  have e3 : W.cell? ⟨w.heap.size, 3, none⟩ = some (.string too) := by rw [hWW]; simp [go_sem]
  have e4 : W.cell? ⟨w.heap.size, 4, none⟩ = some (.string val) := by rw [hWW]; simp [go_sem]
  have e5 : W.cell? ⟨w.heap.size, 5, none⟩ = some (.int .u64 dl) := by rw [hWW]; simp [go_sem]
  have e6 : W.cell? ⟨w.heap.size + 1, 0, none⟩ = some (.int .i64 a0) := by rw [hWW]; simp [go_sem]
  have e7 : W.cell? ⟨w.heap.size + 1, 1, none⟩ = some (.int .i64 a1) := by rw [hWW]; simp [go_sem]
  have hW : Below w.heap.size w W := by rw [hWW]; go_grown
  have hS : w.heap.size ≤ W.heap.size := hW.size
  rw [← hWW]
  clear hWW
  go_region_with (go_at_call 83; (with_reducible refine (C.out _).mono ?_); rintro e w1 ⟨rfl, hb⟩; have d0 : w1.cell? ⟨w.heap.size, 0, none⟩ = some (.int .u8 4) := (by first | exact bel_later hb e0 | exact bel_later (bel_dr hb) e0); have d1 : w1.cell? ⟨w.heap.size, 1, none⟩ = some (.int .i64 q) := (by first | exact bel_later hb e1 | exact bel_later (bel_dr hb) e1); have d2 : w1.cell? ⟨w.heap.size, 2, none⟩ = some (.string key) := (by first | exact bel_later hb e2 | exact bel_later (bel_dr hb) e2); have d3 : w1.cell? ⟨w.heap.size, 3, none⟩ = some (.string too) := (by first | exact bel_later hb e3 | exact bel_later (bel_dr hb) e3); have d4 : w1.cell? ⟨w.heap.size, 4, none⟩ = some (.string val) := (by first | exact bel_later hb e4 | exact bel_later (bel_dr hb) e4); have d5 : w1.cell? ⟨w.heap.size, 5, none⟩ = some (.int .u64 dl) := (by first | exact bel_later hb e5 | exact bel_later (bel_dr hb) e5); have d6 : w1.cell? ⟨w.heap.size + 1, 0, none⟩ = some (.int .i64 a0) := (by first | exact bel_later hb e6 | exact bel_later (bel_dr hb) e6); have d7 : w1.cell? ⟨w.heap.size + 1, 1, none⟩ = some (.int .i64 a1) := (by first | exact bel_later hb e7 | exact bel_later (bel_dr hb) e7); have hw1 : Below w.heap.size w w1 := (by first | exact hW.trans (hb.mono hS) | exact hW.trans ((bel_dr hb).mono hS)); clear hb)
  all_goals
    go_wp2
    go_ret
    exact ⟨rfl, by first | exact hw1 | exact bel_step hw1 (by assumption) (Nat.le_refl _) | go_grown⟩
set_option maxRecDepth 100000 in
set_option maxHeartbeats 2000000 in
theorem mchk_4s (q a0 a1 a2 a3 a4 a5 a6 a7 a8 : Int) (key too val : ByteArray) (w : World)  (hV : val.toList = []) (hS : a0 < (key.size : Int)) :
    Calls Tryz.prog 69 #[.agg #[.int .u8 4, .int .i64 q, .string key, .string too, .string val, .int .u64 0], cfg a0 a1 a2 a3 a4 a5 a6 a7 a8] w fun e w' => e = .returned (.int .i64 (6)) ∧ Below w.heap.size w w' := by
  have C := Lib.hid (fun w => mpure_4 q 0 key too val w)
  go_enter Tryz.func69, Tryz.ntmps69
  go_wp2_with fail
  obtain ⟨W, hWW⟩ : ∃ W, W = (w.alloc (.cells #[.int .u8 4, .int .i64 q, .string key, .string too, .string val, .int .u64 0] 51)).alloc (.cells #[.int .i64 a0, .int .i64 a1, .int .i64 a2, .int .i64 a3, .int .i64 a4, .int .i64 a5, .int .i64 a6, .int .i64 a7, .int .i64 a8] 23) := ⟨_, rfl⟩
  have e0 : W.cell? ⟨w.heap.size, 0, none⟩ = some (.int .u8 4) := by rw [hWW]; simp [go_sem]
  have e1 : W.cell? ⟨w.heap.size, 1, none⟩ = some (.int .i64 q) := by rw [hWW]; simp [go_sem]
  have e2 : W.cell? ⟨w.heap.size, 2, none⟩ = some (.string key) := by rw [hWW]; simp [go_sem]
  have e3 : W.cell? ⟨w.heap.size, 3, none⟩ = some (.string too) := by rw [hWW]; simp [go_sem]
  have e4 : W.cell? ⟨w.heap.size, 4, none⟩ = some (.string val) := by rw [hWW]; simp [go_sem]
  have e5 : W.cell? ⟨w.heap.size, 5, none⟩ = some (.int .u64 0) := by rw [hWW]; simp [go_sem]
  have e6 : W.cell? ⟨w.heap.size + 1, 0, none⟩ = some (.int .i64 a0) := by rw [hWW]; simp [go_sem]
  have e7 : W.cell? ⟨w.heap.size + 1, 1, none⟩ = some (.int .i64 a1) := by rw [hWW]; simp [go_sem]
  have hW : Below w.heap.size w W := by rw [hWW]; go_grown
  have hS : w.heap.size ≤ W.heap.size := hW.size
  rw [← hWW]
  clear hWW
  go_region_with (go_at_call 83; (with_reducible refine (C.out _).mono ?_); rintro e w1 ⟨rfl, hb⟩; have d0 : w1.cell? ⟨w.heap.size, 0, none⟩ = some (.int .u8 4) := (by first | exact bel_later hb e0 | exact bel_later (bel_dr hb) e0); have d1 : w1.cell? ⟨w.heap.size, 1, none⟩ = some (.int .i64 q) := (by first | exact bel_later hb e1 | exact bel_later (bel_dr hb) e1); have d2 : w1.cell? ⟨w.heap.size, 2, none⟩ = some (.string key) := (by first | exact bel_later hb e2 | exact bel_later (bel_dr hb) e2); have d3 : w1.cell? ⟨w.heap.size, 3, none⟩ = some (.string too) := (by first | exact bel_later hb e3 | exact bel_later (bel_dr hb) e3); have d4 : w1.cell? ⟨w.heap.size, 4, none⟩ = some (.string val) := (by first | exact bel_later hb e4 | exact bel_later (bel_dr hb) e4); have d5 : w1.cell? ⟨w.heap.size, 5, none⟩ = some (.int .u64 0) := (by first | exact bel_later hb e5 | exact bel_later (bel_dr hb) e5); have d6 : w1.cell? ⟨w.heap.size + 1, 0, none⟩ = some (.int .i64 a0) := (by first | exact bel_later hb e6 | exact bel_later (bel_dr hb) e6); have d7 : w1.cell? ⟨w.heap.size + 1, 1, none⟩ = some (.int .i64 a1) := (by first | exact bel_later hb e7 | exact bel_later (bel_dr hb) e7); have hw1 : Below w.heap.size w w1 := (by first | exact hW.trans (hb.mono hS) | exact hW.trans ((bel_dr hb).mono hS)); clear hb)
  all_goals
    go_wp2
    go_ret
    exact ⟨rfl, by first | exact hw1 | exact bel_step hw1 (by assumption) (Nat.le_refl _) | go_grown⟩
set_option maxRecDepth 100000 in
set_option maxHeartbeats 2000000 in
theorem mchk_4u (q a0 a1 a2 a3 a4 a5 a6 a7 a8 : Int) (key too val : ByteArray) (w : World)  (hV : val.toList = []) (hS : ¬ a0 < (key.size : Int)) (hU : a0 < (too.size : Int)) :
    Calls Tryz.prog 69 #[.agg #[.int .u8 4, .int .i64 q, .string key, .string too, .string val, .int .u64 0], cfg a0 a1 a2 a3 a4 a5 a6 a7 a8] w fun e w' => e = .returned (.int .i64 (6)) ∧ Below w.heap.size w w' := by
  have C := Lib.hid (fun w => mpure_4 q 0 key too val w)
  go_enter Tryz.func69, Tryz.ntmps69
  go_wp2_with fail
  obtain ⟨W, hWW⟩ : ∃ W, W = (w.alloc (.cells #[.int .u8 4, .int .i64 q, .string key, .string too, .string val, .int .u64 0] 51)).alloc (.cells #[.int .i64 a0, .int .i64 a1, .int .i64 a2, .int .i64 a3, .int .i64 a4, .int .i64 a5, .int .i64 a6, .int .i64 a7, .int .i64 a8] 23) := ⟨_, rfl⟩
  have e0 : W.cell? ⟨w.heap.size, 0, none⟩ = some (.int .u8 4) := by rw [hWW]; simp [go_sem]
  have e1 : W.cell? ⟨w.heap.size, 1, none⟩ = some (.int .i64 q) := by rw [hWW]; simp [go_sem]
  have e2 : W.cell? ⟨w.heap.size, 2, none⟩ = some (.string key) := by rw [hWW]; simp [go_sem]
  have e3 : W.cell? ⟨w.heap.size, 3, none⟩ = some (.string too) := by rw [hWW]; simp [go_sem]
  have e4 : W.cell? ⟨w.heap.size, 4, none⟩ = some (.string val) := by rw [hWW]; simp [go_sem]
  have e5 : W.cell? ⟨w.heap.size, 5, none⟩ = some (.int .u64 0) := by rw [hWW]; simp [go_sem]
  have e6 : W.cell? ⟨w.heap.size + 1, 0, none⟩ = some (.int .i64 a0) := by rw [hWW]; simp [go_sem]
  have e7 : W.cell? ⟨w.heap.size + 1, 1, none⟩ = some (.int .i64 a1) := by rw [hWW]; simp [go_sem]
  have hW : Below w.heap.size w W := by rw [hWW]; go_grown
  have hS : w.heap.size ≤ W.heap.size := hW.size
  rw [← hWW]
  clear hWW
  go_region_with (go_at_call 83; (with_reducible refine (C.out _).mono ?_); rintro e w1 ⟨rfl, hb⟩; have d0 : w1.cell? ⟨w.heap.size, 0, none⟩ = some (.int .u8 4) := (by first | exact bel_later hb e0 | exact bel_later (bel_dr hb) e0); have d1 : w1.cell? ⟨w.heap.size, 1, none⟩ = some (.int .i64 q) := (by first | exact bel_later hb e1 | exact bel_later (bel_dr hb) e1); have d2 : w1.cell? ⟨w.heap.size, 2, none⟩ = some (.string key) := (by first | exact bel_later hb e2 | exact bel_later (bel_dr hb) e2); have d3 : w1.cell? ⟨w.heap.size, 3, none⟩ = some (.string too) := (by first | exact bel_later hb e3 | exact bel_later (bel_dr hb) e3); have d4 : w1.cell? ⟨w.heap.size, 4, none⟩ = some (.string val) := (by first | exact bel_later hb e4 | exact bel_later (bel_dr hb) e4); have d5 : w1.cell? ⟨w.heap.size, 5, none⟩ = some (.int .u64 0) := (by first | exact bel_later hb e5 | exact bel_later (bel_dr hb) e5); have d6 : w1.cell? ⟨w.heap.size + 1, 0, none⟩ = some (.int .i64 a0) := (by first | exact bel_later hb e6 | exact bel_later (bel_dr hb) e6); have d7 : w1.cell? ⟨w.heap.size + 1, 1, none⟩ = some (.int .i64 a1) := (by first | exact bel_later hb e7 | exact bel_later (bel_dr hb) e7); have hw1 : Below w.heap.size w w1 := (by first | exact hW.trans (hb.mono hS) | exact hW.trans ((bel_dr hb).mono hS)); clear hb)
  all_goals
    go_wp2
    go_ret
    exact ⟨rfl, by first | exact hw1 | exact bel_step hw1 (by assumption) (Nat.le_refl _) | go_grown⟩
set_option maxRecDepth 100000 in
set_option maxHeartbeats 2000000 in
theorem mchk_4g (q a0 a1 a2 a3 a4 a5 a6 a7 a8 : Int) (key too val : ByteArray) (w : World)  (hV : val.toList = []) (hS : ¬ a0 < (key.size : Int)) (hU : ¬ a0 < (too.size : Int)) (hG : sbS key too = true) :
    Calls Tryz.prog 69 #[.agg #[.int .u8 4, .int .i64 q, .string key, .string too, .string val, .int .u64 0], cfg a0 a1 a2 a3 a4 a5 a6 a7 a8] w fun e w' => e = .returned (.int .i64 (0)) ∧ Below w.heap.size w w' := by
  have C := Lib.hid (fun w => mpure_4 q 0 key too val w)
  have SP := Lib.hid (fun W => span_4 q 0 key too val W)
  have R := fun W => rightRange_any key too W
  simp only [hG] at R
  have RR := Lib.hid R
  clear R
  go_enter Tryz.func69, Tryz.ntmps69
  go_wp2_with fail
  obtain ⟨W, hWW⟩ : ∃ W, W = (w.alloc (.cells #[.int .u8 4, .int .i64 q, .string key, .string too, .string val, .int .u64 0] 51)).alloc (.cells #[.int .i64 a0, .int .i64 a1, .int .i64 a2, .int .i64 a3, .int .i64 a4, .int .i64 a5, .int .i64 a6, .int .i64 a7, .int .i64 a8] 23) := ⟨_, rfl⟩
  have e0 : W.cell? ⟨w.heap.size, 0, none⟩ = some (.int .u8 4) := by rw [hWW]; simp [go_sem]
  have e1 : W.cell? ⟨w.heap.size, 1, none⟩ = some (.int .i64 q) := by rw [hWW]; simp [go_sem]
  have e2 : W.cell? ⟨w.heap.size, 2, none⟩ = some (.string key) := by rw [hWW]; simp [go_sem]
  have e3 : W.cell? ⟨w.heap.size, 3, none⟩ = some (.string too) := by rw [hWW]; simp [go_sem]
  have e4 : W.cell? ⟨w.heap.size, 4, none⟩ = some (.string val) := by rw [hWW]; simp [go_sem]
  have e5 : W.cell? ⟨w.heap.size, 5, none⟩ = some (.int .u64 0) := by rw [hWW]; simp [go_sem]
  have e6 : W.cell? ⟨w.heap.size + 1, 0, none⟩ = some (.int .i64 a0) := by rw [hWW]; simp [go_sem]
  have e7 : W.cell? ⟨w.heap.size + 1, 1, none⟩ = some (.int .i64 a1) := by rw [hWW]; simp [go_sem]
  have hW : Below w.heap.size w W := by rw [hWW]; go_grown
  have hS : w.heap.size ≤ W.heap.size := hW.size
  rw [← hWW]
  clear hWW
  go_region_with (go_at_call 83; (with_reducible refine (C.out _).mono ?_); rintro e w1 ⟨rfl, hb⟩; have d0 : w1.cell? ⟨w.heap.size, 0, none⟩ = some (.int .u8 4) := (by first | exact bel_later hb e0 | exact bel_later (bel_dr hb) e0); have d1 : w1.cell? ⟨w.heap.size, 1, none⟩ = some (.int .i64 q) := (by first | exact bel_later hb e1 | exact bel_later (bel_dr hb) e1); have d2 : w1.cell? ⟨w.heap.size, 2, none⟩ = some (.string key) := (by first | exact bel_later hb e2 | exact bel_later (bel_dr hb) e2); have d3 : w1.cell? ⟨w.heap.size, 3, none⟩ = some (.string too) := (by first | exact bel_later hb e3 | exact bel_later (bel_dr hb) e3); have d4 : w1.cell? ⟨w.heap.size, 4, none⟩ = some (.string val) := (by first | exact bel_later hb e4 | exact bel_later (bel_dr hb) e4); have d5 : w1.cell? ⟨w.heap.size, 5, none⟩ = some (.int .u64 0) := (by first | exact bel_later hb e5 | exact bel_later (bel_dr hb) e5); have d6 : w1.cell? ⟨w.heap.size + 1, 0, none⟩ = some (.int .i64 a0) := (by first | exact bel_later hb e6 | exact bel_later (bel_dr hb) e6); have d7 : w1.cell? ⟨w.heap.size + 1, 1, none⟩ = some (.int .i64 a1) := (by first | exact bel_later hb e7 | exact bel_later (bel_dr hb) e7); have hw1 : Below w.heap.size w w1 := (by first | exact hW.trans (hb.mono hS) | exact hW.trans ((bel_dr hb).mono hS)); clear hb)
  all_goals go_wp2_with fail
  all_goals
    refine (SP.out _).mono ?_
    rintro e w2 ⟨rfl, hb2⟩
    have hw2 : Below w.heap.size w w2 := (by first | exact bel_step hw1 hb2 (Nat.le_refl _) | exact bel_step hw1 (bel_dr hb2) (Nat.le_refl _))
    clear hb2
    go_wp2_with fail
    refine (RR.out _).mono ?_
    rintro e w3 ⟨rfl, hb3⟩
    have hw3 : Below w.heap.size w w3 := (by first | exact bel_step hw2 hb3 (Nat.le_refl _) | exact bel_step hw2 (bel_dr hb3) (Nat.le_refl _))
    clear hb3
    go_wp2
    go_ret
    exact ⟨rfl, by first | exact hw3 | go_grown⟩
set_option maxRecDepth 100000 in
set_option maxHeartbeats 2000000 in
theorem mchk_4b (q a0 a1 a2 a3 a4 a5 a6 a7 a8 : Int) (key too val : ByteArray) (w : World)  (hV : val.toList = []) (hS : ¬ a0 < (key.size : Int)) (hU : ¬ a0 < (too.size : Int)) (hG : sbS key too = false) :
    Calls Tryz.prog 69 #[.agg #[.int .u8 4, .int .i64 q, .string key, .string too, .string val, .int .u64 0], cfg a0 a1 a2 a3 a4 a5 a6 a7 a8] w fun e w' => e = .returned (.int .i64 (7)) ∧ Below w.heap.size w w' := by
  have C := Lib.hid (fun w => mpure_4 q 0 key too val w)
  have SP := Lib.hid (fun W => span_4 q 0 key too val W)
  have R := fun W => rightRange_any key too W
  simp only [hG] at R
  have RR := Lib.hid R
  clear R
  go_enter Tryz.func69, Tryz.ntmps69
  go_wp2_with fail
  obtain ⟨W, hWW⟩ : ∃ W, W = (w.alloc (.cells #[.int .u8 4, .int .i64 q, .string key, .string too, .string val, .int .u64 0] 51)).alloc (.cells #[.int .i64 a0, .int .i64 a1, .int .i64 a2, .int .i64 a3, .int .i64 a4, .int .i64 a5, .int .i64 a6, .int .i64 a7, .int .i64 a8] 23) := ⟨_, rfl⟩
  have e0 : W.cell? ⟨w.heap.size, 0, none⟩ = some (.int .u8 4) := by rw [hWW]; simp [go_sem]
  have e1 : W.cell? ⟨w.heap.size, 1, none⟩ = some (.int .i64 q) := by rw [hWW]; simp [go_sem]
  have e2 : W.cell? ⟨w.heap.size, 2, none⟩ = some (.string key) := by rw [hWW]; simp [go_sem]
  have e3 : W.cell? ⟨w.heap.size, 3, none⟩ = some (.string too) := by rw [hWW]; simp [go_sem]
  have e4 : W.cell? ⟨w.heap.size, 4, none⟩ = some (.string val) := by rw [hWW]; simp [go_sem]
  have e5 : W.cell? ⟨w.heap.size, 5, none⟩ = some (.int .u64 0) := by rw [hWW]; simp [go_sem]
  have e6 : W.cell? ⟨w.heap.size + 1, 0, none⟩ = some (.int .i64 a0) := by rw [hWW]; simp [go_sem]
  have e7 : W.cell? ⟨w.heap.size + 1, 1, none⟩ = some (.int .i64 a1) := by rw [hWW]; simp [go_sem]
  have hW : Below w.heap.size w W := by rw [hWW]; go_grown
  have hS : w.heap.size ≤ W.heap.size := hW.size
  rw [← hWW]
  clear hWW
  go_region_with (go_at_call 83; (with_reducible refine (C.out _).mono ?_); rintro e w1 ⟨rfl, hb⟩; have d0 : w1.cell? ⟨w.heap.size, 0, none⟩ = some (.int .u8 4) := (by first | exact bel_later hb e0 | exact bel_later (bel_dr hb) e0); have d1 : w1.cell? ⟨w.heap.size, 1, none⟩ = some (.int .i64 q) := (by first | exact bel_later hb e1 | exact bel_later (bel_dr hb) e1); have d2 : w1.cell? ⟨w.heap.size, 2, none⟩ = some (.string key) := (by first | exact bel_later hb e2 | exact bel_later (bel_dr hb) e2); have d3 : w1.cell? ⟨w.heap.size, 3, none⟩ = some (.string too) := (by first | exact bel_later hb e3 | exact bel_later (bel_dr hb) e3); have d4 : w1.cell? ⟨w.heap.size, 4, none⟩ = some (.string val) := (by first | exact bel_later hb e4 | exact bel_later (bel_dr hb) e4); have d5 : w1.cell? ⟨w.heap.size, 5, none⟩ = some (.int .u64 0) := (by first | exact bel_later hb e5 | exact bel_later (bel_dr hb) e5); have d6 : w1.cell? ⟨w.heap.size + 1, 0, none⟩ = some (.int .i64 a0) := (by first | exact bel_later hb e6 | exact bel_later (bel_dr hb) e6); have d7 : w1.cell? ⟨w.heap.size + 1, 1, none⟩ = some (.int .i64 a1) := (by first | exact bel_later hb e7 | exact bel_later (bel_dr hb) e7); have hw1 : Below w.heap.size w w1 := (by first | exact hW.trans (hb.mono hS) | exact hW.trans ((bel_dr hb).mono hS)); clear hb)
  all_goals go_wp2_with fail
  all_goals
    refine (SP.out _).mono ?_
    rintro e w2 ⟨rfl, hb2⟩
    have hw2 : Below w.heap.size w w2 := (by first | exact bel_step hw1 hb2 (Nat.le_refl _) | exact bel_step hw1 (bel_dr hb2) (Nat.le_refl _))
    clear hb2
    go_wp2_with fail
    refine (RR.out _).mono ?_
    rintro e w3 ⟨rfl, hb3⟩
    have hw3 : Below w.heap.size w w3 := (by first | exact bel_step hw2 hb3 (Nat.le_refl _) | exact bel_step hw2 (bel_dr hb3) (Nat.le_refl _))
    clear hb3
    go_wp2
    go_ret
    exact ⟨rfl, by first | exact hw3 | go_grown⟩
end Go.Proofs.YtelpkajlejbbgaaGreatDoor
namespace Go.Proofs.YtelpkajlejbbgaaGreatDoor
open Go.RowKit

/-- Has an operation nothing but what belongs to its kind? -/
def opureB (k n : Int) (key too : ByteArray) (len : Nat) : Bool :=
  if k = 1 then emp too && (n == 0) && (len == 0)
  else if k = 2 then emp key && emp too && (n == 0)
  else if k = 3 then len == 0
  else if k = 4 then (n == 0) && (len == 0)
  else if k = 5 ∨ k = 6 then emp key && emp too && (len == 0)
  else false

set_option maxRecDepth 100000 in
set_option maxHeartbeats 4000000 in
theorem opure_y (k n : Int) (key too : ByteArray) (B : Option Addr) (len cap : Nat) (w : World) (hk : key.toList = []) :
    Calls Tryz.prog 55 #[.agg #[.int .u8 k, .string key, .string too, .int .i64 n, .slice B len cap]] w fun e w' => e = .returned (.bool (opureB k n key too len)) ∧ Below w.heap.size w w' := by
  obtain ⟨r, hr⟩ : ∃ r, r = opureB k n key too len := ⟨_, rfl⟩
  rw [← hr]
  have HR := Lib.hid hr
  clear hr
  have hke : key.toList.isEmpty = true := by simp [hk]
  go_enter Tryz.func55, Tryz.ntmps55
  go_wp2_with fail
  obtain ⟨W, hWW⟩ : ∃ W, W = w.alloc (.cells #[.int .u8 k, .string key, .string too, .int .i64 n, .slice B len cap] 47) := ⟨_, rfl⟩
  have e0 : W.cell? ⟨w.heap.size, 0, none⟩ = some (.int .u8 k) := by rw [hWW]; simp [go_sem]
  have e1 : W.cell? ⟨w.heap.size, 1, none⟩ = some (.string key) := by rw [hWW]; simp [go_sem]
  have e2 : W.cell? ⟨w.heap.size, 2, none⟩ = some (.string too) := by rw [hWW]; simp [go_sem]
  have e3 : W.cell? ⟨w.heap.size, 3, none⟩ = some (.int .i64 n) := by rw [hWW]; simp [go_sem]
  have e4 : W.cell? ⟨w.heap.size, 4, none⟩ = some (.slice B len cap) := by rw [hWW]; simp [go_sem]
  have hW : Below w.heap.size w W := by rw [hWW]; go_grown
  rw [← hWW]
  clear hWW
  go_quiet (fail)
  go_wp2_with fail
  all_goals
    go_ret
    refine ⟨?_, below_drewN hW _⟩
    rw [HR.out]
    have hbq : ((len : Int) == 0) = (len == 0) := by rw [Bool.eq_iff_iff]; simp
    clear HR
    first
    | (simp_all [opureB, emp]; done)
    | (simp [opureB, emp, *]; done)
    | (trace_state; fail)
set_option maxRecDepth 100000 in
set_option maxHeartbeats 4000000 in
theorem opure_n (k n : Int) (key too : ByteArray) (B : Option Addr) (len cap : Nat) (w : World) (hk : ¬ key.toList = []) :
    Calls Tryz.prog 55 #[.agg #[.int .u8 k, .string key, .string too, .int .i64 n, .slice B len cap]] w fun e w' => e = .returned (.bool (opureB k n key too len)) ∧ Below w.heap.size w w' := by
  obtain ⟨r, hr⟩ : ∃ r, r = opureB k n key too len := ⟨_, rfl⟩
  rw [← hr]
  have HR := Lib.hid hr
  clear hr
  have hke : key.toList.isEmpty = false := by simp [hk]
  go_enter Tryz.func55, Tryz.ntmps55
  go_wp2_with fail
  obtain ⟨W, hWW⟩ : ∃ W, W = w.alloc (.cells #[.int .u8 k, .string key, .string too, .int .i64 n, .slice B len cap] 47) := ⟨_, rfl⟩
  have e0 : W.cell? ⟨w.heap.size, 0, none⟩ = some (.int .u8 k) := by rw [hWW]; simp [go_sem]
  have e1 : W.cell? ⟨w.heap.size, 1, none⟩ = some (.string key) := by rw [hWW]; simp [go_sem]
  have e2 : W.cell? ⟨w.heap.size, 2, none⟩ = some (.string too) := by rw [hWW]; simp [go_sem]
  have e3 : W.cell? ⟨w.heap.size, 3, none⟩ = some (.int .i64 n) := by rw [hWW]; simp [go_sem]
  have e4 : W.cell? ⟨w.heap.size, 4, none⟩ = some (.slice B len cap) := by rw [hWW]; simp [go_sem]
  have hW : Below w.heap.size w W := by rw [hWW]; go_grown
  rw [← hWW]
  clear hWW
  go_quiet (fail)
  go_wp2_with fail
  all_goals
    go_ret
    refine ⟨?_, below_drewN hW _⟩
    rw [HR.out]
    have hbq : ((len : Int) == 0) = (len == 0) := by rw [Bool.eq_iff_iff]; simp
    clear HR
    first
    | (simp_all [opureB, emp]; done)
    | (simp [opureB, emp, *]; done)
    | (trace_state; fail)
theorem opure_any (k n : Int) (key too : ByteArray) (B : Option Addr) (len cap : Nat) (w : World) :
    Calls Tryz.prog 55 #[.agg #[.int .u8 k, .string key, .string too, .int .i64 n, .slice B len cap]] w fun e w' => e = .returned (.bool (opureB k n key too len)) ∧ Below w.heap.size w w' := by
  by_cases h : key.toList = []
  · exact opure_y k n key too B len cap w h
  · exact opure_n k n key too B len cap w h
end Go.Proofs.YtelpkajlejbbgaaGreatDoor
namespace Go.Proofs.YtelpkajlejbbgaaGreatDoor
open Go.RowKit

set_option maxRecDepth 100000 in
set_option maxHeartbeats 4000000 in
theorem ar_a (k n a0 a1 a2 a3 a4 a5 a6 a7 a8 : Int) (key too : ByteArray) (B : Option Addr) (len cap : Nat) (w : World) (h1 : a0 < (key.size : Int)) :
    Calls Tryz.prog 58 #[.agg #[.int .u8 k, .string key, .string too, .int .i64 n, .slice B len cap], cfg a0 a1 a2 a3 a4 a5 a6 a7 a8] w fun e w' => e = .returned (.int .i64 6) ∧ Below w.heap.size w w' := by
  have h1d : decide (a0 < (key.size : Int)) = true := by simp [h1]
  go_enter Tryz.func58, Tryz.ntmps58
  go_wp2_with fail
  obtain ⟨W, hWW⟩ : ∃ W, W = (w.alloc (.cells #[.int .u8 k, .string key, .string too, .int .i64 n, .slice B len cap] 47)).alloc (.cells #[.int .i64 a0, .int .i64 a1, .int .i64 a2, .int .i64 a3, .int .i64 a4, .int .i64 a5, .int .i64 a6, .int .i64 a7, .int .i64 a8] 23) := ⟨_, rfl⟩
  have e0 : W.cell? ⟨w.heap.size, 0, none⟩ = some (.int .u8 k) := by rw [hWW]; simp [go_sem]
  have e1 : W.cell? ⟨w.heap.size, 1, none⟩ = some (.string key) := by rw [hWW]; simp [go_sem]
  have e2 : W.cell? ⟨w.heap.size, 2, none⟩ = some (.string too) := by rw [hWW]; simp [go_sem]
  have e3 : W.cell? ⟨w.heap.size, 3, none⟩ = some (.int .i64 n) := by rw [hWW]; simp [go_sem]
  have e4 : W.cell? ⟨w.heap.size + 1, 0, none⟩ = some (.int .i64 a0) := by rw [hWW]; simp [go_sem]
  have e5 : W.cell? ⟨w.heap.size + 1, 8, none⟩ = some (.int .i64 a8) := by rw [hWW]; simp [go_sem]
  have hW : Below w.heap.size w W := by rw [hWW]; go_grown
  rw [← hWW]
  clear hWW
  go_ret
  exact ⟨rfl, hW⟩
set_option maxRecDepth 100000 in
set_option maxHeartbeats 4000000 in
theorem ar_b (k n a0 a1 a2 a3 a4 a5 a6 a7 a8 : Int) (key too : ByteArray) (B : Option Addr) (len cap : Nat) (w : World) (h1 : ¬ a0 < (key.size : Int)) (h2 : a0 < (too.size : Int)) :
    Calls Tryz.prog 58 #[.agg #[.int .u8 k, .string key, .string too, .int .i64 n, .slice B len cap], cfg a0 a1 a2 a3 a4 a5 a6 a7 a8] w fun e w' => e = .returned (.int .i64 6) ∧ Below w.heap.size w w' := by
  have h1d : decide (a0 < (key.size : Int)) = false := by simp [h1]
  have h2d : decide (a0 < (too.size : Int)) = true := by simp [h2]
  go_enter Tryz.func58, Tryz.ntmps58
  go_wp2_with fail
  obtain ⟨W, hWW⟩ : ∃ W, W = (w.alloc (.cells #[.int .u8 k, .string key, .string too, .int .i64 n, .slice B len cap] 47)).alloc (.cells #[.int .i64 a0, .int .i64 a1, .int .i64 a2, .int .i64 a3, .int .i64 a4, .int .i64 a5, .int .i64 a6, .int .i64 a7, .int .i64 a8] 23) := ⟨_, rfl⟩
  have e0 : W.cell? ⟨w.heap.size, 0, none⟩ = some (.int .u8 k) := by rw [hWW]; simp [go_sem]
  have e1 : W.cell? ⟨w.heap.size, 1, none⟩ = some (.string key) := by rw [hWW]; simp [go_sem]
  have e2 : W.cell? ⟨w.heap.size, 2, none⟩ = some (.string too) := by rw [hWW]; simp [go_sem]
  have e3 : W.cell? ⟨w.heap.size, 3, none⟩ = some (.int .i64 n) := by rw [hWW]; simp [go_sem]
  have e4 : W.cell? ⟨w.heap.size + 1, 0, none⟩ = some (.int .i64 a0) := by rw [hWW]; simp [go_sem]
  have e5 : W.cell? ⟨w.heap.size + 1, 8, none⟩ = some (.int .i64 a8) := by rw [hWW]; simp [go_sem]
  have hW : Below w.heap.size w W := by rw [hWW]; go_grown
  rw [← hWW]
  clear hWW
  go_ret
  exact ⟨rfl, hW⟩
set_option maxRecDepth 100000 in
set_option maxHeartbeats 4000000 in
theorem ar_c (k n a0 a1 a2 a3 a4 a5 a6 a7 a8 : Int) (key too : ByteArray) (B : Option Addr) (len cap : Nat) (w : World) (h1 : ¬ a0 < (key.size : Int)) (h2 : ¬ a0 < (too.size : Int)) (h3 : sbS key too = false) :
    Calls Tryz.prog 58 #[.agg #[.int .u8 k, .string key, .string too, .int .i64 n, .slice B len cap], cfg a0 a1 a2 a3 a4 a5 a6 a7 a8] w fun e w' => e = .returned (.int .i64 7) ∧ Below w.heap.size w w' := by
  have h1d : decide (a0 < (key.size : Int)) = false := by simp [h1]
  have h2d : decide (a0 < (too.size : Int)) = false := by simp [h2]
  have R := fun W => rightRange_any key too W
  simp only [h3] at R
  have RR := Lib.hid R
  clear R
  go_enter Tryz.func58, Tryz.ntmps58
  go_wp2_with fail
  obtain ⟨W, hWW⟩ : ∃ W, W = (w.alloc (.cells #[.int .u8 k, .string key, .string too, .int .i64 n, .slice B len cap] 47)).alloc (.cells #[.int .i64 a0, .int .i64 a1, .int .i64 a2, .int .i64 a3, .int .i64 a4, .int .i64 a5, .int .i64 a6, .int .i64 a7, .int .i64 a8] 23) := ⟨_, rfl⟩
  have e0 : W.cell? ⟨w.heap.size, 0, none⟩ = some (.int .u8 k) := by rw [hWW]; simp [go_sem]
  have e1 : W.cell? ⟨w.heap.size, 1, none⟩ = some (.string key) := by rw [hWW]; simp [go_sem]
  have e2 : W.cell? ⟨w.heap.size, 2, none⟩ = some (.string too) := by rw [hWW]; simp [go_sem]
  have e3 : W.cell? ⟨w.heap.size, 3, none⟩ = some (.int .i64 n) := by rw [hWW]; simp [go_sem]
  have e4 : W.cell? ⟨w.heap.size + 1, 0, none⟩ = some (.int .i64 a0) := by rw [hWW]; simp [go_sem]
  have e5 : W.cell? ⟨w.heap.size + 1, 8, none⟩ = some (.int .i64 a8) := by rw [hWW]; simp [go_sem]
  have hW : Below w.heap.size w W := by rw [hWW]; go_grown
  rw [← hWW]
  clear hWW
  refine (RR.out _).mono ?_
  rintro e w1 ⟨rfl, hb⟩
  have d0 : w1.cell? ⟨w.heap.size, 0, none⟩ = some (.int .u8 k) := bel_later hb e0
  have d1 : w1.cell? ⟨w.heap.size, 1, none⟩ = some (.string key) := bel_later hb e1
  have d2 : w1.cell? ⟨w.heap.size, 2, none⟩ = some (.string too) := bel_later hb e2
  have d3 : w1.cell? ⟨w.heap.size, 3, none⟩ = some (.int .i64 n) := bel_later hb e3
  have d4 : w1.cell? ⟨w.heap.size + 1, 0, none⟩ = some (.int .i64 a0) := bel_later hb e4
  have d5 : w1.cell? ⟨w.heap.size + 1, 8, none⟩ = some (.int .i64 a8) := bel_later hb e5
  have hw1 : Below w.heap.size w w1 := bel_step hW hb (Nat.le_refl _)
  clear hb hW e0 e1 e2 e3 e4 e5
  go_wp2
  go_ret
  exact ⟨rfl, hw1⟩
set_option maxRecDepth 100000 in
set_option maxHeartbeats 4000000 in
theorem ar_d (n a0 a1 a2 a3 a4 a5 a6 a7 a8 : Int) (key too : ByteArray) (B : Option Addr) (len cap : Nat) (w : World) (h1 : ¬ a0 < (key.size : Int)) (h2 : ¬ a0 < (too.size : Int)) (h3 : sbS key too = true) (h5 : n < 1) :
    Calls Tryz.prog 58 #[.agg #[.int .u8 3, .string key, .string too, .int .i64 n, .slice B len cap], cfg a0 a1 a2 a3 a4 a5 a6 a7 a8] w fun e w' => e = .returned (.int .i64 4) ∧ Below w.heap.size w w' := by
  have h1d : decide (a0 < (key.size : Int)) = false := by simp [h1]
  have h2d : decide (a0 < (too.size : Int)) = false := by simp [h2]
  have R := fun W => rightRange_any key too W
  simp only [h3] at R
  have RR := Lib.hid R
  clear R
  go_enter Tryz.func58, Tryz.ntmps58
  go_wp2_with fail
  obtain ⟨W, hWW⟩ : ∃ W, W = (w.alloc (.cells #[.int .u8 3, .string key, .string too, .int .i64 n, .slice B len cap] 47)).alloc (.cells #[.int .i64 a0, .int .i64 a1, .int .i64 a2, .int .i64 a3, .int .i64 a4, .int .i64 a5, .int .i64 a6, .int .i64 a7, .int .i64 a8] 23) := ⟨_, rfl⟩
  have e0 : W.cell? ⟨w.heap.size, 0, none⟩ = some (.int .u8 3) := by rw [hWW]; simp [go_sem]
  have e1 : W.cell? ⟨w.heap.size, 1, none⟩ = some (.string key) := by rw [hWW]; simp [go_sem]
  have e2 : W.cell? ⟨w.heap.size, 2, none⟩ = some (.string too) := by rw [hWW]; simp [go_sem]
  have e3 : W.cell? ⟨w.heap.size, 3, none⟩ = some (.int .i64 n) := by rw [hWW]; simp [go_sem]
  have e4 : W.cell? ⟨w.heap.size + 1, 0, none⟩ = some (.int .i64 a0) := by rw [hWW]; simp [go_sem]
  have e5 : W.cell? ⟨w.heap.size + 1, 8, none⟩ = some (.int .i64 a8) := by rw [hWW]; simp [go_sem]
  have hW : Below w.heap.size w W := by rw [hWW]; go_grown
  rw [← hWW]
  clear hWW
  refine (RR.out _).mono ?_
  rintro e w1 ⟨rfl, hb⟩
  have d0 : w1.cell? ⟨w.heap.size, 0, none⟩ = some (.int .u8 3) := bel_later hb e0
  have d1 : w1.cell? ⟨w.heap.size, 1, none⟩ = some (.string key) := bel_later hb e1
  have d2 : w1.cell? ⟨w.heap.size, 2, none⟩ = some (.string too) := bel_later hb e2
  have d3 : w1.cell? ⟨w.heap.size, 3, none⟩ = some (.int .i64 n) := bel_later hb e3
  have d4 : w1.cell? ⟨w.heap.size + 1, 0, none⟩ = some (.int .i64 a0) := bel_later hb e4
  have d5 : w1.cell? ⟨w.heap.size + 1, 8, none⟩ = some (.int .i64 a8) := bel_later hb e5
  have hw1 : Below w.heap.size w w1 := bel_step hW hb (Nat.le_refl _)
  clear hb hW e0 e1 e2 e3 e4 e5
  go_wp2
  go_ret
  exact ⟨rfl, hw1⟩
set_option maxRecDepth 100000 in
set_option maxHeartbeats 4000000 in
theorem ar_e (n a0 a1 a2 a3 a4 a5 a6 a7 a8 : Int) (key too : ByteArray) (B : Option Addr) (len cap : Nat) (w : World) (h1 : ¬ a0 < (key.size : Int)) (h2 : ¬ a0 < (too.size : Int)) (h3 : sbS key too = true) (h5 : ¬ n < 1) (h6 : a8 < n) :
    Calls Tryz.prog 58 #[.agg #[.int .u8 3, .string key, .string too, .int .i64 n, .slice B len cap], cfg a0 a1 a2 a3 a4 a5 a6 a7 a8] w fun e w' => e = .returned (.int .i64 4) ∧ Below w.heap.size w w' := by
  have h1d : decide (a0 < (key.size : Int)) = false := by simp [h1]
  have h2d : decide (a0 < (too.size : Int)) = false := by simp [h2]
  have R := fun W => rightRange_any key too W
  simp only [h3] at R
  have RR := Lib.hid R
  clear R
  go_enter Tryz.func58, Tryz.ntmps58
  go_wp2_with fail
  obtain ⟨W, hWW⟩ : ∃ W, W = (w.alloc (.cells #[.int .u8 3, .string key, .string too, .int .i64 n, .slice B len cap] 47)).alloc (.cells #[.int .i64 a0, .int .i64 a1, .int .i64 a2, .int .i64 a3, .int .i64 a4, .int .i64 a5, .int .i64 a6, .int .i64 a7, .int .i64 a8] 23) := ⟨_, rfl⟩
  have e0 : W.cell? ⟨w.heap.size, 0, none⟩ = some (.int .u8 3) := by rw [hWW]; simp [go_sem]
  have e1 : W.cell? ⟨w.heap.size, 1, none⟩ = some (.string key) := by rw [hWW]; simp [go_sem]
  have e2 : W.cell? ⟨w.heap.size, 2, none⟩ = some (.string too) := by rw [hWW]; simp [go_sem]
  have e3 : W.cell? ⟨w.heap.size, 3, none⟩ = some (.int .i64 n) := by rw [hWW]; simp [go_sem]
  have e4 : W.cell? ⟨w.heap.size + 1, 0, none⟩ = some (.int .i64 a0) := by rw [hWW]; simp [go_sem]
  have e5 : W.cell? ⟨w.heap.size + 1, 8, none⟩ = some (.int .i64 a8) := by rw [hWW]; simp [go_sem]
  have hW : Below w.heap.size w W := by rw [hWW]; go_grown
  rw [← hWW]
  clear hWW
  refine (RR.out _).mono ?_
  rintro e w1 ⟨rfl, hb⟩
  have d0 : w1.cell? ⟨w.heap.size, 0, none⟩ = some (.int .u8 3) := bel_later hb e0
  have d1 : w1.cell? ⟨w.heap.size, 1, none⟩ = some (.string key) := bel_later hb e1
  have d2 : w1.cell? ⟨w.heap.size, 2, none⟩ = some (.string too) := bel_later hb e2
  have d3 : w1.cell? ⟨w.heap.size, 3, none⟩ = some (.int .i64 n) := bel_later hb e3
  have d4 : w1.cell? ⟨w.heap.size + 1, 0, none⟩ = some (.int .i64 a0) := bel_later hb e4
  have d5 : w1.cell? ⟨w.heap.size + 1, 8, none⟩ = some (.int .i64 a8) := bel_later hb e5
  have hw1 : Below w.heap.size w w1 := bel_step hW hb (Nat.le_refl _)
  clear hb hW e0 e1 e2 e3 e4 e5
  go_wp2
  go_ret
  exact ⟨rfl, hw1⟩
set_option maxRecDepth 100000 in
set_option maxHeartbeats 4000000 in
theorem ar_f (n a0 a1 a2 a3 a4 a5 a6 a7 a8 : Int) (key too : ByteArray) (B : Option Addr) (len cap : Nat) (w : World) (h1 : ¬ a0 < (key.size : Int)) (h2 : ¬ a0 < (too.size : Int)) (h3 : sbS key too = true) (h5 : ¬ n < 1) (h6 : ¬ a8 < n) :
    Calls Tryz.prog 58 #[.agg #[.int .u8 3, .string key, .string too, .int .i64 n, .slice B len cap], cfg a0 a1 a2 a3 a4 a5 a6 a7 a8] w fun e w' => e = .returned (.int .i64 0) ∧ Below w.heap.size w w' := by
  have h1d : decide (a0 < (key.size : Int)) = false := by simp [h1]
  have h2d : decide (a0 < (too.size : Int)) = false := by simp [h2]
  have R := fun W => rightRange_any key too W
  simp only [h3] at R
  have RR := Lib.hid R
  clear R
  go_enter Tryz.func58, Tryz.ntmps58
  go_wp2_with fail
  obtain ⟨W, hWW⟩ : ∃ W, W = (w.alloc (.cells #[.int .u8 3, .string key, .string too, .int .i64 n, .slice B len cap] 47)).alloc (.cells #[.int .i64 a0, .int .i64 a1, .int .i64 a2, .int .i64 a3, .int .i64 a4, .int .i64 a5, .int .i64 a6, .int .i64 a7, .int .i64 a8] 23) := ⟨_, rfl⟩
  have e0 : W.cell? ⟨w.heap.size, 0, none⟩ = some (.int .u8 3) := by rw [hWW]; simp [go_sem]
  have e1 : W.cell? ⟨w.heap.size, 1, none⟩ = some (.string key) := by rw [hWW]; simp [go_sem]
  have e2 : W.cell? ⟨w.heap.size, 2, none⟩ = some (.string too) := by rw [hWW]; simp [go_sem]
  have e3 : W.cell? ⟨w.heap.size, 3, none⟩ = some (.int .i64 n) := by rw [hWW]; simp [go_sem]
  have e4 : W.cell? ⟨w.heap.size + 1, 0, none⟩ = some (.int .i64 a0) := by rw [hWW]; simp [go_sem]
  have e5 : W.cell? ⟨w.heap.size + 1, 8, none⟩ = some (.int .i64 a8) := by rw [hWW]; simp [go_sem]
  have hW : Below w.heap.size w W := by rw [hWW]; go_grown
  rw [← hWW]
  clear hWW
  refine (RR.out _).mono ?_
  rintro e w1 ⟨rfl, hb⟩
  have d0 : w1.cell? ⟨w.heap.size, 0, none⟩ = some (.int .u8 3) := bel_later hb e0
  have d1 : w1.cell? ⟨w.heap.size, 1, none⟩ = some (.string key) := bel_later hb e1
  have d2 : w1.cell? ⟨w.heap.size, 2, none⟩ = some (.string too) := bel_later hb e2
  have d3 : w1.cell? ⟨w.heap.size, 3, none⟩ = some (.int .i64 n) := bel_later hb e3
  have d4 : w1.cell? ⟨w.heap.size + 1, 0, none⟩ = some (.int .i64 a0) := bel_later hb e4
  have d5 : w1.cell? ⟨w.heap.size + 1, 8, none⟩ = some (.int .i64 a8) := bel_later hb e5
  have hw1 : Below w.heap.size w w1 := bel_step hW hb (Nat.le_refl _)
  clear hb hW e0 e1 e2 e3 e4 e5
  go_wp2
  go_ret
  exact ⟨rfl, hw1⟩
set_option maxRecDepth 100000 in
set_option maxHeartbeats 4000000 in
theorem ar_g (k n a0 a1 a2 a3 a4 a5 a6 a7 a8 : Int) (key too : ByteArray) (B : Option Addr) (len cap : Nat) (w : World) (h1 : ¬ a0 < (key.size : Int)) (h2 : ¬ a0 < (too.size : Int)) (h3 : sbS key too = true) (h4 : k ≠ 3) :
    Calls Tryz.prog 58 #[.agg #[.int .u8 k, .string key, .string too, .int .i64 n, .slice B len cap], cfg a0 a1 a2 a3 a4 a5 a6 a7 a8] w fun e w' => e = .returned (.int .i64 0) ∧ Below w.heap.size w w' := by
  have h1d : decide (a0 < (key.size : Int)) = false := by simp [h1]
  have h2d : decide (a0 < (too.size : Int)) = false := by simp [h2]
  have R := fun W => rightRange_any key too W
  simp only [h3] at R
  have RR := Lib.hid R
  clear R
  go_enter Tryz.func58, Tryz.ntmps58
  go_wp2_with fail
  obtain ⟨W, hWW⟩ : ∃ W, W = (w.alloc (.cells #[.int .u8 k, .string key, .string too, .int .i64 n, .slice B len cap] 47)).alloc (.cells #[.int .i64 a0, .int .i64 a1, .int .i64 a2, .int .i64 a3, .int .i64 a4, .int .i64 a5, .int .i64 a6, .int .i64 a7, .int .i64 a8] 23) := ⟨_, rfl⟩
  have e0 : W.cell? ⟨w.heap.size, 0, none⟩ = some (.int .u8 k) := by rw [hWW]; simp [go_sem]
  have e1 : W.cell? ⟨w.heap.size, 1, none⟩ = some (.string key) := by rw [hWW]; simp [go_sem]
  have e2 : W.cell? ⟨w.heap.size, 2, none⟩ = some (.string too) := by rw [hWW]; simp [go_sem]
  have e3 : W.cell? ⟨w.heap.size, 3, none⟩ = some (.int .i64 n) := by rw [hWW]; simp [go_sem]
  have e4 : W.cell? ⟨w.heap.size + 1, 0, none⟩ = some (.int .i64 a0) := by rw [hWW]; simp [go_sem]
  have e5 : W.cell? ⟨w.heap.size + 1, 8, none⟩ = some (.int .i64 a8) := by rw [hWW]; simp [go_sem]
  have hW : Below w.heap.size w W := by rw [hWW]; go_grown
  rw [← hWW]
  clear hWW
  refine (RR.out _).mono ?_
  rintro e w1 ⟨rfl, hb⟩
  have d0 : w1.cell? ⟨w.heap.size, 0, none⟩ = some (.int .u8 k) := bel_later hb e0
  have d1 : w1.cell? ⟨w.heap.size, 1, none⟩ = some (.string key) := bel_later hb e1
  have d2 : w1.cell? ⟨w.heap.size, 2, none⟩ = some (.string too) := bel_later hb e2
  have d3 : w1.cell? ⟨w.heap.size, 3, none⟩ = some (.int .i64 n) := bel_later hb e3
  have d4 : w1.cell? ⟨w.heap.size + 1, 0, none⟩ = some (.int .i64 a0) := bel_later hb e4
  have d5 : w1.cell? ⟨w.heap.size + 1, 8, none⟩ = some (.int .i64 a8) := bel_later hb e5
  have hw1 : Below w.heap.size w w1 := bel_step hW hb (Nat.le_refl _)
  clear hb hW e0 e1 e2 e3 e4 e5
  go_wp2
  go_ret
  exact ⟨rfl, hw1⟩

/-- How a range may be asked. -/
def arF (k n a0 a8 : Int) (key too : ByteArray) : Int :=
  if a0 < (key.size : Int) then 6 else if a0 < (too.size : Int) then 6 else if sbS key too = false then 7 else if k = 3 then (if n < 1 then 4 else if a8 < n then 4 else 0) else 0
theorem askRange_any (k n a0 a1 a2 a3 a4 a5 a6 a7 a8 : Int) (key too : ByteArray) (B : Option Addr) (len cap : Nat) (w : World) :
    Calls Tryz.prog 58 #[.agg #[.int .u8 k, .string key, .string too, .int .i64 n, .slice B len cap], cfg a0 a1 a2 a3 a4 a5 a6 a7 a8] w fun e w' => e = .returned (.int .i64 (arF k n a0 a8 key too)) ∧ Below w.heap.size w w' := by
  unfold arF
  by_cases h1 : a0 < (key.size : Int)
  · rw [if_pos h1]; exact ar_a k n a0 a1 a2 a3 a4 a5 a6 a7 a8 key too B len cap w h1
  rw [if_neg h1]
  by_cases h2 : a0 < (too.size : Int)
  · rw [if_pos h2]; exact ar_b k n a0 a1 a2 a3 a4 a5 a6 a7 a8 key too B len cap w h1 h2
  rw [if_neg h2]
  by_cases h3 : sbS key too = false
  · rw [if_pos h3]; exact ar_c k n a0 a1 a2 a3 a4 a5 a6 a7 a8 key too B len cap w h1 h2 h3
  rw [if_neg h3]
  have h3' : sbS key too = true := by simpa using h3
  by_cases h4 : k = 3
  · subst h4
    rw [if_pos rfl]
    by_cases h5 : n < 1
    · rw [if_pos h5]; exact ar_d n a0 a1 a2 a3 a4 a5 a6 a7 a8 key too B len cap w h1 h2 h3' h5
    rw [if_neg h5]
    by_cases h6 : a8 < n
    · rw [if_pos h6]; exact ar_e n a0 a1 a2 a3 a4 a5 a6 a7 a8 key too B len cap w h1 h2 h3' h5 h6
    · rw [if_neg h6]; exact ar_f n a0 a1 a2 a3 a4 a5 a6 a7 a8 key too B len cap w h1 h2 h3' h5 h6
  · rw [if_neg h4]; exact ar_g k n a0 a1 a2 a3 a4 a5 a6 a7 a8 key too B len cap w h1 h2 h3' h4
end Go.Proofs.YtelpkajlejbbgaaGreatDoor
