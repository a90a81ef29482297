/- Texts of the proof, one behind the other. -/
import Derived.Test.YtelpkajlejbbgaaGreatDoorTb08
import Derived.Test.YtelpkajlejbbgaaGreatDoorTb06
import Derived.Test.YtelpkajlejbbgaaGreatDoorTb07
set_option linter.unusedVariables false
set_option linter.unusedSimpArgs false
namespace Go.Proofs.YtelpkajlejbbgaaGreatDoor
open Go.RowKit

set_option maxRecDepth 100000 in
set_option maxHeartbeats 4000000 in
theorem ar_a (k n a0 a1 a2 a3 a4 a5 a6 a7 a8 : Int) (key too : ByteArray) (B : Option Addr) (len cap : Nat) (w : World) (h1 : a0 < (key.size : Int)) :
    Calls Tryz.prog 58 #[.agg #[.int .u8 k, .string key, .string too, .int .i64 n, .slice B len cap], cfg a0 a1 a2 a3 a4 a5 a6 a7 a8] w fun e w' => e = .returned (.int .i64 6) ∧ Below w.heap.size w w' := by
  have h1d : decide (a0 < (key.size : Int)) = true := by simp [h1]
  go_enter Tryz.func58, Tryz.ntmps58
  go_wp2_with fail
  have e0 : ((w.alloc (.cells #[.int .u8 k, .string key, .string too, .int .i64 n, .slice B len cap] 47)).alloc (.cells #[.int .i64 a0, .int .i64 a1, .int .i64 a2, .int .i64 a3, .int .i64 a4, .int .i64 a5, .int .i64 a6, .int .i64 a7, .int .i64 a8] 23)).cell? ⟨w.heap.size, 0, none⟩ = some (.int .u8 k) := by simp [go_sem]
  have e1 : ((w.alloc (.cells #[.int .u8 k, .string key, .string too, .int .i64 n, .slice B len cap] 47)).alloc (.cells #[.int .i64 a0, .int .i64 a1, .int .i64 a2, .int .i64 a3, .int .i64 a4, .int .i64 a5, .int .i64 a6, .int .i64 a7, .int .i64 a8] 23)).cell? ⟨w.heap.size, 1, none⟩ = some (.string key) := by simp [go_sem]
  have e2 : ((w.alloc (.cells #[.int .u8 k, .string key, .string too, .int .i64 n, .slice B len cap] 47)).alloc (.cells #[.int .i64 a0, .int .i64 a1, .int .i64 a2, .int .i64 a3, .int .i64 a4, .int .i64 a5, .int .i64 a6, .int .i64 a7, .int .i64 a8] 23)).cell? ⟨w.heap.size, 2, none⟩ = some (.string too) := by simp [go_sem]
  have e3 : ((w.alloc (.cells #[.int .u8 k, .string key, .string too, .int .i64 n, .slice B len cap] 47)).alloc (.cells #[.int .i64 a0, .int .i64 a1, .int .i64 a2, .int .i64 a3, .int .i64 a4, .int .i64 a5, .int .i64 a6, .int .i64 a7, .int .i64 a8] 23)).cell? ⟨w.heap.size, 3, none⟩ = some (.int .i64 n) := by simp [go_sem]
  have e4 : ((w.alloc (.cells #[.int .u8 k, .string key, .string too, .int .i64 n, .slice B len cap] 47)).alloc (.cells #[.int .i64 a0, .int .i64 a1, .int .i64 a2, .int .i64 a3, .int .i64 a4, .int .i64 a5, .int .i64 a6, .int .i64 a7, .int .i64 a8] 23)).cell? ⟨w.heap.size + 1, 0, none⟩ = some (.int .i64 a0) := by simp [go_sem]
  have e5 : ((w.alloc (.cells #[.int .u8 k, .string key, .string too, .int .i64 n, .slice B len cap] 47)).alloc (.cells #[.int .i64 a0, .int .i64 a1, .int .i64 a2, .int .i64 a3, .int .i64 a4, .int .i64 a5, .int .i64 a6, .int .i64 a7, .int .i64 a8] 23)).cell? ⟨w.heap.size + 1, 8, none⟩ = some (.int .i64 a8) := by simp [go_sem]
  have hW : Below w.heap.size w ((w.alloc (.cells #[.int .u8 k, .string key, .string too, .int .i64 n, .slice B len cap] 47)).alloc (.cells #[.int .i64 a0, .int .i64 a1, .int .i64 a2, .int .i64 a3, .int .i64 a4, .int .i64 a5, .int .i64 a6, .int .i64 a7, .int .i64 a8] 23)) := by go_grown
  generalize ((w.alloc (.cells #[.int .u8 k, .string key, .string too, .int .i64 n, .slice B len cap] 47)).alloc (.cells #[.int .i64 a0, .int .i64 a1, .int .i64 a2, .int .i64 a3, .int .i64 a4, .int .i64 a5, .int .i64 a6, .int .i64 a7, .int .i64 a8] 23)) = W at *
  go_ret
  exact ⟨rfl, hW⟩
set_option maxRecDepth 100000 in
set_option maxHeartbeats 4000000 in
theorem ar_b (k n a0 a1 a2 a3 a4 a5 a6 a7 a8 : Int) (key too : ByteArray) (B : Option Addr) (len cap : Nat) (w : World) (h1 : ¬ a0 < (key.size : Int)) (h2 : a0 < (too.size : Int)) :
    Calls Tryz.prog 58 #[.agg #[.int .u8 k, .string key, .string too, .int .i64 n, .slice B len cap], cfg a0 a1 a2 a3 a4 a5 a6 a7 a8] w fun e w' => e = .returned (.int .i64 6) ∧ Below w.heap.size w w' := by
  have h1d : decide (a0 < (key.size : Int)) = false := by simp [h1]
  have h2d : decide (a0 < (too.size : Int)) = true := by simp [h2]
  go_enter Tryz.func58, Tryz.ntmps58
  go_wp2_with fail
  have e0 : ((w.alloc (.cells #[.int .u8 k, .string key, .string too, .int .i64 n, .slice B len cap] 47)).alloc (.cells #[.int .i64 a0, .int .i64 a1, .int .i64 a2, .int .i64 a3, .int .i64 a4, .int .i64 a5, .int .i64 a6, .int .i64 a7, .int .i64 a8] 23)).cell? ⟨w.heap.size, 0, none⟩ = some (.int .u8 k) := by simp [go_sem]
  have e1 : ((w.alloc (.cells #[.int .u8 k, .string key, .string too, .int .i64 n, .slice B len cap] 47)).alloc (.cells #[.int .i64 a0, .int .i64 a1, .int .i64 a2, .int .i64 a3, .int .i64 a4, .int .i64 a5, .int .i64 a6, .int .i64 a7, .int .i64 a8] 23)).cell? ⟨w.heap.size, 1, none⟩ = some (.string key) := by simp [go_sem]
  have e2 : ((w.alloc (.cells #[.int .u8 k, .string key, .string too, .int .i64 n, .slice B len cap] 47)).alloc (.cells #[.int .i64 a0, .int .i64 a1, .int .i64 a2, .int .i64 a3, .int .i64 a4, .int .i64 a5, .int .i64 a6, .int .i64 a7, .int .i64 a8] 23)).cell? ⟨w.heap.size, 2, none⟩ = some (.string too) := by simp [go_sem]
  have e3 : ((w.alloc (.cells #[.int .u8 k, .string key, .string too, .int .i64 n, .slice B len cap] 47)).alloc (.cells #[.int .i64 a0, .int .i64 a1, .int .i64 a2, .int .i64 a3, .int .i64 a4, .int .i64 a5, .int .i64 a6, .int .i64 a7, .int .i64 a8] 23)).cell? ⟨w.heap.size, 3, none⟩ = some (.int .i64 n) := by simp [go_sem]
  have e4 : ((w.alloc (.cells #[.int .u8 k, .string key, .string too, .int .i64 n, .slice B len cap] 47)).alloc (.cells #[.int .i64 a0, .int .i64 a1, .int .i64 a2, .int .i64 a3, .int .i64 a4, .int .i64 a5, .int .i64 a6, .int .i64 a7, .int .i64 a8] 23)).cell? ⟨w.heap.size + 1, 0, none⟩ = some (.int .i64 a0) := by simp [go_sem]
  have e5 : ((w.alloc (.cells #[.int .u8 k, .string key, .string too, .int .i64 n, .slice B len cap] 47)).alloc (.cells #[.int .i64 a0, .int .i64 a1, .int .i64 a2, .int .i64 a3, .int .i64 a4, .int .i64 a5, .int .i64 a6, .int .i64 a7, .int .i64 a8] 23)).cell? ⟨w.heap.size + 1, 8, none⟩ = some (.int .i64 a8) := by simp [go_sem]
  have hW : Below w.heap.size w ((w.alloc (.cells #[.int .u8 k, .string key, .string too, .int .i64 n, .slice B len cap] 47)).alloc (.cells #[.int .i64 a0, .int .i64 a1, .int .i64 a2, .int .i64 a3, .int .i64 a4, .int .i64 a5, .int .i64 a6, .int .i64 a7, .int .i64 a8] 23)) := by go_grown
  generalize ((w.alloc (.cells #[.int .u8 k, .string key, .string too, .int .i64 n, .slice B len cap] 47)).alloc (.cells #[.int .i64 a0, .int .i64 a1, .int .i64 a2, .int .i64 a3, .int .i64 a4, .int .i64 a5, .int .i64 a6, .int .i64 a7, .int .i64 a8] 23)) = W at *
  go_ret
  exact ⟨rfl, hW⟩
set_option maxRecDepth 100000 in
set_option maxHeartbeats 4000000 in
theorem ar_c (k n a0 a1 a2 a3 a4 a5 a6 a7 a8 : Int) (key too : ByteArray) (B : Option Addr) (len cap : Nat) (w : World) (h1 : ¬ a0 < (key.size : Int)) (h2 : ¬ a0 < (too.size : Int)) (h3 : sbS key too = false) :
    Calls Tryz.prog 58 #[.agg #[.int .u8 k, .string key, .string too, .int .i64 n, .slice B len cap], cfg a0 a1 a2 a3 a4 a5 a6 a7 a8] w fun e w' => e = .returned (.int .i64 7) ∧ Below w.heap.size w w' := by
  have h1d : decide (a0 < (key.size : Int)) = false := by simp [h1]
  have h2d : decide (a0 < (too.size : Int)) = false := by simp [h2]
  have R := fun W => rightRange_any key too W
  simp only [h3] at R
  have RR := Lib.hid R
  clear R
  go_enter Tryz.func58, Tryz.ntmps58
  go_wp2_with fail
  have e0 : ((w.alloc (.cells #[.int .u8 k, .string key, .string too, .int .i64 n, .slice B len cap] 47)).alloc (.cells #[.int .i64 a0, .int .i64 a1, .int .i64 a2, .int .i64 a3, .int .i64 a4, .int .i64 a5, .int .i64 a6, .int .i64 a7, .int .i64 a8] 23)).cell? ⟨w.heap.size, 0, none⟩ = some (.int .u8 k) := by simp [go_sem]
  have e1 : ((w.alloc (.cells #[.int .u8 k, .string key, .string too, .int .i64 n, .slice B len cap] 47)).alloc (.cells #[.int .i64 a0, .int .i64 a1, .int .i64 a2, .int .i64 a3, .int .i64 a4, .int .i64 a5, .int .i64 a6, .int .i64 a7, .int .i64 a8] 23)).cell? ⟨w.heap.size, 1, none⟩ = some (.string key) := by simp [go_sem]
  have e2 : ((w.alloc (.cells #[.int .u8 k, .string key, .string too, .int .i64 n, .slice B len cap] 47)).alloc (.cells #[.int .i64 a0, .int .i64 a1, .int .i64 a2, .int .i64 a3, .int .i64 a4, .int .i64 a5, .int .i64 a6, .int .i64 a7, .int .i64 a8] 23)).cell? ⟨w.heap.size, 2, none⟩ = some (.string too) := by simp [go_sem]
  have e3 : ((w.alloc (.cells #[.int .u8 k, .string key, .string too, .int .i64 n, .slice B len cap] 47)).alloc (.cells #[.int .i64 a0, .int .i64 a1, .int .i64 a2, .int .i64 a3, .int .i64 a4, .int .i64 a5, .int .i64 a6, .int .i64 a7, .int .i64 a8] 23)).cell? ⟨w.heap.size, 3, none⟩ = some (.int .i64 n) := by simp [go_sem]
  have e4 : ((w.alloc (.cells #[.int .u8 k, .string key, .string too, .int .i64 n, .slice B len cap] 47)).alloc (.cells #[.int .i64 a0, .int .i64 a1, .int .i64 a2, .int .i64 a3, .int .i64 a4, .int .i64 a5, .int .i64 a6, .int .i64 a7, .int .i64 a8] 23)).cell? ⟨w.heap.size + 1, 0, none⟩ = some (.int .i64 a0) := by simp [go_sem]
  have e5 : ((w.alloc (.cells #[.int .u8 k, .string key, .string too, .int .i64 n, .slice B len cap] 47)).alloc (.cells #[.int .i64 a0, .int .i64 a1, .int .i64 a2, .int .i64 a3, .int .i64 a4, .int .i64 a5, .int .i64 a6, .int .i64 a7, .int .i64 a8] 23)).cell? ⟨w.heap.size + 1, 8, none⟩ = some (.int .i64 a8) := by simp [go_sem]
  have hW : Below w.heap.size w ((w.alloc (.cells #[.int .u8 k, .string key, .string too, .int .i64 n, .slice B len cap] 47)).alloc (.cells #[.int .i64 a0, .int .i64 a1, .int .i64 a2, .int .i64 a3, .int .i64 a4, .int .i64 a5, .int .i64 a6, .int .i64 a7, .int .i64 a8] 23)) := by go_grown
  generalize ((w.alloc (.cells #[.int .u8 k, .string key, .string too, .int .i64 n, .slice B len cap] 47)).alloc (.cells #[.int .i64 a0, .int .i64 a1, .int .i64 a2, .int .i64 a3, .int .i64 a4, .int .i64 a5, .int .i64 a6, .int .i64 a7, .int .i64 a8] 23)) = W at *
  refine (RR.out _).mono ?_
  rintro e w1 ⟨rfl, hb⟩
  have d0 : w1.cell? ⟨w.heap.size, 0, none⟩ = some (.int .u8 k) := bel_later hb e0
  have d1 : w1.cell? ⟨w.heap.size, 1, none⟩ = some (.string key) := bel_later hb e1
  have d2 : w1.cell? ⟨w.heap.size, 2, none⟩ = some (.string too) := bel_later hb e2
  have d3 : w1.cell? ⟨w.heap.size, 3, none⟩ = some (.int .i64 n) := bel_later hb e3
  have d4 : w1.cell? ⟨w.heap.size + 1, 0, none⟩ = some (.int .i64 a0) := bel_later hb e4
  have d5 : w1.cell? ⟨w.heap.size + 1, 8, none⟩ = some (.int .i64 a8) := bel_later hb e5
  have hw1 : Below w.heap.size w w1 := bel_step hW hb (Nat.le_refl _)
  clear hb hW e0 e1 e2 e3 e4 e5
  go_wp2
  go_ret
  exact ⟨rfl, hw1⟩
set_option maxRecDepth 100000 in
set_option maxHeartbeats 4000000 in
theorem ar_d (n a0 a1 a2 a3 a4 a5 a6 a7 a8 : Int) (key too : ByteArray) (B : Option Addr) (len cap : Nat) (w : World) (h1 : ¬ a0 < (key.size : Int)) (h2 : ¬ a0 < (too.size : Int)) (h3 : sbS key too = true) (h5 : n < 1) :
    Calls Tryz.prog 58 #[.agg #[.int .u8 3, .string key, .string too, .int .i64 n, .slice B len cap], cfg a0 a1 a2 a3 a4 a5 a6 a7 a8] w fun e w' => e = .returned (.int .i64 4) ∧ Below w.heap.size w w' := by
  have h1d : decide (a0 < (key.size : Int)) = false := by simp [h1]
  have h2d : decide (a0 < (too.size : Int)) = false := by simp [h2]
  have R := fun W => rightRange_any key too W
  simp only [h3] at R
  have RR := Lib.hid R
  clear R
  go_enter Tryz.func58, Tryz.ntmps58
  go_wp2_with fail
  have e0 : ((w.alloc (.cells #[.int .u8 3, .string key, .string too, .int .i64 n, .slice B len cap] 47)).alloc (.cells #[.int .i64 a0, .int .i64 a1, .int .i64 a2, .int .i64 a3, .int .i64 a4, .int .i64 a5, .int .i64 a6, .int .i64 a7, .int .i64 a8] 23)).cell? ⟨w.heap.size, 0, none⟩ = some (.int .u8 3) := by simp [go_sem]
  have e1 : ((w.alloc (.cells #[.int .u8 3, .string key, .string too, .int .i64 n, .slice B len cap] 47)).alloc (.cells #[.int .i64 a0, .int .i64 a1, .int .i64 a2, .int .i64 a3, .int .i64 a4, .int .i64 a5, .int .i64 a6, .int .i64 a7, .int .i64 a8] 23)).cell? ⟨w.heap.size, 1, none⟩ = some (.string key) := by simp [go_sem]
  have e2 : ((w.alloc (.cells #[.int .u8 3, .string key, .string too, .int .i64 n, .slice B len cap] 47)).alloc (.cells #[.int .i64 a0, .int .i64 a1, .int .i64 a2, .int .i64 a3, .int .i64 a4, .int .i64 a5, .int .i64 a6, .int .i64 a7, .int .i64 a8] 23)).cell? ⟨w.heap.size, 2, none⟩ = some (.string too) := by simp [go_sem]
  have e3 : ((w.alloc (.cells #[.int .u8 3, .string key, .string too, .int .i64 n, .slice B len cap] 47)).alloc (.cells #[.int .i64 a0, .int .i64 a1, .int .i64 a2, .int .i64 a3, .int .i64 a4, .int .i64 a5, .int .i64 a6, .int .i64 a7, .int .i64 a8] 23)).cell? ⟨w.heap.size, 3, none⟩ = some (.int .i64 n) := by simp [go_sem]
  have e4 : ((w.alloc (.cells #[.int .u8 3, .string key, .string too, .int .i64 n, .slice B len cap] 47)).alloc (.cells #[.int .i64 a0, .int .i64 a1, .int .i64 a2, .int .i64 a3, .int .i64 a4, .int .i64 a5, .int .i64 a6, .int .i64 a7, .int .i64 a8] 23)).cell? ⟨w.heap.size + 1, 0, none⟩ = some (.int .i64 a0) := by simp [go_sem]
  have e5 : ((w.alloc (.cells #[.int .u8 3, .string key, .string too, .int .i64 n, .slice B len cap] 47)).alloc (.cells #[.int .i64 a0, .int .i64 a1, .int .i64 a2, .int .i64 a3, .int .i64 a4, .int .i64 a5, .int .i64 a6, .int .i64 a7, .int .i64 a8] 23)).cell? ⟨w.heap.size + 1, 8, none⟩ = some (.int .i64 a8) := by simp [go_sem]
  have hW : Below w.heap.size w ((w.alloc (.cells #[.int .u8 3, .string key, .string too, .int .i64 n, .slice B len cap] 47)).alloc (.cells #[.int .i64 a0, .int .i64 a1, .int .i64 a2, .int .i64 a3, .int .i64 a4, .int .i64 a5, .int .i64 a6, .int .i64 a7, .int .i64 a8] 23)) := by go_grown
  generalize ((w.alloc (.cells #[.int .u8 3, .string key, .string too, .int .i64 n, .slice B len cap] 47)).alloc (.cells #[.int .i64 a0, .int .i64 a1, .int .i64 a2, .int .i64 a3, .int .i64 a4, .int .i64 a5, .int .i64 a6, .int .i64 a7, .int .i64 a8] 23)) = W at *
  refine (RR.out _).mono ?_
  rintro e w1 ⟨rfl, hb⟩
  have d0 : w1.cell? ⟨w.heap.size, 0, none⟩ = some (.int .u8 3) := bel_later hb e0
  have d1 : w1.cell? ⟨w.heap.size, 1, none⟩ = some (.string key) := bel_later hb e1
  have d2 : w1.cell? ⟨w.heap.size, 2, none⟩ = some (.string too) := bel_later hb e2
  have d3 : w1.cell? ⟨w.heap.size, 3, none⟩ = some (.int .i64 n) := bel_later hb e3
  have d4 : w1.cell? ⟨w.heap.size + 1, 0, none⟩ = some (.int .i64 a0) := bel_later hb e4
  have d5 : w1.cell? ⟨w.heap.size + 1, 8, none⟩ = some (.int .i64 a8) := bel_later hb e5
  have hw1 : Below w.heap.size w w1 := bel_step hW hb (Nat.le_refl _)
  clear hb hW e0 e1 e2 e3 e4 e5
  go_wp2
  go_ret
  exact ⟨rfl, hw1⟩
set_option maxRecDepth 100000 in
set_option maxHeartbeats 4000000 in
theorem ar_e (n a0 a1 a2 a3 a4 a5 a6 a7 a8 : Int) (key too : ByteArray) (B : Option Addr) (len cap : Nat) (w : World) (h1 : ¬ a0 < (key.size : Int)) (h2 : ¬ a0 < (too.size : Int)) (h3 : sbS key too = true) (h5 : ¬ n < 1) (h6 : a8 < n) :
    Calls Tryz.prog 58 #[.agg #[.int .u8 3, .string key, .string too, .int .i64 n, .slice B len cap], cfg a0 a1 a2 a3 a4 a5 a6 a7 a8] w fun e w' => e = .returned (.int .i64 4) ∧ Below w.heap.size w w' := by
  have h1d : decide (a0 < (key.size : Int)) = false := by simp [h1]
  have h2d : decide (a0 < (too.size : Int)) = false := by simp [h2]
  have R := fun W => rightRange_any key too W
  simp only [h3] at R
  have RR := Lib.hid R
  clear R
  go_enter Tryz.func58, Tryz.ntmps58
  go_wp2_with fail
  have e0 : ((w.alloc (.cells #[.int .u8 3, .string key, .string too, .int .i64 n, .slice B len cap] 47)).alloc (.cells #[.int .i64 a0, .int .i64 a1, .int .i64 a2, .int .i64 a3, .int .i64 a4, .int .i64 a5, .int .i64 a6, .int .i64 a7, .int .i64 a8] 23)).cell? ⟨w.heap.size, 0, none⟩ = some (.int .u8 3) := by simp [go_sem]
  have e1 : ((w.alloc (.cells #[.int .u8 3, .string key, .string too, .int .i64 n, .slice B len cap] 47)).alloc (.cells #[.int .i64 a0, .int .i64 a1, .int .i64 a2, .int .i64 a3, .int .i64 a4, .int .i64 a5, .int .i64 a6, .int .i64 a7, .int .i64 a8] 23)).cell? ⟨w.heap.size, 1, none⟩ = some (.string key) := by simp [go_sem]
  have e2 : ((w.alloc (.cells #[.int .u8 3, .string key, .string too, .int .i64 n, .slice B len cap] 47)).alloc (.cells #[.int .i64 a0, .int .i64 a1, .int .i64 a2, .int .i64 a3, .int .i64 a4, .int .i64 a5, .int .i64 a6, .int .i64 a7, .int .i64 a8] 23)).cell? ⟨w.heap.size, 2, none⟩ = some (.string too) := by simp [go_sem]
  have e3 : ((w.alloc (.cells #[.int .u8 3, .string key, .string too, .int .i64 n, .slice B len cap] 47)).alloc (.cells #[.int .i64 a0, .int .i64 a1, .int .i64 a2, .int .i64 a3, .int .i64 a4, .int .i64 a5, .int .i64 a6, .int .i64 a7, .int .i64 a8] 23)).cell? ⟨w.heap.size, 3, none⟩ = some (.int .i64 n) := by simp [go_sem]
  have e4 : ((w.alloc (.cells #[.int .u8 3, .string key, .string too, .int .i64 n, .slice B len cap] 47)).alloc (.cells #[.int .i64 a0, .int .i64 a1, .int .i64 a2, .int .i64 a3, .int .i64 a4, .int .i64 a5, .int .i64 a6, .int .i64 a7, .int .i64 a8] 23)).cell? ⟨w.heap.size + 1, 0, none⟩ = some (.int .i64 a0) := by simp [go_sem]
  have e5 : ((w.alloc (.cells #[.int .u8 3, .string key, .string too, .int .i64 n, .slice B len cap] 47)).alloc (.cells #[.int .i64 a0, .int .i64 a1, .int .i64 a2, .int .i64 a3, .int .i64 a4, .int .i64 a5, .int .i64 a6, .int .i64 a7, .int .i64 a8] 23)).cell? ⟨w.heap.size + 1, 8, none⟩ = some (.int .i64 a8) := by simp [go_sem]
  have hW : Below w.heap.size w ((w.alloc (.cells #[.int .u8 3, .string key, .string too, .int .i64 n, .slice B len cap] 47)).alloc (.cells #[.int .i64 a0, .int .i64 a1, .int .i64 a2, .int .i64 a3, .int .i64 a4, .int .i64 a5, .int .i64 a6, .int .i64 a7, .int .i64 a8] 23)) := by go_grown
  generalize ((w.alloc (.cells #[.int .u8 3, .string key, .string too, .int .i64 n, .slice B len cap] 47)).alloc (.cells #[.int .i64 a0, .int .i64 a1, .int .i64 a2, .int .i64 a3, .int .i64 a4, .int .i64 a5, .int .i64 a6, .int .i64 a7, .int .i64 a8] 23)) = W at *
  refine (RR.out _).mono ?_
  rintro e w1 ⟨rfl, hb⟩
  have d0 : w1.cell? ⟨w.heap.size, 0, none⟩ = some (.int .u8 3) := bel_later hb e0
  have d1 : w1.cell? ⟨w.heap.size, 1, none⟩ = some (.string key) := bel_later hb e1
  have d2 : w1.cell? ⟨w.heap.size, 2, none⟩ = some (.string too) := bel_later hb e2
  have d3 : w1.cell? ⟨w.heap.size, 3, none⟩ = some (.int .i64 n) := bel_later hb e3
  have d4 : w1.cell? ⟨w.heap.size + 1, 0, none⟩ = some (.int .i64 a0) := bel_later hb e4
  have d5 : w1.cell? ⟨w.heap.size + 1, 8, none⟩ = some (.int .i64 a8) := bel_later hb e5
  have hw1 : Below w.heap.size w w1 := bel_step hW hb (Nat.le_refl _)
  clear hb hW e0 e1 e2 e3 e4 e5
  go_wp2
  go_ret
  exact ⟨rfl, hw1⟩
set_option maxRecDepth 100000 in
set_option maxHeartbeats 4000000 in
theorem ar_f (n a0 a1 a2 a3 a4 a5 a6 a7 a8 : Int) (key too : ByteArray) (B : Option Addr) (len cap : Nat) (w : World) (h1 : ¬ a0 < (key.size : Int)) (h2 : ¬ a0 < (too.size : Int)) (h3 : sbS key too = true) (h5 : ¬ n < 1) (h6 : ¬ a8 < n) :
    Calls Tryz.prog 58 #[.agg #[.int .u8 3, .string key, .string too, .int .i64 n, .slice B len cap], cfg a0 a1 a2 a3 a4 a5 a6 a7 a8] w fun e w' => e = .returned (.int .i64 0) ∧ Below w.heap.size w w' := by
  have h1d : decide (a0 < (key.size : Int)) = false := by simp [h1]
  have h2d : decide (a0 < (too.size : Int)) = false := by simp [h2]
  have R := fun W => rightRange_any key too W
  simp only [h3] at R
  have RR := Lib.hid R
  clear R
  go_enter Tryz.func58, Tryz.ntmps58
  go_wp2_with fail
  have e0 : ((w.alloc (.cells #[.int .u8 3, .string key, .string too, .int .i64 n, .slice B len cap] 47)).alloc (.cells #[.int .i64 a0, .int .i64 a1, .int .i64 a2, .int .i64 a3, .int .i64 a4, .int .i64 a5, .int .i64 a6, .int .i64 a7, .int .i64 a8] 23)).cell? ⟨w.heap.size, 0, none⟩ = some (.int .u8 3) := by simp [go_sem]
  have e1 : ((w.alloc (.cells #[.int .u8 3, .string key, .string too, .int .i64 n, .slice B len cap] 47)).alloc (.cells #[.int .i64 a0, .int .i64 a1, .int .i64 a2, .int .i64 a3, .int .i64 a4, .int .i64 a5, .int .i64 a6, .int .i64 a7, .int .i64 a8] 23)).cell? ⟨w.heap.size, 1, none⟩ = some (.string key) := by simp [go_sem]
  have e2 : ((w.alloc (.cells #[.int .u8 3, .string key, .string too, .int .i64 n, .slice B len cap] 47)).alloc (.cells #[.int .i64 a0, .int .i64 a1, .int .i64 a2, .int .i64 a3, .int .i64 a4, .int .i64 a5, .int .i64 a6, .int .i64 a7, .int .i64 a8] 23)).cell? ⟨w.heap.size, 2, none⟩ = some (.string too) := by simp [go_sem]
  have e3 : ((w.alloc (.cells #[.int .u8 3, .string key, .string too, .int .i64 n, .slice B len cap] 47)).alloc (.cells #[.int .i64 a0, .int .i64 a1, .int .i64 a2, .int .i64 a3, .int .i64 a4, .int .i64 a5, .int .i64 a6, .int .i64 a7, .int .i64 a8] 23)).cell? ⟨w.heap.size, 3, none⟩ = some (.int .i64 n) := by simp [go_sem]
  have e4 : ((w.alloc (.cells #[.int .u8 3, .string key, .string too, .int .i64 n, .slice B len cap] 47)).alloc (.cells #[.int .i64 a0, .int .i64 a1, .int .i64 a2, .int .i64 a3, .int .i64 a4, .int .i64 a5, .int .i64 a6, .int .i64 a7, .int .i64 a8] 23)).cell? ⟨w.heap.size + 1, 0, none⟩ = some (.int .i64 a0) := by simp [go_sem]
  have e5 : ((w.alloc (.cells #[.int .u8 3, .string key, .string too, .int .i64 n, .slice B len cap] 47)).alloc (.cells #[.int .i64 a0, .int .i64 a1, .int .i64 a2, .int .i64 a3, .int .i64 a4, .int .i64 a5, .int .i64 a6, .int .i64 a7, .int .i64 a8] 23)).cell? ⟨w.heap.size + 1, 8, none⟩ = some (.int .i64 a8) := by simp [go_sem]
  have hW : Below w.heap.size w ((w.alloc (.cells #[.int .u8 3, .string key, .string too, .int .i64 n, .slice B len cap] 47)).alloc (.cells #[.int .i64 a0, .int .i64 a1, .int .i64 a2, .int .i64 a3, .int .i64 a4, .int .i64 a5, .int .i64 a6, .int .i64 a7, .int .i64 a8] 23)) := by go_grown
  generalize ((w.alloc (.cells #[.int .u8 3, .string key, .string too, .int .i64 n, .slice B len cap] 47)).alloc (.cells #[.int .i64 a0, .int .i64 a1, .int .i64 a2, .int .i64 a3, .int .i64 a4, .int .i64 a5, .int .i64 a6, .int .i64 a7, .int .i64 a8] 23)) = W at *
  refine (RR.out _).mono ?_
  rintro e w1 ⟨rfl, hb⟩
  have d0 : w1.cell? ⟨w.heap.size, 0, none⟩ = some (.int .u8 3) := bel_later hb e0
  have d1 : w1.cell? ⟨w.heap.size, 1, none⟩ = some (.string key) := bel_later hb e1
  have d2 : w1.cell? ⟨w.heap.size, 2, none⟩ = some (.string too) := bel_later hb e2
  have d3 : w1.cell? ⟨w.heap.size, 3, none⟩ = some (.int .i64 n) := bel_later hb e3
  have d4 : w1.cell? ⟨w.heap.size + 1, 0, none⟩ = some (.int .i64 a0) := bel_later hb e4
  have d5 : w1.cell? ⟨w.heap.size + 1, 8, none⟩ = some (.int .i64 a8) := bel_later hb e5
  have hw1 : Below w.heap.size w w1 := bel_step hW hb (Nat.le_refl _)
  clear hb hW e0 e1 e2 e3 e4 e5
  go_wp2
  go_ret
  exact ⟨rfl, hw1⟩
set_option maxRecDepth 100000 in
set_option maxHeartbeats 4000000 in
theorem ar_g (k n a0 a1 a2 a3 a4 a5 a6 a7 a8 : Int) (key too : ByteArray) (B : Option Addr) (len cap : Nat) (w : World) (h1 : ¬ a0 < (key.size : Int)) (h2 : ¬ a0 < (too.size : Int)) (h3 : sbS key too = true) (h4 : k ≠ 3) :
    Calls Tryz.prog 58 #[.agg #[.int .u8 k, .string key, .string too, .int .i64 n, .slice B len cap], cfg a0 a1 a2 a3 a4 a5 a6 a7 a8] w fun e w' => e = .returned (.int .i64 0) ∧ Below w.heap.size w w' := by
  have h1d : decide (a0 < (key.size : Int)) = false := by simp [h1]
  have h2d : decide (a0 < (too.size : Int)) = false := by simp [h2]
  have R := fun W => rightRange_any key too W
  simp only [h3] at R
  have RR := Lib.hid R
  clear R
  go_enter Tryz.func58, Tryz.ntmps58
  go_wp2_with fail
  have e0 : ((w.alloc (.cells #[.int .u8 k, .string key, .string too, .int .i64 n, .slice B len cap] 47)).alloc (.cells #[.int .i64 a0, .int .i64 a1, .int .i64 a2, .int .i64 a3, .int .i64 a4, .int .i64 a5, .int .i64 a6, .int .i64 a7, .int .i64 a8] 23)).cell? ⟨w.heap.size, 0, none⟩ = some (.int .u8 k) := by simp [go_sem]
  have e1 : ((w.alloc (.cells #[.int .u8 k, .string key, .string too, .int .i64 n, .slice B len cap] 47)).alloc (.cells #[.int .i64 a0, .int .i64 a1, .int .i64 a2, .int .i64 a3, .int .i64 a4, .int .i64 a5, .int .i64 a6, .int .i64 a7, .int .i64 a8] 23)).cell? ⟨w.heap.size, 1, none⟩ = some (.string key) := by simp [go_sem]
  have e2 : ((w.alloc (.cells #[.int .u8 k, .string key, .string too, .int .i64 n, .slice B len cap] 47)).alloc (.cells #[.int .i64 a0, .int .i64 a1, .int .i64 a2, .int .i64 a3, .int .i64 a4, .int .i64 a5, .int .i64 a6, .int .i64 a7, .int .i64 a8] 23)).cell? ⟨w.heap.size, 2, none⟩ = some (.string too) := by simp [go_sem]
  have e3 : ((w.alloc (.cells #[.int .u8 k, .string key, .string too, .int .i64 n, .slice B len cap] 47)).alloc (.cells #[.int .i64 a0, .int .i64 a1, .int .i64 a2, .int .i64 a3, .int .i64 a4, .int .i64 a5, .int .i64 a6, .int .i64 a7, .int .i64 a8] 23)).cell? ⟨w.heap.size, 3, none⟩ = some (.int .i64 n) := by simp [go_sem]
  have e4 : ((w.alloc (.cells #[.int .u8 k, .string key, .string too, .int .i64 n, .slice B len cap] 47)).alloc (.cells #[.int .i64 a0, .int .i64 a1, .int .i64 a2, .int .i64 a3, .int .i64 a4, .int .i64 a5, .int .i64 a6, .int .i64 a7, .int .i64 a8] 23)).cell? ⟨w.heap.size + 1, 0, none⟩ = some (.int .i64 a0) := by simp [go_sem]
  have e5 : ((w.alloc (.cells #[.int .u8 k, .string key, .string too, .int .i64 n, .slice B len cap] 47)).alloc (.cells #[.int .i64 a0, .int .i64 a1, .int .i64 a2, .int .i64 a3, .int .i64 a4, .int .i64 a5, .int .i64 a6, .int .i64 a7, .int .i64 a8] 23)).cell? ⟨w.heap.size + 1, 8, none⟩ = some (.int .i64 a8) := by simp [go_sem]
  have hW : Below w.heap.size w ((w.alloc (.cells #[.int .u8 k, .string key, .string too, .int .i64 n, .slice B len cap] 47)).alloc (.cells #[.int .i64 a0, .int .i64 a1, .int .i64 a2, .int .i64 a3, .int .i64 a4, .int .i64 a5, .int .i64 a6, .int .i64 a7, .int .i64 a8] 23)) := by go_grown
  generalize ((w.alloc (.cells #[.int .u8 k, .string key, .string too, .int .i64 n, .slice B len cap] 47)).alloc (.cells #[.int .i64 a0, .int .i64 a1, .int .i64 a2, .int .i64 a3, .int .i64 a4, .int .i64 a5, .int .i64 a6, .int .i64 a7, .int .i64 a8] 23)) = W at *
  refine (RR.out _).mono ?_
  rintro e w1 ⟨rfl, hb⟩
  have d0 : w1.cell? ⟨w.heap.size, 0, none⟩ = some (.int .u8 k) := bel_later hb e0
  have d1 : w1.cell? ⟨w.heap.size, 1, none⟩ = some (.string key) := bel_later hb e1
  have d2 : w1.cell? ⟨w.heap.size, 2, none⟩ = some (.string too) := bel_later hb e2
  have d3 : w1.cell? ⟨w.heap.size, 3, none⟩ = some (.int .i64 n) := bel_later hb e3
  have d4 : w1.cell? ⟨w.heap.size + 1, 0, none⟩ = some (.int .i64 a0) := bel_later hb e4
  have d5 : w1.cell? ⟨w.heap.size + 1, 8, none⟩ = some (.int .i64 a8) := bel_later hb e5
  have hw1 : Below w.heap.size w w1 := bel_step hW hb (Nat.le_refl _)
  clear hb hW e0 e1 e2 e3 e4 e5
  go_wp2
  go_ret
  exact ⟨rfl, hw1⟩

/-- How a range may be asked. -/
def arF (k n a0 a8 : Int) (key too : ByteArray) : Int :=
  if a0 < (key.size : Int) then 6 else if a0 < (too.size : Int) then 6 else if sbS key too = false then 7 else if k = 3 then (if n < 1 then 4 else if a8 < n then 4 else 0) else 0
theorem askRange_any (k n a0 a1 a2 a3 a4 a5 a6 a7 a8 : Int) (key too : ByteArray) (B : Option Addr) (len cap : Nat) (w : World) :
    Calls Tryz.prog 58 #[.agg #[.int .u8 k, .string key, .string too, .int .i64 n, .slice B len cap], cfg a0 a1 a2 a3 a4 a5 a6 a7 a8] w fun e w' => e = .returned (.int .i64 (arF k n a0 a8 key too)) ∧ Below w.heap.size w w' := by
  unfold arF
  by_cases h1 : a0 < (key.size : Int)
  · rw [if_pos h1]; exact ar_a k n a0 a1 a2 a3 a4 a5 a6 a7 a8 key too B len cap w h1
  rw [if_neg h1]
  by_cases h2 : a0 < (too.size : Int)
  · rw [if_pos h2]; exact ar_b k n a0 a1 a2 a3 a4 a5 a6 a7 a8 key too B len cap w h1 h2
  rw [if_neg h2]
  by_cases h3 : sbS key too = false
  · rw [if_pos h3]; exact ar_c k n a0 a1 a2 a3 a4 a5 a6 a7 a8 key too B len cap w h1 h2 h3
  rw [if_neg h3]
  have h3' : sbS key too = true := by simpa using h3
  by_cases h4 : k = 3
  · subst h4
    rw [if_pos rfl]
    by_cases h5 : n < 1
    · rw [if_pos h5]; exact ar_d n a0 a1 a2 a3 a4 a5 a6 a7 a8 key too B len cap w h1 h2 h3' h5
    rw [if_neg h5]
    by_cases h6 : a8 < n
    · rw [if_pos h6]; exact ar_e n a0 a1 a2 a3 a4 a5 a6 a7 a8 key too B len cap w h1 h2 h3' h5 h6
    · rw [if_neg h6]; exact ar_f n a0 a1 a2 a3 a4 a5 a6 a7 a8 key too B len cap w h1 h2 h3' h5 h6
  · rw [if_neg h4]; exact ar_g k n a0 a1 a2 a3 a4 a5 a6 a7 a8 key too B len cap w h1 h2 h3' h4
end Go.Proofs.YtelpkajlejbbgaaGreatDoor
namespace Go.Proofs.YtelpkajlejbbgaaGreatDoor
open Go.RowKit

/-- What a message is answered. -/
def mF (k dl a0 a1 : Int) (key too val : ByteArray) : Int :=
  if k = 1 then (if ¬ too.toList = [] then 3 else if ¬ dl = 0 then 3 else if a1 < (val.size : Int) then 6 else if rightS key a0 = true then 0 else 6)
  else if k = 2 then (if ¬ too.toList = [] then 3 else if ¬ val.toList = [] then 3 else if ¬ dl = 0 then 3 else if rightS key a0 = true then 0 else 6)
  else if k = 3 then (if ¬ too.toList = [] then 3 else if ¬ val.toList = [] then 3 else if rightS key a0 = true then 0 else 6)
  else if k = 4 then (if ¬ val.toList = [] then 3 else if ¬ dl = 0 then 3 else if a0 < (key.size : Int) then 6 else if a0 < (too.size : Int) then 6 else if sbS key too = true then 0 else 7)
  else 3

theorem mchk_any (k q dl a0 a1 a2 a3 a4 a5 a6 a7 a8 : Int) (key too val : ByteArray) (w : World) :
    Calls Tryz.prog 69 #[.agg #[.int .u8 k, .int .i64 q, .string key, .string too, .string val, .int .u64 dl], cfg a0 a1 a2 a3 a4 a5 a6 a7 a8] w fun e w' => e = .returned (.int .i64 (mF k dl a0 a1 key too val)) ∧ Below w.heap.size w w' := by
  unfold mF
  by_cases k1 : k = 1
  · subst k1
    rw [if_pos rfl]
    by_cases hT : too.toList = []
    · rw [if_neg (by simpa using hT)]
      by_cases hD : dl = 0
      · subst hD
        rw [if_neg (by simp)]
        by_cases hS : a1 < (val.size : Int)
        · rw [if_pos hS]; exact mchk_1v q a0 a1 a2 a3 a4 a5 a6 a7 a8 key too val w hT hS
        · rw [if_neg hS]
          by_cases hR : rightS key a0 = true
          · rw [if_pos hR]; exact mchk_1g q a0 a1 a2 a3 a4 a5 a6 a7 a8 key too val w hT hS hR
          · rw [if_neg hR]; exact mchk_1b q a0 a1 a2 a3 a4 a5 a6 a7 a8 key too val w hT hS (by simpa using hR)
      · rw [if_pos hD]; exact mchk_1d q dl a0 a1 a2 a3 a4 a5 a6 a7 a8 key too val w hT hD
    · rw [if_pos hT]; exact mchk_1t q dl a0 a1 a2 a3 a4 a5 a6 a7 a8 key too val w hT
  rw [if_neg k1]
  by_cases k2 : k = 2
  · subst k2
    rw [if_pos rfl]
    by_cases hT : too.toList = []
    · rw [if_neg (by simpa using hT)]
      by_cases hV : val.toList = []
      · rw [if_neg (by simpa using hV)]
        by_cases hD : dl = 0
        · subst hD
          rw [if_neg (by simp)]
          by_cases hR : rightS key a0 = true
          · rw [if_pos hR]; exact mchk_2g q a0 a1 a2 a3 a4 a5 a6 a7 a8 key too val w hT hV hR
          · rw [if_neg hR]; exact mchk_2b q a0 a1 a2 a3 a4 a5 a6 a7 a8 key too val w hT hV (by simpa using hR)
        · rw [if_pos hD]; exact mchk_2d q dl a0 a1 a2 a3 a4 a5 a6 a7 a8 key too val w hT hV hD
      · rw [if_pos hV]; exact mchk_2v q dl a0 a1 a2 a3 a4 a5 a6 a7 a8 key too val w hT hV
    · rw [if_pos hT]; exact mchk_2t q dl a0 a1 a2 a3 a4 a5 a6 a7 a8 key too val w hT
  rw [if_neg k2]
  by_cases k3 : k = 3
  · subst k3
    rw [if_pos rfl]
    by_cases hT : too.toList = []
    · rw [if_neg (by simpa using hT)]
      by_cases hV : val.toList = []
      · rw [if_neg (by simpa using hV)]
        by_cases hR : rightS key a0 = true
        · rw [if_pos hR]; exact mchk_3g q dl a0 a1 a2 a3 a4 a5 a6 a7 a8 key too val w hT hV hR
        · rw [if_neg hR]; exact mchk_3b q dl a0 a1 a2 a3 a4 a5 a6 a7 a8 key too val w hT hV (by simpa using hR)
      · rw [if_pos hV]; exact mchk_3v q dl a0 a1 a2 a3 a4 a5 a6 a7 a8 key too val w hT hV
    · rw [if_pos hT]; exact mchk_3t q dl a0 a1 a2 a3 a4 a5 a6 a7 a8 key too val w hT
  rw [if_neg k3]
  by_cases k4 : k = 4
  · subst k4
    rw [if_pos rfl]
    by_cases hV : val.toList = []
    · rw [if_neg (by simpa using hV)]
      by_cases hD : dl = 0
      · subst hD
        rw [if_neg (by simp)]
        by_cases hS : a0 < (key.size : Int)
        · rw [if_pos hS]; exact mchk_4s q a0 a1 a2 a3 a4 a5 a6 a7 a8 key too val w hV hS
        rw [if_neg hS]
        by_cases hU : a0 < (too.size : Int)
        · rw [if_pos hU]; exact mchk_4u q a0 a1 a2 a3 a4 a5 a6 a7 a8 key too val w hV hS hU
        rw [if_neg hU]
        by_cases hG : sbS key too = true
        · rw [if_pos hG]; exact mchk_4g q a0 a1 a2 a3 a4 a5 a6 a7 a8 key too val w hV hS hU hG
        · rw [if_neg hG]; exact mchk_4b q a0 a1 a2 a3 a4 a5 a6 a7 a8 key too val w hV hS hU (by simpa using hG)
      · rw [if_pos hD]; exact mchk_4d q dl a0 a1 a2 a3 a4 a5 a6 a7 a8 key too val w hV hD
    · rw [if_pos hV]; exact mchk_4v q dl a0 a1 a2 a3 a4 a5 a6 a7 a8 key too val w hV
  rw [if_neg k4]
  by_cases hT : too.toList = []
  · by_cases hV : val.toList = []
    · by_cases hD : dl = 0
      · subst hD; exact mchk_oo k q a0 a1 a2 a3 a4 a5 a6 a7 a8 key too val w k1 k2 k3 k4 hT hV
      · exact mchk_od k q dl a0 a1 a2 a3 a4 a5 a6 a7 a8 key too val w k1 k2 k3 k4 hT hV hD
    · exact mchk_ov k q dl a0 a1 a2 a3 a4 a5 a6 a7 a8 key too val w k1 k2 k3 k4 hT hV
  · exact mchk_ot k q dl a0 a1 a2 a3 a4 a5 a6 a7 a8 key too val w k1 k2 k3 k4 hT
end Go.Proofs.YtelpkajlejbbgaaGreatDoor
