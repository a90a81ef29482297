/- What may be asked: a range's bounds. -/
import Derived.Test.YtifikngmddfahaaB6
namespace Go.Proofs.Ytifikngmddfahaa
set_option linter.unusedSimpArgs false
open Go.RowKit
set_option linter.unusedVariables false

set_option maxRecDepth 100000 in
set_option maxHeartbeats 4000000 in
theorem ar_a (k n a0 a1 a2 a3 a4 a5 a6 a7 a8 : Int) (key too : ByteArray) (B : Option Addr) (len cap : Nat) (w : World) (h1 : a0 < (key.size : Int)) :
    Calls Try.prog 18 #[.agg #[.int .u8 k, .string key, .string too, .int .i64 n, .slice B len cap], cfg a0 a1 a2 a3 a4 a5 a6 a7 a8] w fun e w' => e = .returned (.int .i64 6) ∧ Below w.heap.size w w' := by
  have h1d : decide (a0 < (key.size : Int)) = true := by simp [h1]
  go_enter Try.func18, Try.ntmps18
  go_wp2_with fail
  have e0 : ((w.alloc (.cells #[.int .u8 k, .string key, .string too, .int .i64 n, .slice B len cap] 27)).alloc (.cells #[.int .i64 a0, .int .i64 a1, .int .i64 a2, .int .i64 a3, .int .i64 a4, .int .i64 a5, .int .i64 a6, .int .i64 a7, .int .i64 a8] 23)).cell? ⟨w.heap.size, 0, none⟩ = some (.int .u8 k) := by simp [go_sem]
  have e1 : ((w.alloc (.cells #[.int .u8 k, .string key, .string too, .int .i64 n, .slice B len cap] 27)).alloc (.cells #[.int .i64 a0, .int .i64 a1, .int .i64 a2, .int .i64 a3, .int .i64 a4, .int .i64 a5, .int .i64 a6, .int .i64 a7, .int .i64 a8] 23)).cell? ⟨w.heap.size, 1, none⟩ = some (.string key) := by simp [go_sem]
  have e2 : ((w.alloc (.cells #[.int .u8 k, .string key, .string too, .int .i64 n, .slice B len cap] 27)).alloc (.cells #[.int .i64 a0, .int .i64 a1, .int .i64 a2, .int .i64 a3, .int .i64 a4, .int .i64 a5, .int .i64 a6, .int .i64 a7, .int .i64 a8] 23)).cell? ⟨w.heap.size, 2, none⟩ = some (.string too) := by simp [go_sem]
  have e3 : ((w.alloc (.cells #[.int .u8 k, .string key, .string too, .int .i64 n, .slice B len cap] 27)).alloc (.cells #[.int .i64 a0, .int .i64 a1, .int .i64 a2, .int .i64 a3, .int .i64 a4, .int .i64 a5, .int .i64 a6, .int .i64 a7, .int .i64 a8] 23)).cell? ⟨w.heap.size, 3, none⟩ = some (.int .i64 n) := by simp [go_sem]
  have e4 : ((w.alloc (.cells #[.int .u8 k, .string key, .string too, .int .i64 n, .slice B len cap] 27)).alloc (.cells #[.int .i64 a0, .int .i64 a1, .int .i64 a2, .int .i64 a3, .int .i64 a4, .int .i64 a5, .int .i64 a6, .int .i64 a7, .int .i64 a8] 23)).cell? ⟨w.heap.size + 1, 0, none⟩ = some (.int .i64 a0) := by simp [go_sem]
  have e5 : ((w.alloc (.cells #[.int .u8 k, .string key, .string too, .int .i64 n, .slice B len cap] 27)).alloc (.cells #[.int .i64 a0, .int .i64 a1, .int .i64 a2, .int .i64 a3, .int .i64 a4, .int .i64 a5, .int .i64 a6, .int .i64 a7, .int .i64 a8] 23)).cell? ⟨w.heap.size + 1, 8, none⟩ = some (.int .i64 a8) := by simp [go_sem]
  have hW : Below w.heap.size w ((w.alloc (.cells #[.int .u8 k, .string key, .string too, .int .i64 n, .slice B len cap] 27)).alloc (.cells #[.int .i64 a0, .int .i64 a1, .int .i64 a2, .int .i64 a3, .int .i64 a4, .int .i64 a5, .int .i64 a6, .int .i64 a7, .int .i64 a8] 23)) := by go_grown
  generalize ((w.alloc (.cells #[.int .u8 k, .string key, .string too, .int .i64 n, .slice B len cap] 27)).alloc (.cells #[.int .i64 a0, .int .i64 a1, .int .i64 a2, .int .i64 a3, .int .i64 a4, .int .i64 a5, .int .i64 a6, .int .i64 a7, .int .i64 a8] 23)) = W at *
  go_ret
  exact ⟨rfl, hW⟩
set_option maxRecDepth 100000 in
set_option maxHeartbeats 4000000 in
theorem ar_b (k n a0 a1 a2 a3 a4 a5 a6 a7 a8 : Int) (key too : ByteArray) (B : Option Addr) (len cap : Nat) (w : World) (h1 : ¬ a0 < (key.size : Int)) (h2 : a0 < (too.size : Int)) :
    Calls Try.prog 18 #[.agg #[.int .u8 k, .string key, .string too, .int .i64 n, .slice B len cap], cfg a0 a1 a2 a3 a4 a5 a6 a7 a8] w fun e w' => e = .returned (.int .i64 6) ∧ Below w.heap.size w w' := by
  have h1d : decide (a0 < (key.size : Int)) = false := by simp [h1]
  have h2d : decide (a0 < (too.size : Int)) = true := by simp [h2]
  go_enter Try.func18, Try.ntmps18
  go_wp2_with fail
  have e0 : ((w.alloc (.cells #[.int .u8 k, .string key, .string too, .int .i64 n, .slice B len cap] 27)).alloc (.cells #[.int .i64 a0, .int .i64 a1, .int .i64 a2, .int .i64 a3, .int .i64 a4, .int .i64 a5, .int .i64 a6, .int .i64 a7, .int .i64 a8] 23)).cell? ⟨w.heap.size, 0, none⟩ = some (.int .u8 k) := by simp [go_sem]
  have e1 : ((w.alloc (.cells #[.int .u8 k, .string key, .string too, .int .i64 n, .slice B len cap] 27)).alloc (.cells #[.int .i64 a0, .int .i64 a1, .int .i64 a2, .int .i64 a3, .int .i64 a4, .int .i64 a5, .int .i64 a6, .int .i64 a7, .int .i64 a8] 23)).cell? ⟨w.heap.size, 1, none⟩ = some (.string key) := by simp [go_sem]
  have e2 : ((w.alloc (.cells #[.int .u8 k, .string key, .string too, .int .i64 n, .slice B len cap] 27)).alloc (.cells #[.int .i64 a0, .int .i64 a1, .int .i64 a2, .int .i64 a3, .int .i64 a4, .int .i64 a5, .int .i64 a6, .int .i64 a7, .int .i64 a8] 23)).cell? ⟨w.heap.size, 2, none⟩ = some (.string too) := by simp [go_sem]
  have e3 : ((w.alloc (.cells #[.int .u8 k, .string key, .string too, .int .i64 n, .slice B len cap] 27)).alloc (.cells #[.int .i64 a0, .int .i64 a1, .int .i64 a2, .int .i64 a3, .int .i64 a4, .int .i64 a5, .int .i64 a6, .int .i64 a7, .int .i64 a8] 23)).cell? ⟨w.heap.size, 3, none⟩ = some (.int .i64 n) := by simp [go_sem]
  have e4 : ((w.alloc (.cells #[.int .u8 k, .string key, .string too, .int .i64 n, .slice B len cap] 27)).alloc (.cells #[.int .i64 a0, .int .i64 a1, .int .i64 a2, .int .i64 a3, .int .i64 a4, .int .i64 a5, .int .i64 a6, .int .i64 a7, .int .i64 a8] 23)).cell? ⟨w.heap.size + 1, 0, none⟩ = some (.int .i64 a0) := by simp [go_sem]
  have e5 : ((w.alloc (.cells #[.int .u8 k, .string key, .string too, .int .i64 n, .slice B len cap] 27)).alloc (.cells #[.int .i64 a0, .int .i64 a1, .int .i64 a2, .int .i64 a3, .int .i64 a4, .int .i64 a5, .int .i64 a6, .int .i64 a7, .int .i64 a8] 23)).cell? ⟨w.heap.size + 1, 8, none⟩ = some (.int .i64 a8) := by simp [go_sem]
  have hW : Below w.heap.size w ((w.alloc (.cells #[.int .u8 k, .string key, .string too, .int .i64 n, .slice B len cap] 27)).alloc (.cells #[.int .i64 a0, .int .i64 a1, .int .i64 a2, .int .i64 a3, .int .i64 a4, .int .i64 a5, .int .i64 a6, .int .i64 a7, .int .i64 a8] 23)) := by go_grown
  generalize ((w.alloc (.cells #[.int .u8 k, .string key, .string too, .int .i64 n, .slice B len cap] 27)).alloc (.cells #[.int .i64 a0, .int .i64 a1, .int .i64 a2, .int .i64 a3, .int .i64 a4, .int .i64 a5, .int .i64 a6, .int .i64 a7, .int .i64 a8] 23)) = W at *
  go_ret
  exact ⟨rfl, hW⟩
set_option maxRecDepth 100000 in
set_option maxHeartbeats 4000000 in
theorem ar_c (k n a0 a1 a2 a3 a4 a5 a6 a7 a8 : Int) (key too : ByteArray) (B : Option Addr) (len cap : Nat) (w : World) (h1 : ¬ a0 < (key.size : Int)) (h2 : ¬ a0 < (too.size : Int)) (h3 : sbS key too = false) :
    Calls Try.prog 18 #[.agg #[.int .u8 k, .string key, .string too, .int .i64 n, .slice B len cap], cfg a0 a1 a2 a3 a4 a5 a6 a7 a8] w fun e w' => e = .returned (.int .i64 7) ∧ Below w.heap.size w w' := by
  have h1d : decide (a0 < (key.size : Int)) = false := by simp [h1]
  have h2d : decide (a0 < (too.size : Int)) = false := by simp [h2]
  have R := fun W => rightRange_any key too W
  simp only [h3] at R
  have RR := Lib.hid R
  clear R
  go_enter Try.func18, Try.ntmps18
  go_wp2_with fail
  have e0 : ((w.alloc (.cells #[.int .u8 k, .string key, .string too, .int .i64 n, .slice B len cap] 27)).alloc (.cells #[.int .i64 a0, .int .i64 a1, .int .i64 a2, .int .i64 a3, .int .i64 a4, .int .i64 a5, .int .i64 a6, .int .i64 a7, .int .i64 a8] 23)).cell? ⟨w.heap.size, 0, none⟩ = some (.int .u8 k) := by simp [go_sem]
  have e1 : ((w.alloc (.cells #[.int .u8 k, .string key, .string too, .int .i64 n, .slice B len cap] 27)).alloc (.cells #[.int .i64 a0, .int .i64 a1, .int .i64 a2, .int .i64 a3, .int .i64 a4, .int .i64 a5, .int .i64 a6, .int .i64 a7, .int .i64 a8] 23)).cell? ⟨w.heap.size, 1, none⟩ = some (.string key) := by simp [go_sem]
  have e2 : ((w.alloc (.cells #[.int .u8 k, .string key, .string too, .int .i64 n, .slice B len cap] 27)).alloc (.cells #[.int .i64 a0, .int .i64 a1, .int .i64 a2, .int .i64 a3, .int .i64 a4, .int .i64 a5, .int .i64 a6, .int .i64 a7, .int .i64 a8] 23)).cell? ⟨w.heap.size, 2, none⟩ = some (.string too) := by simp [go_sem]
  have e3 : ((w.alloc (.cells #[.int .u8 k, .string key, .string too, .int .i64 n, .slice B len cap] 27)).alloc (.cells #[.int .i64 a0, .int .i64 a1, .int .i64 a2, .int .i64 a3, .int .i64 a4, .int .i64 a5, .int .i64 a6, .int .i64 a7, .int .i64 a8] 23)).cell? ⟨w.heap.size, 3, none⟩ = some (.int .i64 n) := by simp [go_sem]
  have e4 : ((w.alloc (.cells #[.int .u8 k, .string key, .string too, .int .i64 n, .slice B len cap] 27)).alloc (.cells #[.int .i64 a0, .int .i64 a1, .int .i64 a2, .int .i64 a3, .int .i64 a4, .int .i64 a5, .int .i64 a6, .int .i64 a7, .int .i64 a8] 23)).cell? ⟨w.heap.size + 1, 0, none⟩ = some (.int .i64 a0) := by simp [go_sem]
  have e5 : ((w.alloc (.cells #[.int .u8 k, .string key, .string too, .int .i64 n, .slice B len cap] 27)).alloc (.cells #[.int .i64 a0, .int .i64 a1, .int .i64 a2, .int .i64 a3, .int .i64 a4, .int .i64 a5, .int .i64 a6, .int .i64 a7, .int .i64 a8] 23)).cell? ⟨w.heap.size + 1, 8, none⟩ = some (.int .i64 a8) := by simp [go_sem]
  have hW : Below w.heap.size w ((w.alloc (.cells #[.int .u8 k, .string key, .string too, .int .i64 n, .slice B len cap] 27)).alloc (.cells #[.int .i64 a0, .int .i64 a1, .int .i64 a2, .int .i64 a3, .int .i64 a4, .int .i64 a5, .int .i64 a6, .int .i64 a7, .int .i64 a8] 23)) := by go_grown
  generalize ((w.alloc (.cells #[.int .u8 k, .string key, .string too, .int .i64 n, .slice B len cap] 27)).alloc (.cells #[.int .i64 a0, .int .i64 a1, .int .i64 a2, .int .i64 a3, .int .i64 a4, .int .i64 a5, .int .i64 a6, .int .i64 a7, .int .i64 a8] 23)) = W at *
  refine (RR.out _).mono ?_
  rintro e w1 ⟨rfl, hb⟩
  have d0 : w1.cell? ⟨w.heap.size, 0, none⟩ = some (.int .u8 k) := bel_later hb e0
  have d1 : w1.cell? ⟨w.heap.size, 1, none⟩ = some (.string key) := bel_later hb e1
  have d2 : w1.cell? ⟨w.heap.size, 2, none⟩ = some (.string too) := bel_later hb e2
  have d3 : w1.cell? ⟨w.heap.size, 3, none⟩ = some (.int .i64 n) := bel_later hb e3
  have d4 : w1.cell? ⟨w.heap.size + 1, 0, none⟩ = some (.int .i64 a0) := bel_later hb e4
  have d5 : w1.cell? ⟨w.heap.size + 1, 8, none⟩ = some (.int .i64 a8) := bel_later hb e5
  have hw1 : Below w.heap.size w w1 := bel_step hW hb (Nat.le_refl _)
  clear hb hW e0 e1 e2 e3 e4 e5
  go_wp2
  go_ret
  exact ⟨rfl, hw1⟩
set_option maxRecDepth 100000 in
set_option maxHeartbeats 4000000 in
theorem ar_d (n a0 a1 a2 a3 a4 a5 a6 a7 a8 : Int) (key too : ByteArray) (B : Option Addr) (len cap : Nat) (w : World) (h1 : ¬ a0 < (key.size : Int)) (h2 : ¬ a0 < (too.size : Int)) (h3 : sbS key too = true) (h5 : n < 1) :
    Calls Try.prog 18 #[.agg #[.int .u8 3, .string key, .string too, .int .i64 n, .slice B len cap], cfg a0 a1 a2 a3 a4 a5 a6 a7 a8] w fun e w' => e = .returned (.int .i64 4) ∧ Below w.heap.size w w' := by
  have h1d : decide (a0 < (key.size : Int)) = false := by simp [h1]
  have h2d : decide (a0 < (too.size : Int)) = false := by simp [h2]
  have R := fun W => rightRange_any key too W
  simp only [h3] at R
  have RR := Lib.hid R
  clear R
  go_enter Try.func18, Try.ntmps18
  go_wp2_with fail
  have e0 : ((w.alloc (.cells #[.int .u8 3, .string key, .string too, .int .i64 n, .slice B len cap] 27)).alloc (.cells #[.int .i64 a0, .int .i64 a1, .int .i64 a2, .int .i64 a3, .int .i64 a4, .int .i64 a5, .int .i64 a6, .int .i64 a7, .int .i64 a8] 23)).cell? ⟨w.heap.size, 0, none⟩ = some (.int .u8 3) := by simp [go_sem]
  have e1 : ((w.alloc (.cells #[.int .u8 3, .string key, .string too, .int .i64 n, .slice B len cap] 27)).alloc (.cells #[.int .i64 a0, .int .i64 a1, .int .i64 a2, .int .i64 a3, .int .i64 a4, .int .i64 a5, .int .i64 a6, .int .i64 a7, .int .i64 a8] 23)).cell? ⟨w.heap.size, 1, none⟩ = some (.string key) := by simp [go_sem]
  have e2 : ((w.alloc (.cells #[.int .u8 3, .string key, .string too, .int .i64 n, .slice B len cap] 27)).alloc (.cells #[.int .i64 a0, .int .i64 a1, .int .i64 a2, .int .i64 a3, .int .i64 a4, .int .i64 a5, .int .i64 a6, .int .i64 a7, .int .i64 a8] 23)).cell? ⟨w.heap.size, 2, none⟩ = some (.string too) := by simp [go_sem]
  have e3 : ((w.alloc (.cells #[.int .u8 3, .string key, .string too, .int .i64 n, .slice B len cap] 27)).alloc (.cells #[.int .i64 a0, .int .i64 a1, .int .i64 a2, .int .i64 a3, .int .i64 a4, .int .i64 a5, .int .i64 a6, .int .i64 a7, .int .i64 a8] 23)).cell? ⟨w.heap.size, 3, none⟩ = some (.int .i64 n) := by simp [go_sem]
  have e4 : ((w.alloc (.cells #[.int .u8 3, .string key, .string too, .int .i64 n, .slice B len cap] 27)).alloc (.cells #[.int .i64 a0, .int .i64 a1, .int .i64 a2, .int .i64 a3, .int .i64 a4, .int .i64 a5, .int .i64 a6, .int .i64 a7, .int .i64 a8] 23)).cell? ⟨w.heap.size + 1, 0, none⟩ = some (.int .i64 a0) := by simp [go_sem]
  have e5 : ((w.alloc (.cells #[.int .u8 3, .string key, .string too, .int .i64 n, .slice B len cap] 27)).alloc (.cells #[.int .i64 a0, .int .i64 a1, .int .i64 a2, .int .i64 a3, .int .i64 a4, .int .i64 a5, .int .i64 a6, .int .i64 a7, .int .i64 a8] 23)).cell? ⟨w.heap.size + 1, 8, none⟩ = some (.int .i64 a8) := by simp [go_sem]
  have hW : Below w.heap.size w ((w.alloc (.cells #[.int .u8 3, .string key, .string too, .int .i64 n, .slice B len cap] 27)).alloc (.cells #[.int .i64 a0, .int .i64 a1, .int .i64 a2, .int .i64 a3, .int .i64 a4, .int .i64 a5, .int .i64 a6, .int .i64 a7, .int .i64 a8] 23)) := by go_grown
  generalize ((w.alloc (.cells #[.int .u8 3, .string key, .string too, .int .i64 n, .slice B len cap] 27)).alloc (.cells #[.int .i64 a0, .int .i64 a1, .int .i64 a2, .int .i64 a3, .int .i64 a4, .int .i64 a5, .int .i64 a6, .int .i64 a7, .int .i64 a8] 23)) = W at *
  refine (RR.out _).mono ?_
  rintro e w1 ⟨rfl, hb⟩
  have d0 : w1.cell? ⟨w.heap.size, 0, none⟩ = some (.int .u8 3) := bel_later hb e0
  have d1 : w1.cell? ⟨w.heap.size, 1, none⟩ = some (.string key) := bel_later hb e1
  have d2 : w1.cell? ⟨w.heap.size, 2, none⟩ = some (.string too) := bel_later hb e2
  have d3 : w1.cell? ⟨w.heap.size, 3, none⟩ = some (.int .i64 n) := bel_later hb e3
  have d4 : w1.cell? ⟨w.heap.size + 1, 0, none⟩ = some (.int .i64 a0) := bel_later hb e4
  have d5 : w1.cell? ⟨w.heap.size + 1, 8, none⟩ = some (.int .i64 a8) := bel_later hb e5
  have hw1 : Below w.heap.size w w1 := bel_step hW hb (Nat.le_refl _)
  clear hb hW e0 e1 e2 e3 e4 e5
  go_wp2
  go_ret
  exact ⟨rfl, hw1⟩
set_option maxRecDepth 100000 in
set_option maxHeartbeats 4000000 in
theorem ar_e (n a0 a1 a2 a3 a4 a5 a6 a7 a8 : Int) (key too : ByteArray) (B : Option Addr) (len cap : Nat) (w : World) (h1 : ¬ a0 < (key.size : Int)) (h2 : ¬ a0 < (too.size : Int)) (h3 : sbS key too = true) (h5 : ¬ n < 1) (h6 : a8 < n) :
    Calls Try.prog 18 #[.agg #[.int .u8 3, .string key, .string too, .int .i64 n, .slice B len cap], cfg a0 a1 a2 a3 a4 a5 a6 a7 a8] w fun e w' => e = .returned (.int .i64 4) ∧ Below w.heap.size w w' := by
  have h1d : decide (a0 < (key.size : Int)) = false := by simp [h1]
  have h2d : decide (a0 < (too.size : Int)) = false := by simp [h2]
  have R := fun W => rightRange_any key too W
  simp only [h3] at R
  have RR := Lib.hid R
  clear R
  go_enter Try.func18, Try.ntmps18
  go_wp2_with fail
  have e0 : ((w.alloc (.cells #[.int .u8 3, .string key, .string too, .int .i64 n, .slice B len cap] 27)).alloc (.cells #[.int .i64 a0, .int .i64 a1, .int .i64 a2, .int .i64 a3, .int .i64 a4, .int .i64 a5, .int .i64 a6, .int .i64 a7, .int .i64 a8] 23)).cell? ⟨w.heap.size, 0, none⟩ = some (.int .u8 3) := by simp [go_sem]
  have e1 : ((w.alloc (.cells #[.int .u8 3, .string key, .string too, .int .i64 n, .slice B len cap] 27)).alloc (.cells #[.int .i64 a0, .int .i64 a1, .int .i64 a2, .int .i64 a3, .int .i64 a4, .int .i64 a5, .int .i64 a6, .int .i64 a7, .int .i64 a8] 23)).cell? ⟨w.heap.size, 1, none⟩ = some (.string key) := by simp [go_sem]
  have e2 : ((w.alloc (.cells #[.int .u8 3, .string key, .string too, .int .i64 n, .slice B len cap] 27)).alloc (.cells #[.int .i64 a0, .int .i64 a1, .int .i64 a2, .int .i64 a3, .int .i64 a4, .int .i64 a5, .int .i64 a6, .int .i64 a7, .int .i64 a8] 23)).cell? ⟨w.heap.size, 2, none⟩ = some (.string too) := by simp [go_sem]
  have e3 : ((w.alloc (.cells #[.int .u8 3, .string key, .string too, .int .i64 n, .slice B len cap] 27)).alloc (.cells #[.int .i64 a0, .int .i64 a1, .int .i64 a2, .int .i64 a3, .int .i64 a4, .int .i64 a5, .int .i64 a6, .int .i64 a7, .int .i64 a8] 23)).cell? ⟨w.heap.size, 3, none⟩ = some (.int .i64 n) := by simp [go_sem]
  have e4 : ((w.alloc (.cells #[.int .u8 3, .string key, .string too, .int .i64 n, .slice B len cap] 27)).alloc (.cells #[.int .i64 a0, .int .i64 a1, .int .i64 a2, .int .i64 a3, .int .i64 a4, .int .i64 a5, .int .i64 a6, .int .i64 a7, .int .i64 a8] 23)).cell? ⟨w.heap.size + 1, 0, none⟩ = some (.int .i64 a0) := by simp [go_sem]
  have e5 : ((w.alloc (.cells #[.int .u8 3, .string key, .string too, .int .i64 n, .slice B len cap] 27)).alloc (.cells #[.int .i64 a0, .int .i64 a1, .int .i64 a2, .int .i64 a3, .int .i64 a4, .int .i64 a5, .int .i64 a6, .int .i64 a7, .int .i64 a8] 23)).cell? ⟨w.heap.size + 1, 8, none⟩ = some (.int .i64 a8) := by simp [go_sem]
  have hW : Below w.heap.size w ((w.alloc (.cells #[.int .u8 3, .string key, .string too, .int .i64 n, .slice B len cap] 27)).alloc (.cells #[.int .i64 a0, .int .i64 a1, .int .i64 a2, .int .i64 a3, .int .i64 a4, .int .i64 a5, .int .i64 a6, .int .i64 a7, .int .i64 a8] 23)) := by go_grown
  generalize ((w.alloc (.cells #[.int .u8 3, .string key, .string too, .int .i64 n, .slice B len cap] 27)).alloc (.cells #[.int .i64 a0, .int .i64 a1, .int .i64 a2, .int .i64 a3, .int .i64 a4, .int .i64 a5, .int .i64 a6, .int .i64 a7, .int .i64 a8] 23)) = W at *
  refine (RR.out _).mono ?_
  rintro e w1 ⟨rfl, hb⟩
  have d0 : w1.cell? ⟨w.heap.size, 0, none⟩ = some (.int .u8 3) := bel_later hb e0
  have d1 : w1.cell? ⟨w.heap.size, 1, none⟩ = some (.string key) := bel_later hb e1
  have d2 : w1.cell? ⟨w.heap.size, 2, none⟩ = some (.string too) := bel_later hb e2
  have d3 : w1.cell? ⟨w.heap.size, 3, none⟩ = some (.int .i64 n) := bel_later hb e3
  have d4 : w1.cell? ⟨w.heap.size + 1, 0, none⟩ = some (.int .i64 a0) := bel_later hb e4
  have d5 : w1.cell? ⟨w.heap.size + 1, 8, none⟩ = some (.int .i64 a8) := bel_later hb e5
  have hw1 : Below w.heap.size w w1 := bel_step hW hb (Nat.le_refl _)
  clear hb hW e0 e1 e2 e3 e4 e5
  go_wp2
  go_ret
  exact ⟨rfl, hw1⟩
set_option maxRecDepth 100000 in
set_option maxHeartbeats 4000000 in
theorem ar_f (n a0 a1 a2 a3 a4 a5 a6 a7 a8 : Int) (key too : ByteArray) (B : Option Addr) (len cap : Nat) (w : World) (h1 : ¬ a0 < (key.size : Int)) (h2 : ¬ a0 < (too.size : Int)) (h3 : sbS key too = true) (h5 : ¬ n < 1) (h6 : ¬ a8 < n) :
    Calls Try.prog 18 #[.agg #[.int .u8 3, .string key, .string too, .int .i64 n, .slice B len cap], cfg a0 a1 a2 a3 a4 a5 a6 a7 a8] w fun e w' => e = .returned (.int .i64 0) ∧ Below w.heap.size w w' := by
  have h1d : decide (a0 < (key.size : Int)) = false := by simp [h1]
  have h2d : decide (a0 < (too.size : Int)) = false := by simp [h2]
  have R := fun W => rightRange_any key too W
  simp only [h3] at R
  have RR := Lib.hid R
  clear R
  go_enter Try.func18, Try.ntmps18
  go_wp2_with fail
  have e0 : ((w.alloc (.cells #[.int .u8 3, .string key, .string too, .int .i64 n, .slice B len cap] 27)).alloc (.cells #[.int .i64 a0, .int .i64 a1, .int .i64 a2, .int .i64 a3, .int .i64 a4, .int .i64 a5, .int .i64 a6, .int .i64 a7, .int .i64 a8] 23)).cell? ⟨w.heap.size, 0, none⟩ = some (.int .u8 3) := by simp [go_sem]
  have e1 : ((w.alloc (.cells #[.int .u8 3, .string key, .string too, .int .i64 n, .slice B len cap] 27)).alloc (.cells #[.int .i64 a0, .int .i64 a1, .int .i64 a2, .int .i64 a3, .int .i64 a4, .int .i64 a5, .int .i64 a6, .int .i64 a7, .int .i64 a8] 23)).cell? ⟨w.heap.size, 1, none⟩ = some (.string key) := by simp [go_sem]
  have e2 : ((w.alloc (.cells #[.int .u8 3, .string key, .string too, .int .i64 n, .slice B len cap] 27)).alloc (.cells #[.int .i64 a0, .int .i64 a1, .int .i64 a2, .int .i64 a3, .int .i64 a4, .int .i64 a5, .int .i64 a6, .int .i64 a7, .int .i64 a8] 23)).cell? ⟨w.heap.size, 2, none⟩ = some (.string too) := by simp [go_sem]
  have e3 : ((w.alloc (.cells #[.int .u8 3, .string key, .string too, .int .i64 n, .slice B len cap] 27)).alloc (.cells #[.int .i64 a0, .int .i64 a1, .int .i64 a2, .int .i64 a3, .int .i64 a4, .int .i64 a5, .int .i64 a6, .int .i64 a7, .int .i64 a8] 23)).cell? ⟨w.heap.size, 3, none⟩ = some (.int .i64 n) := by simp [go_sem]
  have e4 : ((w.alloc (.cells #[.int .u8 3, .string key, .string too, .int .i64 n, .slice B len cap] 27)).alloc (.cells #[.int .i64 a0, .int .i64 a1, .int .i64 a2, .int .i64 a3, .int .i64 a4, .int .i64 a5, .int .i64 a6, .int .i64 a7, .int .i64 a8] 23)).cell? ⟨w.heap.size + 1, 0, none⟩ = some (.int .i64 a0) := by simp [go_sem]
  have e5 : ((w.alloc (.cells #[.int .u8 3, .string key, .string too, .int .i64 n, .slice B len cap] 27)).alloc (.cells #[.int .i64 a0, .int .i64 a1, .int .i64 a2, .int .i64 a3, .int .i64 a4, .int .i64 a5, .int .i64 a6, .int .i64 a7, .int .i64 a8] 23)).cell? ⟨w.heap.size + 1, 8, none⟩ = some (.int .i64 a8) := by simp [go_sem]
  have hW : Below w.heap.size w ((w.alloc (.cells #[.int .u8 3, .string key, .string too, .int .i64 n, .slice B len cap] 27)).alloc (.cells #[.int .i64 a0, .int .i64 a1, .int .i64 a2, .int .i64 a3, .int .i64 a4, .int .i64 a5, .int .i64 a6, .int .i64 a7, .int .i64 a8] 23)) := by go_grown
  generalize ((w.alloc (.cells #[.int .u8 3, .string key, .string too, .int .i64 n, .slice B len cap] 27)).alloc (.cells #[.int .i64 a0, .int .i64 a1, .int .i64 a2, .int .i64 a3, .int .i64 a4, .int .i64 a5, .int .i64 a6, .int .i64 a7, .int .i64 a8] 23)) = W at *
  refine (RR.out _).mono ?_
  rintro e w1 ⟨rfl, hb⟩
  have d0 : w1.cell? ⟨w.heap.size, 0, none⟩ = some (.int .u8 3) := bel_later hb e0
  have d1 : w1.cell? ⟨w.heap.size, 1, none⟩ = some (.string key) := bel_later hb e1
  have d2 : w1.cell? ⟨w.heap.size, 2, none⟩ = some (.string too) := bel_later hb e2
  have d3 : w1.cell? ⟨w.heap.size, 3, none⟩ = some (.int .i64 n) := bel_later hb e3
  have d4 : w1.cell? ⟨w.heap.size + 1, 0, none⟩ = some (.int .i64 a0) := bel_later hb e4
  have d5 : w1.cell? ⟨w.heap.size + 1, 8, none⟩ = some (.int .i64 a8) := bel_later hb e5
  have hw1 : Below w.heap.size w w1 := bel_step hW hb (Nat.le_refl _)
  clear hb hW e0 e1 e2 e3 e4 e5
  go_wp2
  go_ret
  exact ⟨rfl, hw1⟩
set_option maxRecDepth 100000 in
set_option maxHeartbeats 4000000 in
theorem ar_g (k n a0 a1 a2 a3 a4 a5 a6 a7 a8 : Int) (key too : ByteArray) (B : Option Addr) (len cap : Nat) (w : World) (h1 : ¬ a0 < (key.size : Int)) (h2 : ¬ a0 < (too.size : Int)) (h3 : sbS key too = true) (h4 : k ≠ 3) :
    Calls Try.prog 18 #[.agg #[.int .u8 k, .string key, .string too, .int .i64 n, .slice B len cap], cfg a0 a1 a2 a3 a4 a5 a6 a7 a8] w fun e w' => e = .returned (.int .i64 0) ∧ Below w.heap.size w w' := by
  have h1d : decide (a0 < (key.size : Int)) = false := by simp [h1]
  have h2d : decide (a0 < (too.size : Int)) = false := by simp [h2]
  have R := fun W => rightRange_any key too W
  simp only [h3] at R
  have RR := Lib.hid R
  clear R
  go_enter Try.func18, Try.ntmps18
  go_wp2_with fail
  have e0 : ((w.alloc (.cells #[.int .u8 k, .string key, .string too, .int .i64 n, .slice B len cap] 27)).alloc (.cells #[.int .i64 a0, .int .i64 a1, .int .i64 a2, .int .i64 a3, .int .i64 a4, .int .i64 a5, .int .i64 a6, .int .i64 a7, .int .i64 a8] 23)).cell? ⟨w.heap.size, 0, none⟩ = some (.int .u8 k) := by simp [go_sem]
  have e1 : ((w.alloc (.cells #[.int .u8 k, .string key, .string too, .int .i64 n, .slice B len cap] 27)).alloc (.cells #[.int .i64 a0, .int .i64 a1, .int .i64 a2, .int .i64 a3, .int .i64 a4, .int .i64 a5, .int .i64 a6, .int .i64 a7, .int .i64 a8] 23)).cell? ⟨w.heap.size, 1, none⟩ = some (.string key) := by simp [go_sem]
  have e2 : ((w.alloc (.cells #[.int .u8 k, .string key, .string too, .int .i64 n, .slice B len cap] 27)).alloc (.cells #[.int .i64 a0, .int .i64 a1, .int .i64 a2, .int .i64 a3, .int .i64 a4, .int .i64 a5, .int .i64 a6, .int .i64 a7, .int .i64 a8] 23)).cell? ⟨w.heap.size, 2, none⟩ = some (.string too) := by simp [go_sem]
  have e3 : ((w.alloc (.cells #[.int .u8 k, .string key, .string too, .int .i64 n, .slice B len cap] 27)).alloc (.cells #[.int .i64 a0, .int .i64 a1, .int .i64 a2, .int .i64 a3, .int .i64 a4, .int .i64 a5, .int .i64 a6, .int .i64 a7, .int .i64 a8] 23)).cell? ⟨w.heap.size, 3, none⟩ = some (.int .i64 n) := by simp [go_sem]
  have e4 : ((w.alloc (.cells #[.int .u8 k, .string key, .string too, .int .i64 n, .slice B len cap] 27)).alloc (.cells #[.int .i64 a0, .int .i64 a1, .int .i64 a2, .int .i64 a3, .int .i64 a4, .int .i64 a5, .int .i64 a6, .int .i64 a7, .int .i64 a8] 23)).cell? ⟨w.heap.size + 1, 0, none⟩ = some (.int .i64 a0) := by simp [go_sem]
  have e5 : ((w.alloc (.cells #[.int .u8 k, .string key, .string too, .int .i64 n, .slice B len cap] 27)).alloc (.cells #[.int .i64 a0, .int .i64 a1, .int .i64 a2, .int .i64 a3, .int .i64 a4, .int .i64 a5, .int .i64 a6, .int .i64 a7, .int .i64 a8] 23)).cell? ⟨w.heap.size + 1, 8, none⟩ = some (.int .i64 a8) := by simp [go_sem]
  have hW : Below w.heap.size w ((w.alloc (.cells #[.int .u8 k, .string key, .string too, .int .i64 n, .slice B len cap] 27)).alloc (.cells #[.int .i64 a0, .int .i64 a1, .int .i64 a2, .int .i64 a3, .int .i64 a4, .int .i64 a5, .int .i64 a6, .int .i64 a7, .int .i64 a8] 23)) := by go_grown
  generalize ((w.alloc (.cells #[.int .u8 k, .string key, .string too, .int .i64 n, .slice B len cap] 27)).alloc (.cells #[.int .i64 a0, .int .i64 a1, .int .i64 a2, .int .i64 a3, .int .i64 a4, .int .i64 a5, .int .i64 a6, .int .i64 a7, .int .i64 a8] 23)) = W at *
  refine (RR.out _).mono ?_
  rintro e w1 ⟨rfl, hb⟩
  have d0 : w1.cell? ⟨w.heap.size, 0, none⟩ = some (.int .u8 k) := bel_later hb e0
  have d1 : w1.cell? ⟨w.heap.size, 1, none⟩ = some (.string key) := bel_later hb e1
  have d2 : w1.cell? ⟨w.heap.size, 2, none⟩ = some (.string too) := bel_later hb e2
  have d3 : w1.cell? ⟨w.heap.size, 3, none⟩ = some (.int .i64 n) := bel_later hb e3
  have d4 : w1.cell? ⟨w.heap.size + 1, 0, none⟩ = some (.int .i64 a0) := bel_later hb e4
  have d5 : w1.cell? ⟨w.heap.size + 1, 8, none⟩ = some (.int .i64 a8) := bel_later hb e5
  have hw1 : Below w.heap.size w w1 := bel_step hW hb (Nat.le_refl _)
  clear hb hW e0 e1 e2 e3 e4 e5
  go_wp2
  go_ret
  exact ⟨rfl, hw1⟩

/-- How a range may be asked. -/
def arF (k n a0 a8 : Int) (key too : ByteArray) : Int :=
  if a0 < (key.size : Int) then 6 else if a0 < (too.size : Int) then 6 else if sbS key too = false then 7 else if k = 3 then (if n < 1 then 4 else if a8 < n then 4 else 0) else 0
theorem askRange_any (k n a0 a1 a2 a3 a4 a5 a6 a7 a8 : Int) (key too : ByteArray) (B : Option Addr) (len cap : Nat) (w : World) :
    Calls Try.prog 18 #[.agg #[.int .u8 k, .string key, .string too, .int .i64 n, .slice B len cap], cfg a0 a1 a2 a3 a4 a5 a6 a7 a8] w fun e w' => e = .returned (.int .i64 (arF k n a0 a8 key too)) ∧ Below w.heap.size w w' := by
  unfold arF
  by_cases h1 : a0 < (key.size : Int)
  · rw [if_pos h1]; exact ar_a k n a0 a1 a2 a3 a4 a5 a6 a7 a8 key too B len cap w h1
  rw [if_neg h1]
  by_cases h2 : a0 < (too.size : Int)
  · rw [if_pos h2]; exact ar_b k n a0 a1 a2 a3 a4 a5 a6 a7 a8 key too B len cap w h1 h2
  rw [if_neg h2]
  by_cases h3 : sbS key too = false
  · rw [if_pos h3]; exact ar_c k n a0 a1 a2 a3 a4 a5 a6 a7 a8 key too B len cap w h1 h2 h3
  rw [if_neg h3]
  have h3' : sbS key too = true := by simpa using h3
  by_cases h4 : k = 3
  · subst h4
    rw [if_pos rfl]
    by_cases h5 : n < 1
    · rw [if_pos h5]; exact ar_d n a0 a1 a2 a3 a4 a5 a6 a7 a8 key too B len cap w h1 h2 h3' h5
    rw [if_neg h5]
    by_cases h6 : a8 < n
    · rw [if_pos h6]; exact ar_e n a0 a1 a2 a3 a4 a5 a6 a7 a8 key too B len cap w h1 h2 h3' h5 h6
    · rw [if_neg h6]; exact ar_f n a0 a1 a2 a3 a4 a5 a6 a7 a8 key too B len cap w h1 h2 h3' h5 h6
  · rw [if_neg h4]; exact ar_g k n a0 a1 a2 a3 a4 a5 a6 a7 a8 key too B len cap w h1 h2 h3' h4
end Go.Proofs.Ytifikngmddfahaa
