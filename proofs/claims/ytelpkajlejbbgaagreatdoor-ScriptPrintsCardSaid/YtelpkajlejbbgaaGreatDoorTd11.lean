/- What may be asked: the document's answer, an operation. -/
import Derived.Test.YtelpkajlejbbgaaGreatDoorTd09
import Derived.Test.YtelpkajlejbbgaaGreatDoorTd10
set_option linter.unusedVariables false
set_option linter.unusedSimpArgs false
namespace Go.Proofs.YtelpkajlejbbgaaGreatDoor
open Go.RowKit

theorem sb_bad {key too : ByteArray} (h5 : ¬too.toList = []) (h6 : (!too.toList.isEmpty) = true ∧ (Op.bytesLess too.toList key.toList = true ∨ (too.toList == key.toList) = true)) : sbS key too = false := by
  have h := (bl_ge _ _).1 h6.2
  simp [sbS, emp, ltS, h, h5]
theorem sb_ok {key too : ByteArray} (h5 : ¬too.toList = []) (h6 : (!too.toList.isEmpty) = false ∨ Op.bytesLess too.toList key.toList = false ∧ (too.toList == key.toList) = false) : sbS key too = true := by
  rcases h6 with h6 | h6
  · simp [h5] at h6
  have h := (bl_gt _ _).1 h6
  simp [sbS, emp, ltS, h]
theorem qmsg_any (k q dl a0 a1 a2 a3 a4 a5 a6 a7 a8 : Int) (key too val : ByteArray) (w : World) :
    Calls Tryz.prog 60 #[.agg #[.int .u8 k, .int .i64 q, .string key, .string too, .string val, .int .u64 dl], .agg #[.int .i64 a0, .int .i64 a1, .int .i64 a2, .int .i64 a3, .int .i64 a4, .int .i64 a5, .int .i64 a6, .int .i64 a7, .int .i64 a8]] w fun e w' => e = .returned (.int .i64 (mF k dl a0 a1 key too val)) ∧ Below w.heap.size w w' := by
  by_cases h1 : k < 1
  · exact rmsg_lo k q dl a0 a1 a2 a3 a4 a5 a6 a7 a8 key too val w h1
  by_cases h2 : 4 < k
  · exact rmsg_hi k q dl a0 a1 a2 a3 a4 a5 a6 a7 a8 key too val w h2
  rcases (by omega : k = 1 ∨ k = 2 ∨ k = 3 ∨ k = 4) with rfl | rfl | rfl | rfl
  · exact rmsg_1 q dl a0 a1 a2 a3 a4 a5 a6 a7 a8 key too val w
  · exact rmsg_2 q dl a0 a1 a2 a3 a4 a5 a6 a7 a8 key too val w
  · exact rmsg_3 q dl a0 a1 a2 a3 a4 a5 a6 a7 a8 key too val w
  · exact rmsg_4 q dl a0 a1 a2 a3 a4 a5 a6 a7 a8 key too val w

set_option maxRecDepth 100000 in
set_option maxHeartbeats 4000000 in
theorem rask_lo (k n a0 a1 a2 a3 a4 a5 a6 a7 a8 : Int) (key too : ByteArray) (B : Option Addr) (len cap : Nat) (w : World) (hk : k < 1) :
    Calls Tryz.prog 33 #[.agg #[.int .u8 k, .string key, .string too, .int .i64 n, .slice B len cap], .agg #[.int .i64 a0, .int .i64 a1, .int .i64 a2, .int .i64 a3, .int .i64 a4, .int .i64 a5, .int .i64 a6, .int .i64 a7, .int .i64 a8]] w fun e w' => e = .returned (.int .i64 3) ∧ Below w.heap.size w w' := by
  go_enter Tryz.func33, Tryz.ntmps33
  go_wp2
  all_goals
    go_ret
    exact ⟨rfl, by go_grown⟩
set_option maxRecDepth 100000 in
set_option maxHeartbeats 4000000 in
theorem rask_hi (k n a0 a1 a2 a3 a4 a5 a6 a7 a8 : Int) (key too : ByteArray) (B : Option Addr) (len cap : Nat) (w : World) (hk : 6 < k) :
    Calls Tryz.prog 33 #[.agg #[.int .u8 k, .string key, .string too, .int .i64 n, .slice B len cap], .agg #[.int .i64 a0, .int .i64 a1, .int .i64 a2, .int .i64 a3, .int .i64 a4, .int .i64 a5, .int .i64 a6, .int .i64 a7, .int .i64 a8]] w fun e w' => e = .returned (.int .i64 3) ∧ Below w.heap.size w w' := by
  go_enter Tryz.func33, Tryz.ntmps33
  go_wp2
  all_goals
    go_ret
    exact ⟨rfl, by go_grown⟩
set_option maxRecDepth 100000 in
set_option maxHeartbeats 4000000 in
theorem rask_z1 (n a0 a1 a2 a3 a4 a5 a6 a7 a8 : Int) (key too : ByteArray) (B : Option Addr) (len cap : Nat) (w : World) (hp : opureB 1 n key too len = false) :
    Calls Tryz.prog 33 #[.agg #[.int .u8 1, .string key, .string too, .int .i64 n, .slice B len cap], .agg #[.int .i64 a0, .int .i64 a1, .int .i64 a2, .int .i64 a3, .int .i64 a4, .int .i64 a5, .int .i64 a6, .int .i64 a7, .int .i64 a8]] w fun e w' => e = .returned (.int .i64 3) ∧ Below w.heap.size w w' := by
  have Z := Lib.hid (fun w => by have h := zero_any 1 n key too B len cap w (by omega) (by omega); rw [hp] at h; exact h)
  clear hp
  go_enter Tryz.func33, Tryz.ntmps33
  go_wp2_with fail
  obtain ⟨W, hWW⟩ : ∃ W, W = (w.alloc (.cells #[.int .u8 1, .string key, .string too, .int .i64 n, .slice B len cap] 47)).alloc (.cells #[.int .i64 a0, .int .i64 a1, .int .i64 a2, .int .i64 a3, .int .i64 a4, .int .i64 a5, .int .i64 a6, .int .i64 a7, .int .i64 a8] 23) := ⟨_, rfl⟩
  have e0 : W.cell? ⟨w.heap.size, 0, none⟩ = some (.int .u8 1) := by rw [hWW]; simp [go_sem]
  have e1 : W.cell? ⟨w.heap.size, 1, none⟩ = some (.string key) := by rw [hWW]; simp [go_sem]
  have e2 : W.cell? ⟨w.heap.size, 2, none⟩ = some (.string too) := by rw [hWW]; simp [go_sem]
  have e3 : W.cell? ⟨w.heap.size, 3, none⟩ = some (.int .i64 n) := by rw [hWW]; simp [go_sem]
  have e4 : W.cell? ⟨w.heap.size, 4, none⟩ = some (.slice B len cap) := by rw [hWW]; simp [go_sem]
  have f0 : W.cell? ⟨w.heap.size + 1, 0, none⟩ = some (.int .i64 a0) := by rw [hWW]; simp [go_sem]
  have f1 : W.cell? ⟨w.heap.size + 1, 1, none⟩ = some (.int .i64 a1) := by rw [hWW]; simp [go_sem]
  have f2 : W.cell? ⟨w.heap.size + 1, 2, none⟩ = some (.int .i64 a2) := by rw [hWW]; simp [go_sem]
  have f3 : W.cell? ⟨w.heap.size + 1, 3, none⟩ = some (.int .i64 a3) := by rw [hWW]; simp [go_sem]
  have f4 : W.cell? ⟨w.heap.size + 1, 4, none⟩ = some (.int .i64 a4) := by rw [hWW]; simp [go_sem]
  have f5 : W.cell? ⟨w.heap.size + 1, 5, none⟩ = some (.int .i64 a5) := by rw [hWW]; simp [go_sem]
  have f6 : W.cell? ⟨w.heap.size + 1, 6, none⟩ = some (.int .i64 a6) := by rw [hWW]; simp [go_sem]
  have f7 : W.cell? ⟨w.heap.size + 1, 7, none⟩ = some (.int .i64 a7) := by rw [hWW]; simp [go_sem]
  have f8 : W.cell? ⟨w.heap.size + 1, 8, none⟩ = some (.int .i64 a8) := by rw [hWW]; simp [go_sem]
  have hW : Below w.heap.size w W := by rw [hWW]; go_grown
  have hS : w.heap.size + 1 < W.heap.size := by rw [hWW]; simp
  rw [← hWW]
  clear hWW
  refine (Z.out _).mono ?_
  rintro e w1 ⟨rfl, hb⟩
  have d0 := bel_later hb e0
  have d1 := bel_later hb e1
  have d2 := bel_later hb e2
  have d3 := bel_later hb e3
  have d4 := bel_later hb e4
  have x0 := bel_later hb f0
  have x1 := bel_later hb f1
  have x2 := bel_later hb f2
  have x3 := bel_later hb f3
  have x4 := bel_later hb f4
  have x5 := bel_later hb f5
  have x6 := bel_later hb f6
  have x7 := bel_later hb f7
  have x8 := bel_later hb f8
  have hw1 : Below w.heap.size w w1 := bel_step hW hb (Nat.le_refl _)
  have hS1 : w.heap.size + 1 < w1.heap.size := Nat.lt_of_lt_of_le hS hb.size
  clear hb hW hS e0 e1 e2 e3 e4 f0 f1 f2 f3 f4 f5 f6 f7 f8
  go_wp2
  all_goals
    go_ret
    exact ⟨rfl, by first | assumption | go_grown⟩
set_option maxRecDepth 100000 in
set_option maxHeartbeats 4000000 in
theorem rask_z2 (n a0 a1 a2 a3 a4 a5 a6 a7 a8 : Int) (key too : ByteArray) (B : Option Addr) (len cap : Nat) (w : World) (hp : opureB 2 n key too len = false) :
    Calls Tryz.prog 33 #[.agg #[.int .u8 2, .string key, .string too, .int .i64 n, .slice B len cap], .agg #[.int .i64 a0, .int .i64 a1, .int .i64 a2, .int .i64 a3, .int .i64 a4, .int .i64 a5, .int .i64 a6, .int .i64 a7, .int .i64 a8]] w fun e w' => e = .returned (.int .i64 3) ∧ Below w.heap.size w w' := by
  have Z := Lib.hid (fun w => by have h := zero_any 2 n key too B len cap w (by omega) (by omega); rw [hp] at h; exact h)
  clear hp
  go_enter Tryz.func33, Tryz.ntmps33
  go_wp2_with fail
  obtain ⟨W, hWW⟩ : ∃ W, W = (w.alloc (.cells #[.int .u8 2, .string key, .string too, .int .i64 n, .slice B len cap] 47)).alloc (.cells #[.int .i64 a0, .int .i64 a1, .int .i64 a2, .int .i64 a3, .int .i64 a4, .int .i64 a5, .int .i64 a6, .int .i64 a7, .int .i64 a8] 23) := ⟨_, rfl⟩
  have e0 : W.cell? ⟨w.heap.size, 0, none⟩ = some (.int .u8 2) := by rw [hWW]; simp [go_sem]
  have e1 : W.cell? ⟨w.heap.size, 1, none⟩ = some (.string key) := by rw [hWW]; simp [go_sem]
  have e2 : W.cell? ⟨w.heap.size, 2, none⟩ = some (.string too) := by rw [hWW]; simp [go_sem]
  have e3 : W.cell? ⟨w.heap.size, 3, none⟩ = some (.int .i64 n) := by rw [hWW]; simp [go_sem]
  have e4 : W.cell? ⟨w.heap.size, 4, none⟩ = some (.slice B len cap) := by rw [hWW]; simp [go_sem]
  have f0 : W.cell? ⟨w.heap.size + 1, 0, none⟩ = some (.int .i64 a0) := by rw [hWW]; simp [go_sem]
  have f1 : W.cell? ⟨w.heap.size + 1, 1, none⟩ = some (.int .i64 a1) := by rw [hWW]; simp [go_sem]
  have f2 : W.cell? ⟨w.heap.size + 1, 2, none⟩ = some (.int .i64 a2) := by rw [hWW]; simp [go_sem]
  have f3 : W.cell? ⟨w.heap.size + 1, 3, none⟩ = some (.int .i64 a3) := by rw [hWW]; simp [go_sem]
  have f4 : W.cell? ⟨w.heap.size + 1, 4, none⟩ = some (.int .i64 a4) := by rw [hWW]; simp [go_sem]
  have f5 : W.cell? ⟨w.heap.size + 1, 5, none⟩ = some (.int .i64 a5) := by rw [hWW]; simp [go_sem]
  have f6 : W.cell? ⟨w.heap.size + 1, 6, none⟩ = some (.int .i64 a6) := by rw [hWW]; simp [go_sem]
  have f7 : W.cell? ⟨w.heap.size + 1, 7, none⟩ = some (.int .i64 a7) := by rw [hWW]; simp [go_sem]
  have f8 : W.cell? ⟨w.heap.size + 1, 8, none⟩ = some (.int .i64 a8) := by rw [hWW]; simp [go_sem]
  have hW : Below w.heap.size w W := by rw [hWW]; go_grown
  have hS : w.heap.size + 1 < W.heap.size := by rw [hWW]; simp
  rw [← hWW]
  clear hWW
  refine (Z.out _).mono ?_
  rintro e w1 ⟨rfl, hb⟩
  have d0 := bel_later hb e0
  have d1 := bel_later hb e1
  have d2 := bel_later hb e2
  have d3 := bel_later hb e3
  have d4 := bel_later hb e4
  have x0 := bel_later hb f0
  have x1 := bel_later hb f1
  have x2 := bel_later hb f2
  have x3 := bel_later hb f3
  have x4 := bel_later hb f4
  have x5 := bel_later hb f5
  have x6 := bel_later hb f6
  have x7 := bel_later hb f7
  have x8 := bel_later hb f8
  have hw1 : Below w.heap.size w w1 := bel_step hW hb (Nat.le_refl _)
  have hS1 : w.heap.size + 1 < w1.heap.size := Nat.lt_of_lt_of_le hS hb.size
  clear hb hW hS e0 e1 e2 e3 e4 f0 f1 f2 f3 f4 f5 f6 f7 f8
  go_wp2
  all_goals
    go_ret
    exact ⟨rfl, by first | assumption | go_grown⟩
set_option maxRecDepth 100000 in
set_option maxHeartbeats 4000000 in
theorem rask_z3 (n a0 a1 a2 a3 a4 a5 a6 a7 a8 : Int) (key too : ByteArray) (B : Option Addr) (len cap : Nat) (w : World) (hp : opureB 3 n key too len = false) :
    Calls Tryz.prog 33 #[.agg #[.int .u8 3, .string key, .string too, .int .i64 n, .slice B len cap], .agg #[.int .i64 a0, .int .i64 a1, .int .i64 a2, .int .i64 a3, .int .i64 a4, .int .i64 a5, .int .i64 a6, .int .i64 a7, .int .i64 a8]] w fun e w' => e = .returned (.int .i64 3) ∧ Below w.heap.size w w' := by
  have Z := Lib.hid (fun w => by have h := zero_any 3 n key too B len cap w (by omega) (by omega); rw [hp] at h; exact h)
  clear hp
  go_enter Tryz.func33, Tryz.ntmps33
  go_wp2_with fail
  obtain ⟨W, hWW⟩ : ∃ W, W = (w.alloc (.cells #[.int .u8 3, .string key, .string too, .int .i64 n, .slice B len cap] 47)).alloc (.cells #[.int .i64 a0, .int .i64 a1, .int .i64 a2, .int .i64 a3, .int .i64 a4, .int .i64 a5, .int .i64 a6, .int .i64 a7, .int .i64 a8] 23) := ⟨_, rfl⟩
  have e0 : W.cell? ⟨w.heap.size, 0, none⟩ = some (.int .u8 3) := by rw [hWW]; simp [go_sem]
  have e1 : W.cell? ⟨w.heap.size, 1, none⟩ = some (.string key) := by rw [hWW]; simp [go_sem]
  have e2 : W.cell? ⟨w.heap.size, 2, none⟩ = some (.string too) := by rw [hWW]; simp [go_sem]
  have e3 : W.cell? ⟨w.heap.size, 3, none⟩ = some (.int .i64 n) := by rw [hWW]; simp [go_sem]
  have e4 : W.cell? ⟨w.heap.size, 4, none⟩ = some (.slice B len cap) := by rw [hWW]; simp [go_sem]
  have f0 : W.cell? ⟨w.heap.size + 1, 0, none⟩ = some (.int .i64 a0) := by rw [hWW]; simp [go_sem]
  have f1 : W.cell? ⟨w.heap.size + 1, 1, none⟩ = some (.int .i64 a1) := by rw [hWW]; simp [go_sem]
  have f2 : W.cell? ⟨w.heap.size + 1, 2, none⟩ = some (.int .i64 a2) := by rw [hWW]; simp [go_sem]
  have f3 : W.cell? ⟨w.heap.size + 1, 3, none⟩ = some (.int .i64 a3) := by rw [hWW]; simp [go_sem]
  have f4 : W.cell? ⟨w.heap.size + 1, 4, none⟩ = some (.int .i64 a4) := by rw [hWW]; simp [go_sem]
  have f5 : W.cell? ⟨w.heap.size + 1, 5, none⟩ = some (.int .i64 a5) := by rw [hWW]; simp [go_sem]
  have f6 : W.cell? ⟨w.heap.size + 1, 6, none⟩ = some (.int .i64 a6) := by rw [hWW]; simp [go_sem]
  have f7 : W.cell? ⟨w.heap.size + 1, 7, none⟩ = some (.int .i64 a7) := by rw [hWW]; simp [go_sem]
  have f8 : W.cell? ⟨w.heap.size + 1, 8, none⟩ = some (.int .i64 a8) := by rw [hWW]; simp [go_sem]
  have hW : Below w.heap.size w W := by rw [hWW]; go_grown
  have hS : w.heap.size + 1 < W.heap.size := by rw [hWW]; simp
  rw [← hWW]
  clear hWW
  refine (Z.out _).mono ?_
  rintro e w1 ⟨rfl, hb⟩
  have d0 := bel_later hb e0
  have d1 := bel_later hb e1
  have d2 := bel_later hb e2
  have d3 := bel_later hb e3
  have d4 := bel_later hb e4
  have x0 := bel_later hb f0
  have x1 := bel_later hb f1
  have x2 := bel_later hb f2
  have x3 := bel_later hb f3
  have x4 := bel_later hb f4
  have x5 := bel_later hb f5
  have x6 := bel_later hb f6
  have x7 := bel_later hb f7
  have x8 := bel_later hb f8
  have hw1 : Below w.heap.size w w1 := bel_step hW hb (Nat.le_refl _)
  have hS1 : w.heap.size + 1 < w1.heap.size := Nat.lt_of_lt_of_le hS hb.size
  clear hb hW hS e0 e1 e2 e3 e4 f0 f1 f2 f3 f4 f5 f6 f7 f8
  go_wp2
  all_goals
    go_ret
    exact ⟨rfl, by first | assumption | go_grown⟩
set_option maxRecDepth 100000 in
set_option maxHeartbeats 4000000 in
theorem rask_z4 (n a0 a1 a2 a3 a4 a5 a6 a7 a8 : Int) (key too : ByteArray) (B : Option Addr) (len cap : Nat) (w : World) (hp : opureB 4 n key too len = false) :
    Calls Tryz.prog 33 #[.agg #[.int .u8 4, .string key, .string too, .int .i64 n, .slice B len cap], .agg #[.int .i64 a0, .int .i64 a1, .int .i64 a2, .int .i64 a3, .int .i64 a4, .int .i64 a5, .int .i64 a6, .int .i64 a7, .int .i64 a8]] w fun e w' => e = .returned (.int .i64 3) ∧ Below w.heap.size w w' := by
  have Z := Lib.hid (fun w => by have h := zero_any 4 n key too B len cap w (by omega) (by omega); rw [hp] at h; exact h)
  clear hp
  go_enter Tryz.func33, Tryz.ntmps33
  go_wp2_with fail
  obtain ⟨W, hWW⟩ : ∃ W, W = (w.alloc (.cells #[.int .u8 4, .string key, .string too, .int .i64 n, .slice B len cap] 47)).alloc (.cells #[.int .i64 a0, .int .i64 a1, .int .i64 a2, .int .i64 a3, .int .i64 a4, .int .i64 a5, .int .i64 a6, .int .i64 a7, .int .i64 a8] 23) := ⟨_, rfl⟩
  have e0 : W.cell? ⟨w.heap.size, 0, none⟩ = some (.int .u8 4) := by rw [hWW]; simp [go_sem]
  have e1 : W.cell? ⟨w.heap.size, 1, none⟩ = some (.string key) := by rw [hWW]; simp [go_sem]
  have e2 : W.cell? ⟨w.heap.size, 2, none⟩ = some (.string too) := by rw [hWW]; simp [go_sem]
  have e3 : W.cell? ⟨w.heap.size, 3, none⟩ = some (.int .i64 n) := by rw [hWW]; simp [go_sem]
  have e4 : W.cell? ⟨w.heap.size, 4, none⟩ = some (.slice B len cap) := by rw [hWW]; simp [go_sem]
  have f0 : W.cell? ⟨w.heap.size + 1, 0, none⟩ = some (.int .i64 a0) := by rw [hWW]; simp [go_sem]
  have f1 : W.cell? ⟨w.heap.size + 1, 1, none⟩ = some (.int .i64 a1) := by rw [hWW]; simp [go_sem]
  have f2 : W.cell? ⟨w.heap.size + 1, 2, none⟩ = some (.int .i64 a2) := by rw [hWW]; simp [go_sem]
  have f3 : W.cell? ⟨w.heap.size + 1, 3, none⟩ = some (.int .i64 a3) := by rw [hWW]; simp [go_sem]
  have f4 : W.cell? ⟨w.heap.size + 1, 4, none⟩ = some (.int .i64 a4) := by rw [hWW]; simp [go_sem]
  have f5 : W.cell? ⟨w.heap.size + 1, 5, none⟩ = some (.int .i64 a5) := by rw [hWW]; simp [go_sem]
  have f6 : W.cell? ⟨w.heap.size + 1, 6, none⟩ = some (.int .i64 a6) := by rw [hWW]; simp [go_sem]
  have f7 : W.cell? ⟨w.heap.size + 1, 7, none⟩ = some (.int .i64 a7) := by rw [hWW]; simp [go_sem]
  have f8 : W.cell? ⟨w.heap.size + 1, 8, none⟩ = some (.int .i64 a8) := by rw [hWW]; simp [go_sem]
  have hW : Below w.heap.size w W := by rw [hWW]; go_grown
  have hS : w.heap.size + 1 < W.heap.size := by rw [hWW]; simp
  rw [← hWW]
  clear hWW
  refine (Z.out _).mono ?_
  rintro e w1 ⟨rfl, hb⟩
  have d0 := bel_later hb e0
  have d1 := bel_later hb e1
  have d2 := bel_later hb e2
  have d3 := bel_later hb e3
  have d4 := bel_later hb e4
  have x0 := bel_later hb f0
  have x1 := bel_later hb f1
  have x2 := bel_later hb f2
  have x3 := bel_later hb f3
  have x4 := bel_later hb f4
  have x5 := bel_later hb f5
  have x6 := bel_later hb f6
  have x7 := bel_later hb f7
  have x8 := bel_later hb f8
  have hw1 : Below w.heap.size w w1 := bel_step hW hb (Nat.le_refl _)
  have hS1 : w.heap.size + 1 < w1.heap.size := Nat.lt_of_lt_of_le hS hb.size
  clear hb hW hS e0 e1 e2 e3 e4 f0 f1 f2 f3 f4 f5 f6 f7 f8
  go_wp2
  all_goals
    go_ret
    exact ⟨rfl, by first | assumption | go_grown⟩
set_option maxRecDepth 100000 in
set_option maxHeartbeats 4000000 in
theorem rask_z5 (n a0 a1 a2 a3 a4 a5 a6 a7 a8 : Int) (key too : ByteArray) (B : Option Addr) (len cap : Nat) (w : World) (hp : opureB 5 n key too len = false) :
    Calls Tryz.prog 33 #[.agg #[.int .u8 5, .string key, .string too, .int .i64 n, .slice B len cap], .agg #[.int .i64 a0, .int .i64 a1, .int .i64 a2, .int .i64 a3, .int .i64 a4, .int .i64 a5, .int .i64 a6, .int .i64 a7, .int .i64 a8]] w fun e w' => e = .returned (.int .i64 3) ∧ Below w.heap.size w w' := by
  have Z := Lib.hid (fun w => by have h := zero_any 5 n key too B len cap w (by omega) (by omega); rw [hp] at h; exact h)
  clear hp
  go_enter Tryz.func33, Tryz.ntmps33
  go_wp2_with fail
  obtain ⟨W, hWW⟩ : ∃ W, W = (w.alloc (.cells #[.int .u8 5, .string key, .string too, .int .i64 n, .slice B len cap] 47)).alloc (.cells #[.int .i64 a0, .int .i64 a1, .int .i64 a2, .int .i64 a3, .int .i64 a4, .int .i64 a5, .int .i64 a6, .int .i64 a7, .int .i64 a8] 23) := ⟨_, rfl⟩
  have e0 : W.cell? ⟨w.heap.size, 0, none⟩ = some (.int .u8 5) := by rw [hWW]; simp [go_sem]
  have e1 : W.cell? ⟨w.heap.size, 1, none⟩ = some (.string key) := by rw [hWW]; simp [go_sem]
  have e2 : W.cell? ⟨w.heap.size, 2, none⟩ = some (.string too) := by rw [hWW]; simp [go_sem]
  have e3 : W.cell? ⟨w.heap.size, 3, none⟩ = some (.int .i64 n) := by rw [hWW]; simp [go_sem]
  have e4 : W.cell? ⟨w.heap.size, 4, none⟩ = some (.slice B len cap) := by rw [hWW]; simp [go_sem]
  have f0 : W.cell? ⟨w.heap.size + 1, 0, none⟩ = some (.int .i64 a0) := by rw [hWW]; simp [go_sem]
  have f1 : W.cell? ⟨w.heap.size + 1, 1, none⟩ = some (.int .i64 a1) := by rw [hWW]; simp [go_sem]
  have f2 : W.cell? ⟨w.heap.size + 1, 2, none⟩ = some (.int .i64 a2) := by rw [hWW]; simp [go_sem]
  have f3 : W.cell? ⟨w.heap.size + 1, 3, none⟩ = some (.int .i64 a3) := by rw [hWW]; simp [go_sem]
  have f4 : W.cell? ⟨w.heap.size + 1, 4, none⟩ = some (.int .i64 a4) := by rw [hWW]; simp [go_sem]
  have f5 : W.cell? ⟨w.heap.size + 1, 5, none⟩ = some (.int .i64 a5) := by rw [hWW]; simp [go_sem]
  have f6 : W.cell? ⟨w.heap.size + 1, 6, none⟩ = some (.int .i64 a6) := by rw [hWW]; simp [go_sem]
  have f7 : W.cell? ⟨w.heap.size + 1, 7, none⟩ = some (.int .i64 a7) := by rw [hWW]; simp [go_sem]
  have f8 : W.cell? ⟨w.heap.size + 1, 8, none⟩ = some (.int .i64 a8) := by rw [hWW]; simp [go_sem]
  have hW : Below w.heap.size w W := by rw [hWW]; go_grown
  have hS : w.heap.size + 1 < W.heap.size := by rw [hWW]; simp
  rw [← hWW]
  clear hWW
  refine (Z.out _).mono ?_
  rintro e w1 ⟨rfl, hb⟩
  have d0 := bel_later hb e0
  have d1 := bel_later hb e1
  have d2 := bel_later hb e2
  have d3 := bel_later hb e3
  have d4 := bel_later hb e4
  have x0 := bel_later hb f0
  have x1 := bel_later hb f1
  have x2 := bel_later hb f2
  have x3 := bel_later hb f3
  have x4 := bel_later hb f4
  have x5 := bel_later hb f5
  have x6 := bel_later hb f6
  have x7 := bel_later hb f7
  have x8 := bel_later hb f8
  have hw1 : Below w.heap.size w w1 := bel_step hW hb (Nat.le_refl _)
  have hS1 : w.heap.size + 1 < w1.heap.size := Nat.lt_of_lt_of_le hS hb.size
  clear hb hW hS e0 e1 e2 e3 e4 f0 f1 f2 f3 f4 f5 f6 f7 f8
  go_wp2
  all_goals
    go_ret
    exact ⟨rfl, by first | assumption | go_grown⟩
set_option maxRecDepth 100000 in
set_option maxHeartbeats 4000000 in
theorem rask_z6 (n a0 a1 a2 a3 a4 a5 a6 a7 a8 : Int) (key too : ByteArray) (B : Option Addr) (len cap : Nat) (w : World) (hp : opureB 6 n key too len = false) :
    Calls Tryz.prog 33 #[.agg #[.int .u8 6, .string key, .string too, .int .i64 n, .slice B len cap], .agg #[.int .i64 a0, .int .i64 a1, .int .i64 a2, .int .i64 a3, .int .i64 a4, .int .i64 a5, .int .i64 a6, .int .i64 a7, .int .i64 a8]] w fun e w' => e = .returned (.int .i64 3) ∧ Below w.heap.size w w' := by
  have Z := Lib.hid (fun w => by have h := zero_any 6 n key too B len cap w (by omega) (by omega); rw [hp] at h; exact h)
  clear hp
  go_enter Tryz.func33, Tryz.ntmps33
  go_wp2_with fail
  obtain ⟨W, hWW⟩ : ∃ W, W = (w.alloc (.cells #[.int .u8 6, .string key, .string too, .int .i64 n, .slice B len cap] 47)).alloc (.cells #[.int .i64 a0, .int .i64 a1, .int .i64 a2, .int .i64 a3, .int .i64 a4, .int .i64 a5, .int .i64 a6, .int .i64 a7, .int .i64 a8] 23) := ⟨_, rfl⟩
  have e0 : W.cell? ⟨w.heap.size, 0, none⟩ = some (.int .u8 6) := by rw [hWW]; simp [go_sem]
  have e1 : W.cell? ⟨w.heap.size, 1, none⟩ = some (.string key) := by rw [hWW]; simp [go_sem]
  have e2 : W.cell? ⟨w.heap.size, 2, none⟩ = some (.string too) := by rw [hWW]; simp [go_sem]
  have e3 : W.cell? ⟨w.heap.size, 3, none⟩ = some (.int .i64 n) := by rw [hWW]; simp [go_sem]
  have e4 : W.cell? ⟨w.heap.size, 4, none⟩ = some (.slice B len cap) := by rw [hWW]; simp [go_sem]
  have f0 : W.cell? ⟨w.heap.size + 1, 0, none⟩ = some (.int .i64 a0) := by rw [hWW]; simp [go_sem]
  have f1 : W.cell? ⟨w.heap.size + 1, 1, none⟩ = some (.int .i64 a1) := by rw [hWW]; simp [go_sem]
  have f2 : W.cell? ⟨w.heap.size + 1, 2, none⟩ = some (.int .i64 a2) := by rw [hWW]; simp [go_sem]
  have f3 : W.cell? ⟨w.heap.size + 1, 3, none⟩ = some (.int .i64 a3) := by rw [hWW]; simp [go_sem]
  have f4 : W.cell? ⟨w.heap.size + 1, 4, none⟩ = some (.int .i64 a4) := by rw [hWW]; simp [go_sem]
  have f5 : W.cell? ⟨w.heap.size + 1, 5, none⟩ = some (.int .i64 a5) := by rw [hWW]; simp [go_sem]
  have f6 : W.cell? ⟨w.heap.size + 1, 6, none⟩ = some (.int .i64 a6) := by rw [hWW]; simp [go_sem]
  have f7 : W.cell? ⟨w.heap.size + 1, 7, none⟩ = some (.int .i64 a7) := by rw [hWW]; simp [go_sem]
  have f8 : W.cell? ⟨w.heap.size + 1, 8, none⟩ = some (.int .i64 a8) := by rw [hWW]; simp [go_sem]
  have hW : Below w.heap.size w W := by rw [hWW]; go_grown
  have hS : w.heap.size + 1 < W.heap.size := by rw [hWW]; simp
  rw [← hWW]
  clear hWW
  refine (Z.out _).mono ?_
  rintro e w1 ⟨rfl, hb⟩
  have d0 := bel_later hb e0
  have d1 := bel_later hb e1
  have d2 := bel_later hb e2
  have d3 := bel_later hb e3
  have d4 := bel_later hb e4
  have x0 := bel_later hb f0
  have x1 := bel_later hb f1
  have x2 := bel_later hb f2
  have x3 := bel_later hb f3
  have x4 := bel_later hb f4
  have x5 := bel_later hb f5
  have x6 := bel_later hb f6
  have x7 := bel_later hb f7
  have x8 := bel_later hb f8
  have hw1 : Below w.heap.size w w1 := bel_step hW hb (Nat.le_refl _)
  have hS1 : w.heap.size + 1 < w1.heap.size := Nat.lt_of_lt_of_le hS hb.size
  clear hb hW hS e0 e1 e2 e3 e4 f0 f1 f2 f3 f4 f5 f6 f7 f8
  go_wp2
  all_goals
    go_ret
    exact ⟨rfl, by first | assumption | go_grown⟩
set_option maxRecDepth 100000 in
set_option maxHeartbeats 4000000 in
theorem rask_1e (n a0 a1 a2 a3 a4 a5 a6 a7 a8 : Int) (key too : ByteArray) (B : Option Addr) (len cap : Nat) (w : World) (hp : opureB 1 n key too len = true) (hl : len = 0) (hk : key.toList = []) :
    Calls Tryz.prog 33 #[.agg #[.int .u8 1, .string key, .string too, .int .i64 n, .slice B len cap], .agg #[.int .i64 a0, .int .i64 a1, .int .i64 a2, .int .i64 a3, .int .i64 a4, .int .i64 a5, .int .i64 a6, .int .i64 a7, .int .i64 a8]] w fun e w' => e = .returned (.int .i64 6) ∧ Below w.heap.size w w' := by
  subst hl
  have hke : key.toList.isEmpty = true := by simp [hk]
  have Z := Lib.hid (fun w => by have h := zero_any 1 n key too B 0 cap w (by omega) (by omega); rw [hp] at h; exact h)
  clear hp
  go_enter Tryz.func33, Tryz.ntmps33
  go_wp2_with fail
  obtain ⟨W, hWW⟩ : ∃ W, W = (w.alloc (.cells #[.int .u8 1, .string key, .string too, .int .i64 n, .slice B 0 cap] 47)).alloc (.cells #[.int .i64 a0, .int .i64 a1, .int .i64 a2, .int .i64 a3, .int .i64 a4, .int .i64 a5, .int .i64 a6, .int .i64 a7, .int .i64 a8] 23) := ⟨_, rfl⟩
  have e0 : W.cell? ⟨w.heap.size, 0, none⟩ = some (.int .u8 1) := by rw [hWW]; simp [go_sem]
  have e1 : W.cell? ⟨w.heap.size, 1, none⟩ = some (.string key) := by rw [hWW]; simp [go_sem]
  have e2 : W.cell? ⟨w.heap.size, 2, none⟩ = some (.string too) := by rw [hWW]; simp [go_sem]
  have e3 : W.cell? ⟨w.heap.size, 3, none⟩ = some (.int .i64 n) := by rw [hWW]; simp [go_sem]
  have e4 : W.cell? ⟨w.heap.size, 4, none⟩ = some (.slice B 0 cap) := by rw [hWW]; simp [go_sem]
  have f0 : W.cell? ⟨w.heap.size + 1, 0, none⟩ = some (.int .i64 a0) := by rw [hWW]; simp [go_sem]
  have f1 : W.cell? ⟨w.heap.size + 1, 1, none⟩ = some (.int .i64 a1) := by rw [hWW]; simp [go_sem]
  have f2 : W.cell? ⟨w.heap.size + 1, 2, none⟩ = some (.int .i64 a2) := by rw [hWW]; simp [go_sem]
  have f3 : W.cell? ⟨w.heap.size + 1, 3, none⟩ = some (.int .i64 a3) := by rw [hWW]; simp [go_sem]
  have f4 : W.cell? ⟨w.heap.size + 1, 4, none⟩ = some (.int .i64 a4) := by rw [hWW]; simp [go_sem]
  have f5 : W.cell? ⟨w.heap.size + 1, 5, none⟩ = some (.int .i64 a5) := by rw [hWW]; simp [go_sem]
  have f6 : W.cell? ⟨w.heap.size + 1, 6, none⟩ = some (.int .i64 a6) := by rw [hWW]; simp [go_sem]
  have f7 : W.cell? ⟨w.heap.size + 1, 7, none⟩ = some (.int .i64 a7) := by rw [hWW]; simp [go_sem]
  have f8 : W.cell? ⟨w.heap.size + 1, 8, none⟩ = some (.int .i64 a8) := by rw [hWW]; simp [go_sem]
  have hW : Below w.heap.size w W := by rw [hWW]; go_grown
  have hS : w.heap.size + 1 < W.heap.size := by rw [hWW]; simp
  rw [← hWW]
  clear hWW
  refine (Z.out _).mono ?_
  rintro e w1 ⟨rfl, hb⟩
  have d0 := bel_later hb e0
  have d1 := bel_later hb e1
  have d2 := bel_later hb e2
  have d3 := bel_later hb e3
  have d4 := bel_later hb e4
  have x0 := bel_later hb f0
  have x1 := bel_later hb f1
  have x2 := bel_later hb f2
  have x3 := bel_later hb f3
  have x4 := bel_later hb f4
  have x5 := bel_later hb f5
  have x6 := bel_later hb f6
  have x7 := bel_later hb f7
  have x8 := bel_later hb f8
  have hw1 : Below w.heap.size w w1 := bel_step hW hb (Nat.le_refl _)
  have hS1 : w.heap.size + 1 < w1.heap.size := Nat.lt_of_lt_of_le hS hb.size
  clear hb hW hS e0 e1 e2 e3 e4 f0 f1 f2 f3 f4 f5 f6 f7 f8
  go_wp2
  all_goals
    go_ret
    exact ⟨rfl, by first | assumption | go_grown⟩
set_option maxRecDepth 100000 in
set_option maxHeartbeats 4000000 in
theorem rask_1s (n a0 a1 a2 a3 a4 a5 a6 a7 a8 : Int) (key too : ByteArray) (B : Option Addr) (len cap : Nat) (w : World) (hp : opureB 1 n key too len = true) (hl : len = 0) (hk : ¬ key.toList = []) (hs : a0 < (key.size : Int)) :
    Calls Tryz.prog 33 #[.agg #[.int .u8 1, .string key, .string too, .int .i64 n, .slice B len cap], .agg #[.int .i64 a0, .int .i64 a1, .int .i64 a2, .int .i64 a3, .int .i64 a4, .int .i64 a5, .int .i64 a6, .int .i64 a7, .int .i64 a8]] w fun e w' => e = .returned (.int .i64 6) ∧ Below w.heap.size w w' := by
  subst hl
  have hke : key.toList.isEmpty = false := by simp [hk]
  have Z := Lib.hid (fun w => by have h := zero_any 1 n key too B 0 cap w (by omega) (by omega); rw [hp] at h; exact h)
  clear hp
  go_enter Tryz.func33, Tryz.ntmps33
  go_wp2_with fail
  obtain ⟨W, hWW⟩ : ∃ W, W = (w.alloc (.cells #[.int .u8 1, .string key, .string too, .int .i64 n, .slice B 0 cap] 47)).alloc (.cells #[.int .i64 a0, .int .i64 a1, .int .i64 a2, .int .i64 a3, .int .i64 a4, .int .i64 a5, .int .i64 a6, .int .i64 a7, .int .i64 a8] 23) := ⟨_, rfl⟩
  have e0 : W.cell? ⟨w.heap.size, 0, none⟩ = some (.int .u8 1) := by rw [hWW]; simp [go_sem]
  have e1 : W.cell? ⟨w.heap.size, 1, none⟩ = some (.string key) := by rw [hWW]; simp [go_sem]
  have e2 : W.cell? ⟨w.heap.size, 2, none⟩ = some (.string too) := by rw [hWW]; simp [go_sem]
  have e3 : W.cell? ⟨w.heap.size, 3, none⟩ = some (.int .i64 n) := by rw [hWW]; simp [go_sem]
  have e4 : W.cell? ⟨w.heap.size, 4, none⟩ = some (.slice B 0 cap) := by rw [hWW]; simp [go_sem]
  have f0 : W.cell? ⟨w.heap.size + 1, 0, none⟩ = some (.int .i64 a0) := by rw [hWW]; simp [go_sem]
  have f1 : W.cell? ⟨w.heap.size + 1, 1, none⟩ = some (.int .i64 a1) := by rw [hWW]; simp [go_sem]
  have f2 : W.cell? ⟨w.heap.size + 1, 2, none⟩ = some (.int .i64 a2) := by rw [hWW]; simp [go_sem]
  have f3 : W.cell? ⟨w.heap.size + 1, 3, none⟩ = some (.int .i64 a3) := by rw [hWW]; simp [go_sem]
  have f4 : W.cell? ⟨w.heap.size + 1, 4, none⟩ = some (.int .i64 a4) := by rw [hWW]; simp [go_sem]
  have f5 : W.cell? ⟨w.heap.size + 1, 5, none⟩ = some (.int .i64 a5) := by rw [hWW]; simp [go_sem]
  have f6 : W.cell? ⟨w.heap.size + 1, 6, none⟩ = some (.int .i64 a6) := by rw [hWW]; simp [go_sem]
  have f7 : W.cell? ⟨w.heap.size + 1, 7, none⟩ = some (.int .i64 a7) := by rw [hWW]; simp [go_sem]
  have f8 : W.cell? ⟨w.heap.size + 1, 8, none⟩ = some (.int .i64 a8) := by rw [hWW]; simp [go_sem]
  have hW : Below w.heap.size w W := by rw [hWW]; go_grown
  have hS : w.heap.size + 1 < W.heap.size := by rw [hWW]; simp
  rw [← hWW]
  clear hWW
  refine (Z.out _).mono ?_
  rintro e w1 ⟨rfl, hb⟩
  have d0 := bel_later hb e0
  have d1 := bel_later hb e1
  have d2 := bel_later hb e2
  have d3 := bel_later hb e3
  have d4 := bel_later hb e4
  have x0 := bel_later hb f0
  have x1 := bel_later hb f1
  have x2 := bel_later hb f2
  have x3 := bel_later hb f3
  have x4 := bel_later hb f4
  have x5 := bel_later hb f5
  have x6 := bel_later hb f6
  have x7 := bel_later hb f7
  have x8 := bel_later hb f8
  have hw1 : Below w.heap.size w w1 := bel_step hW hb (Nat.le_refl _)
  have hS1 : w.heap.size + 1 < w1.heap.size := Nat.lt_of_lt_of_le hS hb.size
  clear hb hW hS e0 e1 e2 e3 e4 f0 f1 f2 f3 f4 f5 f6 f7 f8
  go_wp2
  all_goals
    go_ret
    exact ⟨rfl, by first | assumption | go_grown⟩
set_option maxRecDepth 100000 in
set_option maxHeartbeats 4000000 in
theorem rask_1g (n a0 a1 a2 a3 a4 a5 a6 a7 a8 : Int) (key too : ByteArray) (B : Option Addr) (len cap : Nat) (w : World) (hp : opureB 1 n key too len = true) (hl : len = 0) (hk : ¬ key.toList = []) (hs : (key.size : Int) ≤ a0) :
    Calls Tryz.prog 33 #[.agg #[.int .u8 1, .string key, .string too, .int .i64 n, .slice B len cap], .agg #[.int .i64 a0, .int .i64 a1, .int .i64 a2, .int .i64 a3, .int .i64 a4, .int .i64 a5, .int .i64 a6, .int .i64 a7, .int .i64 a8]] w fun e w' => e = .returned (.int .i64 0) ∧ Below w.heap.size w w' := by
  subst hl
  have hke : key.toList.isEmpty = false := by simp [hk]
  have Z := Lib.hid (fun w => by have h := zero_any 1 n key too B 0 cap w (by omega) (by omega); rw [hp] at h; exact h)
  clear hp
  go_enter Tryz.func33, Tryz.ntmps33
  go_wp2_with fail
  obtain ⟨W, hWW⟩ : ∃ W, W = (w.alloc (.cells #[.int .u8 1, .string key, .string too, .int .i64 n, .slice B 0 cap] 47)).alloc (.cells #[.int .i64 a0, .int .i64 a1, .int .i64 a2, .int .i64 a3, .int .i64 a4, .int .i64 a5, .int .i64 a6, .int .i64 a7, .int .i64 a8] 23) := ⟨_, rfl⟩
  have e0 : W.cell? ⟨w.heap.size, 0, none⟩ = some (.int .u8 1) := by rw [hWW]; simp [go_sem]
  have e1 : W.cell? ⟨w.heap.size, 1, none⟩ = some (.string key) := by rw [hWW]; simp [go_sem]
  have e2 : W.cell? ⟨w.heap.size, 2, none⟩ = some (.string too) := by rw [hWW]; simp [go_sem]
  have e3 : W.cell? ⟨w.heap.size, 3, none⟩ = some (.int .i64 n) := by rw [hWW]; simp [go_sem]
  have e4 : W.cell? ⟨w.heap.size, 4, none⟩ = some (.slice B 0 cap) := by rw [hWW]; simp [go_sem]
  have f0 : W.cell? ⟨w.heap.size + 1, 0, none⟩ = some (.int .i64 a0) := by rw [hWW]; simp [go_sem]
  have f1 : W.cell? ⟨w.heap.size + 1, 1, none⟩ = some (.int .i64 a1) := by rw [hWW]; simp [go_sem]
  have f2 : W.cell? ⟨w.heap.size + 1, 2, none⟩ = some (.int .i64 a2) := by rw [hWW]; simp [go_sem]
  have f3 : W.cell? ⟨w.heap.size + 1, 3, none⟩ = some (.int .i64 a3) := by rw [hWW]; simp [go_sem]
  have f4 : W.cell? ⟨w.heap.size + 1, 4, none⟩ = some (.int .i64 a4) := by rw [hWW]; simp [go_sem]
  have f5 : W.cell? ⟨w.heap.size + 1, 5, none⟩ = some (.int .i64 a5) := by rw [hWW]; simp [go_sem]
  have f6 : W.cell? ⟨w.heap.size + 1, 6, none⟩ = some (.int .i64 a6) := by rw [hWW]; simp [go_sem]
  have f7 : W.cell? ⟨w.heap.size + 1, 7, none⟩ = some (.int .i64 a7) := by rw [hWW]; simp [go_sem]
  have f8 : W.cell? ⟨w.heap.size + 1, 8, none⟩ = some (.int .i64 a8) := by rw [hWW]; simp [go_sem]
  have hW : Below w.heap.size w W := by rw [hWW]; go_grown
  have hS : w.heap.size + 1 < W.heap.size := by rw [hWW]; simp
  rw [← hWW]
  clear hWW
  refine (Z.out _).mono ?_
  rintro e w1 ⟨rfl, hb⟩
  have d0 := bel_later hb e0
  have d1 := bel_later hb e1
  have d2 := bel_later hb e2
  have d3 := bel_later hb e3
  have d4 := bel_later hb e4
  have x0 := bel_later hb f0
  have x1 := bel_later hb f1
  have x2 := bel_later hb f2
  have x3 := bel_later hb f3
  have x4 := bel_later hb f4
  have x5 := bel_later hb f5
  have x6 := bel_later hb f6
  have x7 := bel_later hb f7
  have x8 := bel_later hb f8
  have hw1 : Below w.heap.size w w1 := bel_step hW hb (Nat.le_refl _)
  have hS1 : w.heap.size + 1 < w1.heap.size := Nat.lt_of_lt_of_le hS hb.size
  clear hb hW hS e0 e1 e2 e3 e4 f0 f1 f2 f3 f4 f5 f6 f7 f8
  go_wp2
  go_loop [5] (fun iv => iv = .int .i64 0) (fun _ => 0)
  case atStart => exact rfl
  case round =>
    obtain rfl := hrel
    go_wp2
    go_loop [6] (fun iv => iv = .int .i64 0) (fun _ => 0)
    case atStart => exact rfl
    case round =>
      obtain rfl := hrel
      go_wp2
      all_goals
        go_ret
        exact ⟨rfl, by first | assumption | go_grown⟩
set_option maxRecDepth 100000 in
set_option maxHeartbeats 4000000 in
theorem rask_5 (n a0 a1 a2 a3 a4 a5 a6 a7 a8 : Int) (key too : ByteArray) (B : Option Addr) (len cap : Nat) (w : World) (hp : opureB 5 n key too len = true) (hl : len = 0) :
    Calls Tryz.prog 33 #[.agg #[.int .u8 5, .string key, .string too, .int .i64 n, .slice B len cap], .agg #[.int .i64 a0, .int .i64 a1, .int .i64 a2, .int .i64 a3, .int .i64 a4, .int .i64 a5, .int .i64 a6, .int .i64 a7, .int .i64 a8]] w fun e w' => e = .returned (.int .i64 0) ∧ Below w.heap.size w w' := by
  subst hl
  have Z := Lib.hid (fun w => by have h := zero_any 5 n key too B 0 cap w (by omega) (by omega); rw [hp] at h; exact h)
  clear hp
  go_enter Tryz.func33, Tryz.ntmps33
  go_wp2_with fail
  obtain ⟨W, hWW⟩ : ∃ W, W = (w.alloc (.cells #[.int .u8 5, .string key, .string too, .int .i64 n, .slice B 0 cap] 47)).alloc (.cells #[.int .i64 a0, .int .i64 a1, .int .i64 a2, .int .i64 a3, .int .i64 a4, .int .i64 a5, .int .i64 a6, .int .i64 a7, .int .i64 a8] 23) := ⟨_, rfl⟩
  have e0 : W.cell? ⟨w.heap.size, 0, none⟩ = some (.int .u8 5) := by rw [hWW]; simp [go_sem]
  have e1 : W.cell? ⟨w.heap.size, 1, none⟩ = some (.string key) := by rw [hWW]; simp [go_sem]
  have e2 : W.cell? ⟨w.heap.size, 2, none⟩ = some (.string too) := by rw [hWW]; simp [go_sem]
  have e3 : W.cell? ⟨w.heap.size, 3, none⟩ = some (.int .i64 n) := by rw [hWW]; simp [go_sem]
  have e4 : W.cell? ⟨w.heap.size, 4, none⟩ = some (.slice B 0 cap) := by rw [hWW]; simp [go_sem]
  have f0 : W.cell? ⟨w.heap.size + 1, 0, none⟩ = some (.int .i64 a0) := by rw [hWW]; simp [go_sem]
  have f1 : W.cell? ⟨w.heap.size + 1, 1, none⟩ = some (.int .i64 a1) := by rw [hWW]; simp [go_sem]
  have f2 : W.cell? ⟨w.heap.size + 1, 2, none⟩ = some (.int .i64 a2) := by rw [hWW]; simp [go_sem]
  have f3 : W.cell? ⟨w.heap.size + 1, 3, none⟩ = some (.int .i64 a3) := by rw [hWW]; simp [go_sem]
  have f4 : W.cell? ⟨w.heap.size + 1, 4, none⟩ = some (.int .i64 a4) := by rw [hWW]; simp [go_sem]
  have f5 : W.cell? ⟨w.heap.size + 1, 5, none⟩ = some (.int .i64 a5) := by rw [hWW]; simp [go_sem]
  have f6 : W.cell? ⟨w.heap.size + 1, 6, none⟩ = some (.int .i64 a6) := by rw [hWW]; simp [go_sem]
  have f7 : W.cell? ⟨w.heap.size + 1, 7, none⟩ = some (.int .i64 a7) := by rw [hWW]; simp [go_sem]
  have f8 : W.cell? ⟨w.heap.size + 1, 8, none⟩ = some (.int .i64 a8) := by rw [hWW]; simp [go_sem]
  have hW : Below w.heap.size w W := by rw [hWW]; go_grown
  have hS : w.heap.size + 1 < W.heap.size := by rw [hWW]; simp
  rw [← hWW]
  clear hWW
  refine (Z.out _).mono ?_
  rintro e w1 ⟨rfl, hb⟩
  have d0 := bel_later hb e0
  have d1 := bel_later hb e1
  have d2 := bel_later hb e2
  have d3 := bel_later hb e3
  have d4 := bel_later hb e4
  have x0 := bel_later hb f0
  have x1 := bel_later hb f1
  have x2 := bel_later hb f2
  have x3 := bel_later hb f3
  have x4 := bel_later hb f4
  have x5 := bel_later hb f5
  have x6 := bel_later hb f6
  have x7 := bel_later hb f7
  have x8 := bel_later hb f8
  have hw1 : Below w.heap.size w w1 := bel_step hW hb (Nat.le_refl _)
  have hS1 : w.heap.size + 1 < w1.heap.size := Nat.lt_of_lt_of_le hS hb.size
  clear hb hW hS e0 e1 e2 e3 e4 f0 f1 f2 f3 f4 f5 f6 f7 f8
  go_wp2
  go_loop [5] (fun iv => iv = .int .i64 0) (fun _ => 0)
  case atStart => exact rfl
  case round =>
    obtain rfl := hrel
    go_wp2
    go_loop [6] (fun iv => iv = .int .i64 0) (fun _ => 0)
    case atStart => exact rfl
    case round =>
      obtain rfl := hrel
      go_wp2
      all_goals
        go_ret
        exact ⟨rfl, by first | assumption | go_grown⟩
set_option maxRecDepth 100000 in
set_option maxHeartbeats 4000000 in
theorem rask_6 (n a0 a1 a2 a3 a4 a5 a6 a7 a8 : Int) (key too : ByteArray) (B : Option Addr) (len cap : Nat) (w : World) (hp : opureB 6 n key too len = true) (hl : len = 0) :
    Calls Tryz.prog 33 #[.agg #[.int .u8 6, .string key, .string too, .int .i64 n, .slice B len cap], .agg #[.int .i64 a0, .int .i64 a1, .int .i64 a2, .int .i64 a3, .int .i64 a4, .int .i64 a5, .int .i64 a6, .int .i64 a7, .int .i64 a8]] w fun e w' => e = .returned (.int .i64 0) ∧ Below w.heap.size w w' := by
  subst hl
  have Z := Lib.hid (fun w => by have h := zero_any 6 n key too B 0 cap w (by omega) (by omega); rw [hp] at h; exact h)
  clear hp
  go_enter Tryz.func33, Tryz.ntmps33
  go_wp2_with fail
  obtain ⟨W, hWW⟩ : ∃ W, W = (w.alloc (.cells #[.int .u8 6, .string key, .string too, .int .i64 n, .slice B 0 cap] 47)).alloc (.cells #[.int .i64 a0, .int .i64 a1, .int .i64 a2, .int .i64 a3, .int .i64 a4, .int .i64 a5, .int .i64 a6, .int .i64 a7, .int .i64 a8] 23) := ⟨_, rfl⟩
  have e0 : W.cell? ⟨w.heap.size, 0, none⟩ = some (.int .u8 6) := by rw [hWW]; simp [go_sem]
  have e1 : W.cell? ⟨w.heap.size, 1, none⟩ = some (.string key) := by rw [hWW]; simp [go_sem]
  have e2 : W.cell? ⟨w.heap.size, 2, none⟩ = some (.string too) := by rw [hWW]; simp [go_sem]
  have e3 : W.cell? ⟨w.heap.size, 3, none⟩ = some (.int .i64 n) := by rw [hWW]; simp [go_sem]
  have e4 : W.cell? ⟨w.heap.size, 4, none⟩ = some (.slice B 0 cap) := by rw [hWW]; simp [go_sem]
  have f0 : W.cell? ⟨w.heap.size + 1, 0, none⟩ = some (.int .i64 a0) := by rw [hWW]; simp [go_sem]
  have f1 : W.cell? ⟨w.heap.size + 1, 1, none⟩ = some (.int .i64 a1) := by rw [hWW]; simp [go_sem]
  have f2 : W.cell? ⟨w.heap.size + 1, 2, none⟩ = some (.int .i64 a2) := by rw [hWW]; simp [go_sem]
  have f3 : W.cell? ⟨w.heap.size + 1, 3, none⟩ = some (.int .i64 a3) := by rw [hWW]; simp [go_sem]
  have f4 : W.cell? ⟨w.heap.size + 1, 4, none⟩ = some (.int .i64 a4) := by rw [hWW]; simp [go_sem]
  have f5 : W.cell? ⟨w.heap.size + 1, 5, none⟩ = some (.int .i64 a5) := by rw [hWW]; simp [go_sem]
  have f6 : W.cell? ⟨w.heap.size + 1, 6, none⟩ = some (.int .i64 a6) := by rw [hWW]; simp [go_sem]
  have f7 : W.cell? ⟨w.heap.size + 1, 7, none⟩ = some (.int .i64 a7) := by rw [hWW]; simp [go_sem]
  have f8 : W.cell? ⟨w.heap.size + 1, 8, none⟩ = some (.int .i64 a8) := by rw [hWW]; simp [go_sem]
  have hW : Below w.heap.size w W := by rw [hWW]; go_grown
  have hS : w.heap.size + 1 < W.heap.size := by rw [hWW]; simp
  rw [← hWW]
  clear hWW
  refine (Z.out _).mono ?_
  rintro e w1 ⟨rfl, hb⟩
  have d0 := bel_later hb e0
  have d1 := bel_later hb e1
  have d2 := bel_later hb e2
  have d3 := bel_later hb e3
  have d4 := bel_later hb e4
  have x0 := bel_later hb f0
  have x1 := bel_later hb f1
  have x2 := bel_later hb f2
  have x3 := bel_later hb f3
  have x4 := bel_later hb f4
  have x5 := bel_later hb f5
  have x6 := bel_later hb f6
  have x7 := bel_later hb f7
  have x8 := bel_later hb f8
  have hw1 : Below w.heap.size w w1 := bel_step hW hb (Nat.le_refl _)
  have hS1 : w.heap.size + 1 < w1.heap.size := Nat.lt_of_lt_of_le hS hb.size
  clear hb hW hS e0 e1 e2 e3 e4 f0 f1 f2 f3 f4 f5 f6 f7 f8
  go_wp2
  go_loop [5] (fun iv => iv = .int .i64 0) (fun _ => 0)
  case atStart => exact rfl
  case round =>
    obtain rfl := hrel
    go_wp2
    go_loop [6] (fun iv => iv = .int .i64 0) (fun _ => 0)
    case atStart => exact rfl
    case round =>
      obtain rfl := hrel
      go_wp2
      all_goals
        go_ret
        exact ⟨rfl, by first | assumption | go_grown⟩
set_option maxRecDepth 100000 in
set_option maxHeartbeats 4000000 in
theorem rask_3 (n a0 a1 a2 a3 a4 a5 a6 a7 a8 : Int) (key too : ByteArray) (B : Option Addr) (len cap : Nat) (w : World) (hp : opureB 3 n key too len = true) (hl : len = 0) :
    Calls Tryz.prog 33 #[.agg #[.int .u8 3, .string key, .string too, .int .i64 n, .slice B len cap], .agg #[.int .i64 a0, .int .i64 a1, .int .i64 a2, .int .i64 a3, .int .i64 a4, .int .i64 a5, .int .i64 a6, .int .i64 a7, .int .i64 a8]] w fun e w' => e = .returned (.int .i64 (arF 3 n a0 a8 key too)) ∧ Below w.heap.size w w' := by
  obtain ⟨r, hr⟩ : ∃ r, r = arF 3 n a0 a8 key too := ⟨_, rfl⟩
  rw [← hr]
  have HR := Lib.hid hr
  clear hr
  subst hl
  have Z := Lib.hid (fun w => by have h := zero_any 3 n key too B 0 cap w (by omega) (by omega); rw [hp] at h; exact h)
  clear hp
  go_enter Tryz.func33, Tryz.ntmps33
  go_wp2_with fail
  obtain ⟨W, hWW⟩ : ∃ W, W = (w.alloc (.cells #[.int .u8 3, .string key, .string too, .int .i64 n, .slice B 0 cap] 47)).alloc (.cells #[.int .i64 a0, .int .i64 a1, .int .i64 a2, .int .i64 a3, .int .i64 a4, .int .i64 a5, .int .i64 a6, .int .i64 a7, .int .i64 a8] 23) := ⟨_, rfl⟩
  have e0 : W.cell? ⟨w.heap.size, 0, none⟩ = some (.int .u8 3) := by rw [hWW]; simp [go_sem]
  have e1 : W.cell? ⟨w.heap.size, 1, none⟩ = some (.string key) := by rw [hWW]; simp [go_sem]
  have e2 : W.cell? ⟨w.heap.size, 2, none⟩ = some (.string too) := by rw [hWW]; simp [go_sem]
  have e3 : W.cell? ⟨w.heap.size, 3, none⟩ = some (.int .i64 n) := by rw [hWW]; simp [go_sem]
  have e4 : W.cell? ⟨w.heap.size, 4, none⟩ = some (.slice B 0 cap) := by rw [hWW]; simp [go_sem]
  have f0 : W.cell? ⟨w.heap.size + 1, 0, none⟩ = some (.int .i64 a0) := by rw [hWW]; simp [go_sem]
  have f1 : W.cell? ⟨w.heap.size + 1, 1, none⟩ = some (.int .i64 a1) := by rw [hWW]; simp [go_sem]
  have f2 : W.cell? ⟨w.heap.size + 1, 2, none⟩ = some (.int .i64 a2) := by rw [hWW]; simp [go_sem]
  have f3 : W.cell? ⟨w.heap.size + 1, 3, none⟩ = some (.int .i64 a3) := by rw [hWW]; simp [go_sem]
  have f4 : W.cell? ⟨w.heap.size + 1, 4, none⟩ = some (.int .i64 a4) := by rw [hWW]; simp [go_sem]
  have f5 : W.cell? ⟨w.heap.size + 1, 5, none⟩ = some (.int .i64 a5) := by rw [hWW]; simp [go_sem]
  have f6 : W.cell? ⟨w.heap.size + 1, 6, none⟩ = some (.int .i64 a6) := by rw [hWW]; simp [go_sem]
  have f7 : W.cell? ⟨w.heap.size + 1, 7, none⟩ = some (.int .i64 a7) := by rw [hWW]; simp [go_sem]
  have f8 : W.cell? ⟨w.heap.size + 1, 8, none⟩ = some (.int .i64 a8) := by rw [hWW]; simp [go_sem]
  have hW : Below w.heap.size w W := by rw [hWW]; go_grown
  have hS : w.heap.size + 1 < W.heap.size := by rw [hWW]; simp
  rw [← hWW]
  clear hWW
  refine (Z.out _).mono ?_
  rintro e w1 ⟨rfl, hb⟩
  have d0 := bel_later hb e0
  have d1 := bel_later hb e1
  have d2 := bel_later hb e2
  have d3 := bel_later hb e3
  have d4 := bel_later hb e4
  have x0 := bel_later hb f0
  have x1 := bel_later hb f1
  have x2 := bel_later hb f2
  have x3 := bel_later hb f3
  have x4 := bel_later hb f4
  have x5 := bel_later hb f5
  have x6 := bel_later hb f6
  have x7 := bel_later hb f7
  have x8 := bel_later hb f8
  have hw1 : Below w.heap.size w w1 := bel_step hW hb (Nat.le_refl _)
  have hS1 : w.heap.size + 1 < w1.heap.size := Nat.lt_of_lt_of_le hS hb.size
  clear hb hW hS e0 e1 e2 e3 e4 f0 f1 f2 f3 f4 f5 f6 f7 f8
  go_wp2
  go_loop [5] (fun iv => iv = .int .i64 0) (fun _ => 0)
  case atStart => exact rfl
  case round =>
    obtain rfl := hrel
    go_wp2
    go_loop [6] (fun iv => iv = .int .i64 0) (fun _ => 0)
    case atStart => exact rfl
    case round =>
      obtain rfl := hrel
      go_wp2
      all_goals
        go_ret
        refine ⟨ret_eq ?_, by first | assumption | go_grown⟩
        rw [HR.out]
        clear HR Z
        first
        | (simp_all [arF, sbS, ltS, emp]; done)
        | (simp_all [arF, sbS, ltS, emp]; omega)
        | (have hb := sb_bad (by assumption) (by assumption); unfold arF; rw [if_neg (by omega), if_neg (by omega), if_pos hb])
        | (have hb := sb_ok (by assumption) (by assumption); unfold arF; rw [if_neg (by omega), if_neg (by omega), if_neg (by rw [hb]; simp)]; first | (rw [if_neg (by omega)]; done) | (rw [if_pos rfl, if_pos (by omega)]; done) | (rw [if_pos rfl, if_neg (by omega), if_pos (by omega)]; done) | (rw [if_pos rfl, if_neg (by omega), if_neg (by omega)]; done))
        | (trace_state; fail)
set_option maxRecDepth 100000 in
set_option maxHeartbeats 4000000 in
theorem rask_4 (n a0 a1 a2 a3 a4 a5 a6 a7 a8 : Int) (key too : ByteArray) (B : Option Addr) (len cap : Nat) (w : World) (hp : opureB 4 n key too len = true) (hl : len = 0) :
    Calls Tryz.prog 33 #[.agg #[.int .u8 4, .string key, .string too, .int .i64 n, .slice B len cap], .agg #[.int .i64 a0, .int .i64 a1, .int .i64 a2, .int .i64 a3, .int .i64 a4, .int .i64 a5, .int .i64 a6, .int .i64 a7, .int .i64 a8]] w fun e w' => e = .returned (.int .i64 (arF 4 n a0 a8 key too)) ∧ Below w.heap.size w w' := by
  obtain ⟨r, hr⟩ : ∃ r, r = arF 4 n a0 a8 key too := ⟨_, rfl⟩
  rw [← hr]
  have HR := Lib.hid hr
  clear hr
  subst hl
  have Z := Lib.hid (fun w => by have h := zero_any 4 n key too B 0 cap w (by omega) (by omega); rw [hp] at h; exact h)
  clear hp
  go_enter Tryz.func33, Tryz.ntmps33
  go_wp2_with fail
  obtain ⟨W, hWW⟩ : ∃ W, W = (w.alloc (.cells #[.int .u8 4, .string key, .string too, .int .i64 n, .slice B 0 cap] 47)).alloc (.cells #[.int .i64 a0, .int .i64 a1, .int .i64 a2, .int .i64 a3, .int .i64 a4, .int .i64 a5, .int .i64 a6, .int .i64 a7, .int .i64 a8] 23) := ⟨_, rfl⟩
  have e0 : W.cell? ⟨w.heap.size, 0, none⟩ = some (.int .u8 4) := by rw [hWW]; simp [go_sem]
  have e1 : W.cell? ⟨w.heap.size, 1, none⟩ = some (.string key) := by rw [hWW]; simp [go_sem]
  have e2 : W.cell? ⟨w.heap.size, 2, none⟩ = some (.string too) := by rw [hWW]; simp [go_sem]
  have e3 : W.cell? ⟨w.heap.size, 3, none⟩ = some (.int .i64 n) := by rw [hWW]; simp [go_sem]
  have e4 : W.cell? ⟨w.heap.size, 4, none⟩ = some (.slice B 0 cap) := by rw [hWW]; simp [go_sem]
  have f0 : W.cell? ⟨w.heap.size + 1, 0, none⟩ = some (.int .i64 a0) := by rw [hWW]; simp [go_sem]
  have f1 : W.cell? ⟨w.heap.size + 1, 1, none⟩ = some (.int .i64 a1) := by rw [hWW]; simp [go_sem]
  have f2 : W.cell? ⟨w.heap.size + 1, 2, none⟩ = some (.int .i64 a2) := by rw [hWW]; simp [go_sem]
  have f3 : W.cell? ⟨w.heap.size + 1, 3, none⟩ = some (.int .i64 a3) := by rw [hWW]; simp [go_sem]
  have f4 : W.cell? ⟨w.heap.size + 1, 4, none⟩ = some (.int .i64 a4) := by rw [hWW]; simp [go_sem]
  have f5 : W.cell? ⟨w.heap.size + 1, 5, none⟩ = some (.int .i64 a5) := by rw [hWW]; simp [go_sem]
  have f6 : W.cell? ⟨w.heap.size + 1, 6, none⟩ = some (.int .i64 a6) := by rw [hWW]; simp [go_sem]
  have f7 : W.cell? ⟨w.heap.size + 1, 7, none⟩ = some (.int .i64 a7) := by rw [hWW]; simp [go_sem]
  have f8 : W.cell? ⟨w.heap.size + 1, 8, none⟩ = some (.int .i64 a8) := by rw [hWW]; simp [go_sem]
  have hW : Below w.heap.size w W := by rw [hWW]; go_grown
  have hS : w.heap.size + 1 < W.heap.size := by rw [hWW]; simp
  rw [← hWW]
  clear hWW
  refine (Z.out _).mono ?_
  rintro e w1 ⟨rfl, hb⟩
  have d0 := bel_later hb e0
  have d1 := bel_later hb e1
  have d2 := bel_later hb e2
  have d3 := bel_later hb e3
  have d4 := bel_later hb e4
  have x0 := bel_later hb f0
  have x1 := bel_later hb f1
  have x2 := bel_later hb f2
  have x3 := bel_later hb f3
  have x4 := bel_later hb f4
  have x5 := bel_later hb f5
  have x6 := bel_later hb f6
  have x7 := bel_later hb f7
  have x8 := bel_later hb f8
  have hw1 : Below w.heap.size w w1 := bel_step hW hb (Nat.le_refl _)
  have hS1 : w.heap.size + 1 < w1.heap.size := Nat.lt_of_lt_of_le hS hb.size
  clear hb hW hS e0 e1 e2 e3 e4 f0 f1 f2 f3 f4 f5 f6 f7 f8
  go_wp2
  go_loop [5] (fun iv => iv = .int .i64 0) (fun _ => 0)
  case atStart => exact rfl
  case round =>
    obtain rfl := hrel
    go_wp2
    go_loop [6] (fun iv => iv = .int .i64 0) (fun _ => 0)
    case atStart => exact rfl
    case round =>
      obtain rfl := hrel
      go_wp2
      all_goals
        go_ret
        refine ⟨ret_eq ?_, by first | assumption | go_grown⟩
        rw [HR.out]
        clear HR Z
        first
        | (simp_all [arF, sbS, ltS, emp]; done)
        | (simp_all [arF, sbS, ltS, emp]; omega)
        | (have hb := sb_bad (by assumption) (by assumption); unfold arF; rw [if_neg (by omega), if_neg (by omega), if_pos hb])
        | (have hb := sb_ok (by assumption) (by assumption); unfold arF; rw [if_neg (by omega), if_neg (by omega), if_neg (by rw [hb]; simp)]; first | (rw [if_neg (by omega)]; done) | (rw [if_pos rfl, if_pos (by omega)]; done) | (rw [if_pos rfl, if_neg (by omega), if_pos (by omega)]; done) | (rw [if_pos rfl, if_neg (by omega), if_neg (by omega)]; done))
        | (trace_state; fail)
set_option maxRecDepth 100000 in
set_option maxHeartbeats 4000000 in
theorem rask_2m (n a0 a1 a2 a3 a4 a5 a6 a7 a8 : Int) (key too : ByteArray) (B : Option Addr) (len cap : Nat) (w : World) (hp : opureB 2 n key too len = true) (hl : (1024 : Int) < (len : Int)) :
    Calls Tryz.prog 33 #[.agg #[.int .u8 2, .string key, .string too, .int .i64 n, .slice B len cap], .agg #[.int .i64 a0, .int .i64 a1, .int .i64 a2, .int .i64 a3, .int .i64 a4, .int .i64 a5, .int .i64 a6, .int .i64 a7, .int .i64 a8]] w fun e w' => e = .returned (.int .i64 8) ∧ Below w.heap.size w w' := by
  have Z := Lib.hid (fun w => by have h := zero_any 2 n key too B len cap w (by omega) (by omega); rw [hp] at h; exact h)
  clear hp
  go_enter Tryz.func33, Tryz.ntmps33
  go_wp2_with fail
  obtain ⟨W, hWW⟩ : ∃ W, W = (w.alloc (.cells #[.int .u8 2, .string key, .string too, .int .i64 n, .slice B len cap] 47)).alloc (.cells #[.int .i64 a0, .int .i64 a1, .int .i64 a2, .int .i64 a3, .int .i64 a4, .int .i64 a5, .int .i64 a6, .int .i64 a7, .int .i64 a8] 23) := ⟨_, rfl⟩
  have e0 : W.cell? ⟨w.heap.size, 0, none⟩ = some (.int .u8 2) := by rw [hWW]; simp [go_sem]
  have e1 : W.cell? ⟨w.heap.size, 1, none⟩ = some (.string key) := by rw [hWW]; simp [go_sem]
  have e2 : W.cell? ⟨w.heap.size, 2, none⟩ = some (.string too) := by rw [hWW]; simp [go_sem]
  have e3 : W.cell? ⟨w.heap.size, 3, none⟩ = some (.int .i64 n) := by rw [hWW]; simp [go_sem]
  have e4 : W.cell? ⟨w.heap.size, 4, none⟩ = some (.slice B len cap) := by rw [hWW]; simp [go_sem]
  have f0 : W.cell? ⟨w.heap.size + 1, 0, none⟩ = some (.int .i64 a0) := by rw [hWW]; simp [go_sem]
  have f1 : W.cell? ⟨w.heap.size + 1, 1, none⟩ = some (.int .i64 a1) := by rw [hWW]; simp [go_sem]
  have f2 : W.cell? ⟨w.heap.size + 1, 2, none⟩ = some (.int .i64 a2) := by rw [hWW]; simp [go_sem]
  have f3 : W.cell? ⟨w.heap.size + 1, 3, none⟩ = some (.int .i64 a3) := by rw [hWW]; simp [go_sem]
  have f4 : W.cell? ⟨w.heap.size + 1, 4, none⟩ = some (.int .i64 a4) := by rw [hWW]; simp [go_sem]
  have f5 : W.cell? ⟨w.heap.size + 1, 5, none⟩ = some (.int .i64 a5) := by rw [hWW]; simp [go_sem]
  have f6 : W.cell? ⟨w.heap.size + 1, 6, none⟩ = some (.int .i64 a6) := by rw [hWW]; simp [go_sem]
  have f7 : W.cell? ⟨w.heap.size + 1, 7, none⟩ = some (.int .i64 a7) := by rw [hWW]; simp [go_sem]
  have f8 : W.cell? ⟨w.heap.size + 1, 8, none⟩ = some (.int .i64 a8) := by rw [hWW]; simp [go_sem]
  have hW : Below w.heap.size w W := by rw [hWW]; go_grown
  have hS : w.heap.size + 1 < W.heap.size := by rw [hWW]; simp
  rw [← hWW]
  clear hWW
  refine (Z.out _).mono ?_
  rintro e w1 ⟨rfl, hb⟩
  have d0 := bel_later hb e0
  have d1 := bel_later hb e1
  have d2 := bel_later hb e2
  have d3 := bel_later hb e3
  have d4 := bel_later hb e4
  have x0 := bel_later hb f0
  have x1 := bel_later hb f1
  have x2 := bel_later hb f2
  have x3 := bel_later hb f3
  have x4 := bel_later hb f4
  have x5 := bel_later hb f5
  have x6 := bel_later hb f6
  have x7 := bel_later hb f7
  have x8 := bel_later hb f8
  have hw1 : Below w.heap.size w w1 := bel_step hW hb (Nat.le_refl _)
  have hS1 : w.heap.size + 1 < w1.heap.size := Nat.lt_of_lt_of_le hS hb.size
  clear hb hW hS e0 e1 e2 e3 e4 f0 f1 f2 f3 f4 f5 f6 f7 f8
  go_wp2
  all_goals
    go_ret
    exact ⟨rfl, by first | assumption | go_grown⟩
set_option maxRecDepth 100000 in
set_option maxHeartbeats 4000000 in
theorem rask_2s (n a0 a1 a2 a3 a4 a5 a6 a7 a8 : Int) (key too : ByteArray) (B : Option Addr) (len cap : Nat) (w : World) (l : List M) (hp : opureB 2 n key too len = true) (hn : len ≤ 1024) (hl : l.length = len) (hA : MsL w w.heap.size B l) :
    Calls Tryz.prog 33 #[.agg #[.int .u8 2, .string key, .string too, .int .i64 n, .slice B len cap], .agg #[.int .i64 a0, .int .i64 a1, .int .i64 a2, .int .i64 a3, .int .i64 a4, .int .i64 a5, .int .i64 a6, .int .i64 a7, .int .i64 a8]] w fun e w' => e = .returned (.int .i64 (abF a0 a1 l)) ∧ Below w.heap.size w w' := by
  obtain ⟨r, hr⟩ : ∃ r, r = abF a0 a1 l := ⟨_, rfl⟩
  rw [← hr]
  have HR := Lib.hid hr
  clear hr
  have HL := Lib.hid hl
  have HA := Lib.hid hA
  have hn1 : ¬ ((1024 : Int) < (len : Int)) := by omega
  clear hl hA
  have Z := Lib.hid (fun w => by have h := zero_any 2 n key too B len cap w (by omega) (by omega); rw [hp] at h; exact h)
  clear hp
  go_enter Tryz.func33, Tryz.ntmps33
  go_wp2_with fail
  obtain ⟨W, hWW⟩ : ∃ W, W = (w.alloc (.cells #[.int .u8 2, .string key, .string too, .int .i64 n, .slice B len cap] 47)).alloc (.cells #[.int .i64 a0, .int .i64 a1, .int .i64 a2, .int .i64 a3, .int .i64 a4, .int .i64 a5, .int .i64 a6, .int .i64 a7, .int .i64 a8] 23) := ⟨_, rfl⟩
  have e0 : W.cell? ⟨w.heap.size, 0, none⟩ = some (.int .u8 2) := by rw [hWW]; simp [go_sem]
  have e1 : W.cell? ⟨w.heap.size, 1, none⟩ = some (.string key) := by rw [hWW]; simp [go_sem]
  have e2 : W.cell? ⟨w.heap.size, 2, none⟩ = some (.string too) := by rw [hWW]; simp [go_sem]
  have e3 : W.cell? ⟨w.heap.size, 3, none⟩ = some (.int .i64 n) := by rw [hWW]; simp [go_sem]
  have e4 : W.cell? ⟨w.heap.size, 4, none⟩ = some (.slice B len cap) := by rw [hWW]; simp [go_sem]
  have f0 : W.cell? ⟨w.heap.size + 1, 0, none⟩ = some (.int .i64 a0) := by rw [hWW]; simp [go_sem]
  have f1 : W.cell? ⟨w.heap.size + 1, 1, none⟩ = some (.int .i64 a1) := by rw [hWW]; simp [go_sem]
  have f2 : W.cell? ⟨w.heap.size + 1, 2, none⟩ = some (.int .i64 a2) := by rw [hWW]; simp [go_sem]
  have f3 : W.cell? ⟨w.heap.size + 1, 3, none⟩ = some (.int .i64 a3) := by rw [hWW]; simp [go_sem]
  have f4 : W.cell? ⟨w.heap.size + 1, 4, none⟩ = some (.int .i64 a4) := by rw [hWW]; simp [go_sem]
  have f5 : W.cell? ⟨w.heap.size + 1, 5, none⟩ = some (.int .i64 a5) := by rw [hWW]; simp [go_sem]
  have f6 : W.cell? ⟨w.heap.size + 1, 6, none⟩ = some (.int .i64 a6) := by rw [hWW]; simp [go_sem]
  have f7 : W.cell? ⟨w.heap.size + 1, 7, none⟩ = some (.int .i64 a7) := by rw [hWW]; simp [go_sem]
  have f8 : W.cell? ⟨w.heap.size + 1, 8, none⟩ = some (.int .i64 a8) := by rw [hWW]; simp [go_sem]
  have hW : Below w.heap.size w W := by rw [hWW]; go_grown
  have hS : w.heap.size + 1 < W.heap.size := by rw [hWW]; simp
  rw [← hWW]
  clear hWW
  refine (Z.out _).mono ?_
  rintro e w1 ⟨rfl, hb⟩
  have d0 := bel_later hb e0
  have d1 := bel_later hb e1
  have d2 := bel_later hb e2
  have d3 := bel_later hb e3
  have d4 := bel_later hb e4
  have x0 := bel_later hb f0
  have x1 := bel_later hb f1
  have x2 := bel_later hb f2
  have x3 := bel_later hb f3
  have x4 := bel_later hb f4
  have x5 := bel_later hb f5
  have x6 := bel_later hb f6
  have x7 := bel_later hb f7
  have x8 := bel_later hb f8
  have hw1 : Below w.heap.size w w1 := bel_step hW hb (Nat.le_refl _)
  have hS1 : w.heap.size + 1 < w1.heap.size := Nat.lt_of_lt_of_le hS hb.size
  clear hb hW hS e0 e1 e2 e3 e4 f0 f1 f2 f3 f4 f5 f6 f7 f8
  go_wp2
  go_loop [5] (fun iv => ∃ k : Nat, k ≤ len ∧ iv = .int .i64 k ∧ (l.take k).all (fun m => m.q == 0) = true) (fun i => len - (intOf i).toNat)
  case atStart => exact ⟨0, by omega, rfl, rfl⟩
  case round =>
    obtain ⟨k, hk, rfl, hall'⟩ := hrel
    have hall := Lib.hid hall'
    clear hall'
    by_cases h8 : k = len
    · have hkn : ¬ (k : Int) < (len : Int) := by omega
      have hfe : Hid (r = fe a0 a1 l) := Lib.hid (by
        have h2 := hall.out
        rw [h8, ← HL.out, List.take_length] at h2
        rw [HR.out]; unfold abF; rw [if_neg (by have := HL.out; omega), if_pos h2])
      clear HR hall
      go_wp2
      go_loopw [6] (fun iv wv => ∃ j : Nat, j ≤ len ∧ iv = .int .i64 j ∧ r = fe a0 a1 (l.drop j) ∧ Below w1.heap.size w1 wv) (fun i _ => len - (intOf i).toNat)
      case atStart => exact ⟨0, by omega, rfl, by rw [hfe.out]; rfl, Below.refl _ _⟩
      case round =>
        obtain ⟨j, hj, rfl, hfj, hB'⟩ := hrel
        have HFJ := Lib.hid hfj
        clear hfe
        have hB := Lib.hid hB'
        clear hfj hB'
        have y0 := bel_later hB.out d0
        have y4 := bel_later hB.out d4
        by_cases h9 : j = len
        · have hjn : ¬ (j : Int) < (len : Int) := by omega
          have hr0 : Hid (r = 0) := Lib.hid (by rw [HFJ.out, h9, ← HL.out, List.drop_length]; rfl)
          clear HFJ
          go_wp2
          all_goals
            go_ret
            exact ⟨by rw [hr0.out]; rfl, bel_step hw1 hB.out (Nat.le_refl _)⟩
        · have hkn : j < len := by omega
          have hk1 : (j : Int) < (len : Int) := by omega
          have hk0 : (0 : Int) ≤ (j : Int) := by omega
          have hkl : j < l.length := by rw [HL.out]; exact hkn
          obtain ⟨b, off, rfl, hlt, g0, g1, g2, g3, g4, g5⟩ := HA.out.get hkl
          have hAll : Below w.heap.size w wr := bel_step hw1 hB.out (Nat.le_refl _)
          have e0 := (bel_cell hAll hlt).trans g0
          have e1 := (bel_cell hAll hlt).trans g1
          have e2 := (bel_cell hAll hlt).trans g2
          have e3 := (bel_cell hAll hlt).trans g3
          have e4 := (bel_cell hAll hlt).trans g4
          have e5 := (bel_cell hAll hlt).trans g5
          obtain ⟨y, hy⟩ : ∃ y, y = l[j] := ⟨_, rfl⟩
          rw [← hy] at e0 e1 e2 e3 e4 e5
          have HY := Lib.hid hy
          clear g0 g1 g2 g3 g4 g5 hy hAll
          obtain ⟨mk, mq, mkey, mtoo, mval, mdl⟩ := y
          simp only at e0 e1 e2 e3 e4 e5
          have q0 := bel_later hB.out x0
          have q1 := bel_later hB.out x1
          have q2 := bel_later hB.out x2
          have q3 := bel_later hB.out x3
          have q4 := bel_later hB.out x4
          have q5 := bel_later hB.out x5
          have q6 := bel_later hB.out x6
          have q7 := bel_later hB.out x7
          have q8 := bel_later hB.out x8
          have hstep := fe_drop a0 a1 l j hkl
          rw [← HY.out] at hstep
          simp only at hstep
          have C := fun W => qmsg_any mk mq mdl a0 a1 a2 a3 a4 a5 a6 a7 a8 mkey mtoo mval W
          obtain ⟨v, hv⟩ : ∃ v, v = mF mk mdl a0 a1 mkey mtoo mval := ⟨_, rfl⟩
          rw [← hv] at C hstep
          have HS := Lib.hid hstep
          have CC := Lib.hid C
          clear C hstep hv HY
          by_cases hv0 : v = 0
          · have hr2 : Hid (r = fe a0 a1 (l.drop (j + 1))) := Lib.hid (by rw [HFJ.out, HS.out, if_pos hv0])
            subst hv0
            clear HS HFJ
            go_wp2_with fail
            go_region_with (go_at_call 60; (with_reducible refine (CC.out _).mono ?_); rintro e w2 ⟨rfl, hb2⟩; have hB2 : Below w1.heap.size w1 w2 := (by first | exact bel_step hB.out hb2 (Nat.le_refl _) | exact bel_step hB.out (bel_dr hb2) (Nat.le_refl _)); clear hb2 q0 q1 q2 q3 q4 q5 q6 q7 q8)
            all_goals go_wp2
            all_goals exact ⟨⟨j + 1, by omega, by simp, hr2.out, hB2⟩, by simp [intOf]; omega⟩
          · have hr2 : Hid (r = v) := Lib.hid (by rw [HFJ.out, HS.out, if_neg hv0])
            clear HS HFJ
            go_wp2_with fail
            go_region_with (go_at_call 60; (with_reducible refine (CC.out _).mono ?_); rintro e w2 ⟨rfl, hb2⟩; have hB2 : Below w1.heap.size w1 w2 := (by first | exact bel_step hB.out hb2 (Nat.le_refl _) | exact bel_step hB.out (bel_dr hb2) (Nat.le_refl _)); clear hb2 q0 q1 q2 q3 q4 q5 q6 q7 q8)
            all_goals go_wp2
            all_goals go_ret
            all_goals exact ⟨by rw [hr2.out]; rfl, bel_step hw1 hB2 (Nat.le_refl _)⟩
    · have hkn : k < len := by omega
      have hk1 : (k : Int) < (len : Int) := by omega
      have hk0 : (0 : Int) ≤ (k : Int) := by omega
      have hkl : k < l.length := by rw [HL.out]; exact hkn
      obtain ⟨b, off, rfl, hlt, g0, g1, g2, g3, g4, g5⟩ := HA.out.get hkl
      have e1 := (bel_cell hw1 hlt).trans g1
      obtain ⟨y, hy⟩ : ∃ y, y = l[k].q := ⟨_, rfl⟩
      rw [← hy] at e1
      have HY := Lib.hid hy
      clear g0 g1 g2 g3 g4 g5 hy
      by_cases hq : y = 0
      · subst hq
        have hall2 : Hid ((l.take (k + 1)).all (fun m => m.q == 0) = true) := Lib.hid (by rw [all_take l k hkl hall.out, ← HY.out]; rfl)
        clear hall HR HY
        go_wp2
        exact ⟨⟨k + 1, by omega, by simp, hall2.out⟩, by simp [intOf]; omega⟩
      · have hr3 : Hid (r = 3) := Lib.hid (by rw [HR.out]; exact ab_no a0 a1 l k hkl (by rw [HL.out]; exact hn) (by rw [← HY.out]; exact hq))
        clear hall HR HY
        go_wp2
        go_ret
        exact ⟨by rw [hr3.out]; rfl, hw1⟩

theorem rask_any (k n a0 a1 a2 a3 a4 a5 a6 a7 a8 : Int) (key too : ByteArray) (B : Option Addr) (len cap : Nat) (l : List M) (w : World) (hl : l.length = len) (hA : MsL w w.heap.size B l) :
    Calls Tryz.prog 33 #[.agg #[.int .u8 k, .string key, .string too, .int .i64 n, .slice B len cap], cfg a0 a1 a2 a3 a4 a5 a6 a7 a8] w fun e w' => e = .returned (.int .i64 (askF k n a0 a1 a8 key too len l)) ∧ Below w.heap.size w w' := by
  unfold cfg askF
  by_cases h1 : k < 1
  · have hp : opureB k n key too len = false := by unfold opureB; rw [if_neg (by omega), if_neg (by omega), if_neg (by omega), if_neg (by omega), if_neg (by omega)]
    rw [if_pos hp]; exact rask_lo k n a0 a1 a2 a3 a4 a5 a6 a7 a8 key too B len cap w h1
  by_cases h2 : 6 < k
  · have hp : opureB k n key too len = false := by unfold opureB; rw [if_neg (by omega), if_neg (by omega), if_neg (by omega), if_neg (by omega), if_neg (by omega)]
    rw [if_pos hp]; exact rask_hi k n a0 a1 a2 a3 a4 a5 a6 a7 a8 key too B len cap w h2
  by_cases hp : opureB k n key too len = false
  · rw [if_pos hp]
    rcases (by omega : k = 1 ∨ k = 2 ∨ k = 3 ∨ k = 4 ∨ k = 5 ∨ k = 6) with rfl | rfl | rfl | rfl | rfl | rfl
    · exact rask_z1 n a0 a1 a2 a3 a4 a5 a6 a7 a8 key too B len cap w hp
    · exact rask_z2 n a0 a1 a2 a3 a4 a5 a6 a7 a8 key too B len cap w hp
    · exact rask_z3 n a0 a1 a2 a3 a4 a5 a6 a7 a8 key too B len cap w hp
    · exact rask_z4 n a0 a1 a2 a3 a4 a5 a6 a7 a8 key too B len cap w hp
    · exact rask_z5 n a0 a1 a2 a3 a4 a5 a6 a7 a8 key too B len cap w hp
    · exact rask_z6 n a0 a1 a2 a3 a4 a5 a6 a7 a8 key too B len cap w hp
  rw [if_neg hp]
  have hp' : opureB k n key too len = true := by simpa using hp
  rcases (by omega : k = 1 ∨ k = 2 ∨ k = 3 ∨ k = 4 ∨ k = 5 ∨ k = 6) with rfl | rfl | rfl | rfl | rfl | rfl
  · have h0 : len = 0 := by simp [opureB] at hp'; exact hp'.2
    rw [if_pos rfl]
    by_cases hk : key.toList = []
    · have hr : ¬ rightS key a0 = true := by simp [rightS, emp, hk]
      rw [if_neg hr]; exact rask_1e n a0 a1 a2 a3 a4 a5 a6 a7 a8 key too B len cap w hp' h0 hk
    by_cases hs : a0 < (key.size : Int)
    · have hr : ¬ rightS key a0 = true := by simp [rightS, emp, hk]; omega
      rw [if_neg hr]; exact rask_1s n a0 a1 a2 a3 a4 a5 a6 a7 a8 key too B len cap w hp' h0 hk hs
    · have hr : rightS key a0 = true := by simp [rightS, emp, hk]; omega
      rw [if_pos hr]; exact rask_1g n a0 a1 a2 a3 a4 a5 a6 a7 a8 key too B len cap w hp' h0 hk (by omega)
  · rw [if_neg (by omega), if_pos rfl]
    by_cases hs : 1024 < len
    · have h8 : abF a0 a1 l = 8 := by unfold abF; rw [if_pos (by omega)]
      rw [h8]; exact rask_2m n a0 a1 a2 a3 a4 a5 a6 a7 a8 key too B len cap w hp' (by omega)
    · exact rask_2s n a0 a1 a2 a3 a4 a5 a6 a7 a8 key too B len cap w l hp' (by omega) hl hA
  · have h0 : len = 0 := by simpa [opureB] using hp'
    rw [if_neg (by omega), if_neg (by omega), if_pos rfl]; exact rask_3 n a0 a1 a2 a3 a4 a5 a6 a7 a8 key too B len cap w hp' h0
  · have h0 : len = 0 := by simp [opureB] at hp'; exact hp'.2
    rw [if_neg (by omega), if_neg (by omega), if_neg (by omega), if_pos rfl]; exact rask_4 n a0 a1 a2 a3 a4 a5 a6 a7 a8 key too B len cap w hp' h0
  · have h0 : len = 0 := by simp [opureB] at hp'; exact hp'.2
    rw [if_neg (by omega), if_neg (by omega), if_neg (by omega), if_neg (by omega)]; exact rask_5 n a0 a1 a2 a3 a4 a5 a6 a7 a8 key too B len cap w hp' h0
  · have h0 : len = 0 := by simp [opureB] at hp'; exact hp'.2
    rw [if_neg (by omega), if_neg (by omega), if_neg (by omega), if_neg (by omega)]; exact rask_6 n a0 a1 a2 a3 a4 a5 a6 a7 a8 key too B len cap w hp' h0
end Go.Proofs.YtelpkajlejbbgaaGreatDoor
