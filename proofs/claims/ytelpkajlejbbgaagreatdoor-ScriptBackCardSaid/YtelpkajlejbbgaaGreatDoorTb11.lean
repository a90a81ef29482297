/- What may be asked: an operation. -/
import Derived.Test.YtelpkajlejbbgaaGreatDoorTb10
set_option linter.unusedVariables false
set_option linter.unusedSimpArgs false
namespace Go.Proofs.YtelpkajlejbbgaaGreatDoor
open Go.RowKit

theorem MsL.keep {w w' : World} {A : Option Addr} {l : List M} (h : MsL w w.heap.size A l) (hb : Below w.heap.size w w') : MsL w' w'.heap.size A l := by
  rcases h with h | ⟨b, off, hA, hlt, hc⟩
  · exact .inl h
  · refine .inr ⟨b, off, hA, Nat.lt_of_lt_of_le hlt hb.size, fun j hj => ?_⟩
    obtain ⟨g0, g1, g2, g3, g4, g5⟩ := hc j hj
    exact ⟨(bel_cell hb hlt).trans g0, (bel_cell hb hlt).trans g1, (bel_cell hb hlt).trans g2, (bel_cell hb hlt).trans g3, (bel_cell hb hlt).trans g4, (bel_cell hb hlt).trans g5⟩
set_option maxRecDepth 100000 in
set_option maxHeartbeats 4000000 in
theorem ask_no (k n a0 a1 a2 a3 a4 a5 a6 a7 a8 : Int) (key too : ByteArray) (B : Option Addr) (len cap : Nat) (l : List M) (w : World) (hl : l.length = len) (hA : MsL w w.heap.size B l) (hp : opureB k n key too len = false) :
    Calls Tryz.prog 31 #[.agg #[.int .u8 k, .string key, .string too, .int .i64 n, .slice B len cap], cfg a0 a1 a2 a3 a4 a5 a6 a7 a8] w fun e w' => e = .returned (.int .i64 3) ∧ Below w.heap.size w w' := by
  have HA := Lib.hid hA
  have P := fun W => opure_any k n key too B len cap W
  simp only [hp] at P
  have PP := Lib.hid P
  clear P hA
  clear hp
  go_enter Tryz.func31, Tryz.ntmps31
  go_wp2_with fail
  have e0 : ((w.alloc (.cells #[.int .u8 k, .string key, .string too, .int .i64 n, .slice B len cap] 47)).alloc (.cells #[.int .i64 a0, .int .i64 a1, .int .i64 a2, .int .i64 a3, .int .i64 a4, .int .i64 a5, .int .i64 a6, .int .i64 a7, .int .i64 a8] 23)).cell? ⟨w.heap.size, 0, none⟩ = some (.int .u8 k) := by simp [go_sem]
  have e1 : ((w.alloc (.cells #[.int .u8 k, .string key, .string too, .int .i64 n, .slice B len cap] 47)).alloc (.cells #[.int .i64 a0, .int .i64 a1, .int .i64 a2, .int .i64 a3, .int .i64 a4, .int .i64 a5, .int .i64 a6, .int .i64 a7, .int .i64 a8] 23)).cell? ⟨w.heap.size, 1, none⟩ = some (.string key) := by simp [go_sem]
  have e2 : ((w.alloc (.cells #[.int .u8 k, .string key, .string too, .int .i64 n, .slice B len cap] 47)).alloc (.cells #[.int .i64 a0, .int .i64 a1, .int .i64 a2, .int .i64 a3, .int .i64 a4, .int .i64 a5, .int .i64 a6, .int .i64 a7, .int .i64 a8] 23)).cell? ⟨w.heap.size, 2, none⟩ = some (.string too) := by simp [go_sem]
  have e3 : ((w.alloc (.cells #[.int .u8 k, .string key, .string too, .int .i64 n, .slice B len cap] 47)).alloc (.cells #[.int .i64 a0, .int .i64 a1, .int .i64 a2, .int .i64 a3, .int .i64 a4, .int .i64 a5, .int .i64 a6, .int .i64 a7, .int .i64 a8] 23)).cell? ⟨w.heap.size, 3, none⟩ = some (.int .i64 n) := by simp [go_sem]
  have e4 : ((w.alloc (.cells #[.int .u8 k, .string key, .string too, .int .i64 n, .slice B len cap] 47)).alloc (.cells #[.int .i64 a0, .int .i64 a1, .int .i64 a2, .int .i64 a3, .int .i64 a4, .int .i64 a5, .int .i64 a6, .int .i64 a7, .int .i64 a8] 23)).cell? ⟨w.heap.size, 4, none⟩ = some (.slice B len cap) := by simp [go_sem]
  have e5 : ((w.alloc (.cells #[.int .u8 k, .string key, .string too, .int .i64 n, .slice B len cap] 47)).alloc (.cells #[.int .i64 a0, .int .i64 a1, .int .i64 a2, .int .i64 a3, .int .i64 a4, .int .i64 a5, .int .i64 a6, .int .i64 a7, .int .i64 a8] 23)).cell? ⟨w.heap.size + 1, 0, none⟩ = some (.int .i64 a0) := by simp [go_sem]
  have e6 : ((w.alloc (.cells #[.int .u8 k, .string key, .string too, .int .i64 n, .slice B len cap] 47)).alloc (.cells #[.int .i64 a0, .int .i64 a1, .int .i64 a2, .int .i64 a3, .int .i64 a4, .int .i64 a5, .int .i64 a6, .int .i64 a7, .int .i64 a8] 23)).cell? ⟨w.heap.size + 1, 1, none⟩ = some (.int .i64 a1) := by simp [go_sem]
  have e7 : ((w.alloc (.cells #[.int .u8 k, .string key, .string too, .int .i64 n, .slice B len cap] 47)).alloc (.cells #[.int .i64 a0, .int .i64 a1, .int .i64 a2, .int .i64 a3, .int .i64 a4, .int .i64 a5, .int .i64 a6, .int .i64 a7, .int .i64 a8] 23)).cell? ⟨w.heap.size + 1, 2, none⟩ = some (.int .i64 a2) := by simp [go_sem]
  have e8 : ((w.alloc (.cells #[.int .u8 k, .string key, .string too, .int .i64 n, .slice B len cap] 47)).alloc (.cells #[.int .i64 a0, .int .i64 a1, .int .i64 a2, .int .i64 a3, .int .i64 a4, .int .i64 a5, .int .i64 a6, .int .i64 a7, .int .i64 a8] 23)).cell? ⟨w.heap.size + 1, 3, none⟩ = some (.int .i64 a3) := by simp [go_sem]
  have e9 : ((w.alloc (.cells #[.int .u8 k, .string key, .string too, .int .i64 n, .slice B len cap] 47)).alloc (.cells #[.int .i64 a0, .int .i64 a1, .int .i64 a2, .int .i64 a3, .int .i64 a4, .int .i64 a5, .int .i64 a6, .int .i64 a7, .int .i64 a8] 23)).cell? ⟨w.heap.size + 1, 4, none⟩ = some (.int .i64 a4) := by simp [go_sem]
  have e10 : ((w.alloc (.cells #[.int .u8 k, .string key, .string too, .int .i64 n, .slice B len cap] 47)).alloc (.cells #[.int .i64 a0, .int .i64 a1, .int .i64 a2, .int .i64 a3, .int .i64 a4, .int .i64 a5, .int .i64 a6, .int .i64 a7, .int .i64 a8] 23)).cell? ⟨w.heap.size + 1, 5, none⟩ = some (.int .i64 a5) := by simp [go_sem]
  have e11 : ((w.alloc (.cells #[.int .u8 k, .string key, .string too, .int .i64 n, .slice B len cap] 47)).alloc (.cells #[.int .i64 a0, .int .i64 a1, .int .i64 a2, .int .i64 a3, .int .i64 a4, .int .i64 a5, .int .i64 a6, .int .i64 a7, .int .i64 a8] 23)).cell? ⟨w.heap.size + 1, 6, none⟩ = some (.int .i64 a6) := by simp [go_sem]
  have e12 : ((w.alloc (.cells #[.int .u8 k, .string key, .string too, .int .i64 n, .slice B len cap] 47)).alloc (.cells #[.int .i64 a0, .int .i64 a1, .int .i64 a2, .int .i64 a3, .int .i64 a4, .int .i64 a5, .int .i64 a6, .int .i64 a7, .int .i64 a8] 23)).cell? ⟨w.heap.size + 1, 7, none⟩ = some (.int .i64 a7) := by simp [go_sem]
  have e13 : ((w.alloc (.cells #[.int .u8 k, .string key, .string too, .int .i64 n, .slice B len cap] 47)).alloc (.cells #[.int .i64 a0, .int .i64 a1, .int .i64 a2, .int .i64 a3, .int .i64 a4, .int .i64 a5, .int .i64 a6, .int .i64 a7, .int .i64 a8] 23)).cell? ⟨w.heap.size + 1, 8, none⟩ = some (.int .i64 a8) := by simp [go_sem]
  have hW : Below w.heap.size w ((w.alloc (.cells #[.int .u8 k, .string key, .string too, .int .i64 n, .slice B len cap] 47)).alloc (.cells #[.int .i64 a0, .int .i64 a1, .int .i64 a2, .int .i64 a3, .int .i64 a4, .int .i64 a5, .int .i64 a6, .int .i64 a7, .int .i64 a8] 23)) := by go_grown
  generalize ((w.alloc (.cells #[.int .u8 k, .string key, .string too, .int .i64 n, .slice B len cap] 47)).alloc (.cells #[.int .i64 a0, .int .i64 a1, .int .i64 a2, .int .i64 a3, .int .i64 a4, .int .i64 a5, .int .i64 a6, .int .i64 a7, .int .i64 a8] 23)) = W at *
  refine (PP.out _).mono ?_
  rintro e w1 ⟨rfl, hb⟩
  have d0 : w1.cell? ⟨w.heap.size, 0, none⟩ = some (.int .u8 k) := bel_later hb e0
  have d1 : w1.cell? ⟨w.heap.size, 1, none⟩ = some (.string key) := bel_later hb e1
  have d2 : w1.cell? ⟨w.heap.size, 2, none⟩ = some (.string too) := bel_later hb e2
  have d3 : w1.cell? ⟨w.heap.size, 3, none⟩ = some (.int .i64 n) := bel_later hb e3
  have d4 : w1.cell? ⟨w.heap.size, 4, none⟩ = some (.slice B len cap) := bel_later hb e4
  have d5 : w1.cell? ⟨w.heap.size + 1, 0, none⟩ = some (.int .i64 a0) := bel_later hb e5
  have d6 : w1.cell? ⟨w.heap.size + 1, 1, none⟩ = some (.int .i64 a1) := bel_later hb e6
  have d7 : w1.cell? ⟨w.heap.size + 1, 2, none⟩ = some (.int .i64 a2) := bel_later hb e7
  have d8 : w1.cell? ⟨w.heap.size + 1, 3, none⟩ = some (.int .i64 a3) := bel_later hb e8
  have d9 : w1.cell? ⟨w.heap.size + 1, 4, none⟩ = some (.int .i64 a4) := bel_later hb e9
  have d10 : w1.cell? ⟨w.heap.size + 1, 5, none⟩ = some (.int .i64 a5) := bel_later hb e10
  have d11 : w1.cell? ⟨w.heap.size + 1, 6, none⟩ = some (.int .i64 a6) := bel_later hb e11
  have d12 : w1.cell? ⟨w.heap.size + 1, 7, none⟩ = some (.int .i64 a7) := bel_later hb e12
  have d13 : w1.cell? ⟨w.heap.size + 1, 8, none⟩ = some (.int .i64 a8) := bel_later hb e13
  have hw1 : Below w.heap.size w w1 := bel_step hW hb (Nat.le_refl _)
  clear hb hW e0 e1 e2 e3 e4 e5 e6 e7 e8 e9 e10 e11 e12 e13
  go_wp2
  go_ret
  exact ⟨rfl, hw1⟩
set_option maxRecDepth 100000 in
set_option maxHeartbeats 4000000 in
theorem ask_1g (n a0 a1 a2 a3 a4 a5 a6 a7 a8 : Int) (key too : ByteArray) (B : Option Addr) (len cap : Nat) (l : List M) (w : World) (hl : l.length = len) (hA : MsL w w.heap.size B l) (hp : opureB 1 n key too len = true) (hR : rightS key a0 = true) :
    Calls Tryz.prog 31 #[.agg #[.int .u8 1, .string key, .string too, .int .i64 n, .slice B len cap], cfg a0 a1 a2 a3 a4 a5 a6 a7 a8] w fun e w' => e = .returned (.int .i64 0) ∧ Below w.heap.size w w' := by
  have HA := Lib.hid hA
  have P := fun W => opure_any 1 n key too B len cap W
  simp only [hp] at P
  have PP := Lib.hid P
  clear P hA
  clear hp
  have R := fun W => right_any key a0 W
  simp only [hR] at R
  have RR := Lib.hid R
  clear R hR
  go_enter Tryz.func31, Tryz.ntmps31
  go_wp2_with fail
  have e0 : ((w.alloc (.cells #[.int .u8 1, .string key, .string too, .int .i64 n, .slice B len cap] 47)).alloc (.cells #[.int .i64 a0, .int .i64 a1, .int .i64 a2, .int .i64 a3, .int .i64 a4, .int .i64 a5, .int .i64 a6, .int .i64 a7, .int .i64 a8] 23)).cell? ⟨w.heap.size, 0, none⟩ = some (.int .u8 1) := by simp [go_sem]
  have e1 : ((w.alloc (.cells #[.int .u8 1, .string key, .string too, .int .i64 n, .slice B len cap] 47)).alloc (.cells #[.int .i64 a0, .int .i64 a1, .int .i64 a2, .int .i64 a3, .int .i64 a4, .int .i64 a5, .int .i64 a6, .int .i64 a7, .int .i64 a8] 23)).cell? ⟨w.heap.size, 1, none⟩ = some (.string key) := by simp [go_sem]
  have e2 : ((w.alloc (.cells #[.int .u8 1, .string key, .string too, .int .i64 n, .slice B len cap] 47)).alloc (.cells #[.int .i64 a0, .int .i64 a1, .int .i64 a2, .int .i64 a3, .int .i64 a4, .int .i64 a5, .int .i64 a6, .int .i64 a7, .int .i64 a8] 23)).cell? ⟨w.heap.size, 2, none⟩ = some (.string too) := by simp [go_sem]
  have e3 : ((w.alloc (.cells #[.int .u8 1, .string key, .string too, .int .i64 n, .slice B len cap] 47)).alloc (.cells #[.int .i64 a0, .int .i64 a1, .int .i64 a2, .int .i64 a3, .int .i64 a4, .int .i64 a5, .int .i64 a6, .int .i64 a7, .int .i64 a8] 23)).cell? ⟨w.heap.size, 3, none⟩ = some (.int .i64 n) := by simp [go_sem]
  have e4 : ((w.alloc (.cells #[.int .u8 1, .string key, .string too, .int .i64 n, .slice B len cap] 47)).alloc (.cells #[.int .i64 a0, .int .i64 a1, .int .i64 a2, .int .i64 a3, .int .i64 a4, .int .i64 a5, .int .i64 a6, .int .i64 a7, .int .i64 a8] 23)).cell? ⟨w.heap.size, 4, none⟩ = some (.slice B len cap) := by simp [go_sem]
  have e5 : ((w.alloc (.cells #[.int .u8 1, .string key, .string too, .int .i64 n, .slice B len cap] 47)).alloc (.cells #[.int .i64 a0, .int .i64 a1, .int .i64 a2, .int .i64 a3, .int .i64 a4, .int .i64 a5, .int .i64 a6, .int .i64 a7, .int .i64 a8] 23)).cell? ⟨w.heap.size + 1, 0, none⟩ = some (.int .i64 a0) := by simp [go_sem]
  have e6 : ((w.alloc (.cells #[.int .u8 1, .string key, .string too, .int .i64 n, .slice B len cap] 47)).alloc (.cells #[.int .i64 a0, .int .i64 a1, .int .i64 a2, .int .i64 a3, .int .i64 a4, .int .i64 a5, .int .i64 a6, .int .i64 a7, .int .i64 a8] 23)).cell? ⟨w.heap.size + 1, 1, none⟩ = some (.int .i64 a1) := by simp [go_sem]
  have e7 : ((w.alloc (.cells #[.int .u8 1, .string key, .string too, .int .i64 n, .slice B len cap] 47)).alloc (.cells #[.int .i64 a0, .int .i64 a1, .int .i64 a2, .int .i64 a3, .int .i64 a4, .int .i64 a5, .int .i64 a6, .int .i64 a7, .int .i64 a8] 23)).cell? ⟨w.heap.size + 1, 2, none⟩ = some (.int .i64 a2) := by simp [go_sem]
  have e8 : ((w.alloc (.cells #[.int .u8 1, .string key, .string too, .int .i64 n, .slice B len cap] 47)).alloc (.cells #[.int .i64 a0, .int .i64 a1, .int .i64 a2, .int .i64 a3, .int .i64 a4, .int .i64 a5, .int .i64 a6, .int .i64 a7, .int .i64 a8] 23)).cell? ⟨w.heap.size + 1, 3, none⟩ = some (.int .i64 a3) := by simp [go_sem]
  have e9 : ((w.alloc (.cells #[.int .u8 1, .string key, .string too, .int .i64 n, .slice B len cap] 47)).alloc (.cells #[.int .i64 a0, .int .i64 a1, .int .i64 a2, .int .i64 a3, .int .i64 a4, .int .i64 a5, .int .i64 a6, .int .i64 a7, .int .i64 a8] 23)).cell? ⟨w.heap.size + 1, 4, none⟩ = some (.int .i64 a4) := by simp [go_sem]
  have e10 : ((w.alloc (.cells #[.int .u8 1, .string key, .string too, .int .i64 n, .slice B len cap] 47)).alloc (.cells #[.int .i64 a0, .int .i64 a1, .int .i64 a2, .int .i64 a3, .int .i64 a4, .int .i64 a5, .int .i64 a6, .int .i64 a7, .int .i64 a8] 23)).cell? ⟨w.heap.size + 1, 5, none⟩ = some (.int .i64 a5) := by simp [go_sem]
  have e11 : ((w.alloc (.cells #[.int .u8 1, .string key, .string too, .int .i64 n, .slice B len cap] 47)).alloc (.cells #[.int .i64 a0, .int .i64 a1, .int .i64 a2, .int .i64 a3, .int .i64 a4, .int .i64 a5, .int .i64 a6, .int .i64 a7, .int .i64 a8] 23)).cell? ⟨w.heap.size + 1, 6, none⟩ = some (.int .i64 a6) := by simp [go_sem]
  have e12 : ((w.alloc (.cells #[.int .u8 1, .string key, .string too, .int .i64 n, .slice B len cap] 47)).alloc (.cells #[.int .i64 a0, .int .i64 a1, .int .i64 a2, .int .i64 a3, .int .i64 a4, .int .i64 a5, .int .i64 a6, .int .i64 a7, .int .i64 a8] 23)).cell? ⟨w.heap.size + 1, 7, none⟩ = some (.int .i64 a7) := by simp [go_sem]
  have e13 : ((w.alloc (.cells #[.int .u8 1, .string key, .string too, .int .i64 n, .slice B len cap] 47)).alloc (.cells #[.int .i64 a0, .int .i64 a1, .int .i64 a2, .int .i64 a3, .int .i64 a4, .int .i64 a5, .int .i64 a6, .int .i64 a7, .int .i64 a8] 23)).cell? ⟨w.heap.size + 1, 8, none⟩ = some (.int .i64 a8) := by simp [go_sem]
  have hW : Below w.heap.size w ((w.alloc (.cells #[.int .u8 1, .string key, .string too, .int .i64 n, .slice B len cap] 47)).alloc (.cells #[.int .i64 a0, .int .i64 a1, .int .i64 a2, .int .i64 a3, .int .i64 a4, .int .i64 a5, .int .i64 a6, .int .i64 a7, .int .i64 a8] 23)) := by go_grown
  generalize ((w.alloc (.cells #[.int .u8 1, .string key, .string too, .int .i64 n, .slice B len cap] 47)).alloc (.cells #[.int .i64 a0, .int .i64 a1, .int .i64 a2, .int .i64 a3, .int .i64 a4, .int .i64 a5, .int .i64 a6, .int .i64 a7, .int .i64 a8] 23)) = W at *
  refine (PP.out _).mono ?_
  rintro e w1 ⟨rfl, hb⟩
  have d0 : w1.cell? ⟨w.heap.size, 0, none⟩ = some (.int .u8 1) := bel_later hb e0
  have d1 : w1.cell? ⟨w.heap.size, 1, none⟩ = some (.string key) := bel_later hb e1
  have d2 : w1.cell? ⟨w.heap.size, 2, none⟩ = some (.string too) := bel_later hb e2
  have d3 : w1.cell? ⟨w.heap.size, 3, none⟩ = some (.int .i64 n) := bel_later hb e3
  have d4 : w1.cell? ⟨w.heap.size, 4, none⟩ = some (.slice B len cap) := bel_later hb e4
  have d5 : w1.cell? ⟨w.heap.size + 1, 0, none⟩ = some (.int .i64 a0) := bel_later hb e5
  have d6 : w1.cell? ⟨w.heap.size + 1, 1, none⟩ = some (.int .i64 a1) := bel_later hb e6
  have d7 : w1.cell? ⟨w.heap.size + 1, 2, none⟩ = some (.int .i64 a2) := bel_later hb e7
  have d8 : w1.cell? ⟨w.heap.size + 1, 3, none⟩ = some (.int .i64 a3) := bel_later hb e8
  have d9 : w1.cell? ⟨w.heap.size + 1, 4, none⟩ = some (.int .i64 a4) := bel_later hb e9
  have d10 : w1.cell? ⟨w.heap.size + 1, 5, none⟩ = some (.int .i64 a5) := bel_later hb e10
  have d11 : w1.cell? ⟨w.heap.size + 1, 6, none⟩ = some (.int .i64 a6) := bel_later hb e11
  have d12 : w1.cell? ⟨w.heap.size + 1, 7, none⟩ = some (.int .i64 a7) := bel_later hb e12
  have d13 : w1.cell? ⟨w.heap.size + 1, 8, none⟩ = some (.int .i64 a8) := bel_later hb e13
  have hw1 : Below w.heap.size w w1 := bel_step hW hb (Nat.le_refl _)
  clear hb hW e0 e1 e2 e3 e4 e5 e6 e7 e8 e9 e10 e11 e12 e13
  go_wp2_with fail
  refine (RR.out _).mono ?_
  rintro e w2 ⟨rfl, rfl⟩
  go_wp2
  go_ret
  exact ⟨rfl, hw1⟩
set_option maxRecDepth 100000 in
set_option maxHeartbeats 4000000 in
theorem ask_1b (n a0 a1 a2 a3 a4 a5 a6 a7 a8 : Int) (key too : ByteArray) (B : Option Addr) (len cap : Nat) (l : List M) (w : World) (hl : l.length = len) (hA : MsL w w.heap.size B l) (hp : opureB 1 n key too len = true) (hR : rightS key a0 = false) :
    Calls Tryz.prog 31 #[.agg #[.int .u8 1, .string key, .string too, .int .i64 n, .slice B len cap], cfg a0 a1 a2 a3 a4 a5 a6 a7 a8] w fun e w' => e = .returned (.int .i64 6) ∧ Below w.heap.size w w' := by
  have HA := Lib.hid hA
  have P := fun W => opure_any 1 n key too B len cap W
  simp only [hp] at P
  have PP := Lib.hid P
  clear P hA
  clear hp
  have R := fun W => right_any key a0 W
  simp only [hR] at R
  have RR := Lib.hid R
  clear R hR
  go_enter Tryz.func31, Tryz.ntmps31
  go_wp2_with fail
  have e0 : ((w.alloc (.cells #[.int .u8 1, .string key, .string too, .int .i64 n, .slice B len cap] 47)).alloc (.cells #[.int .i64 a0, .int .i64 a1, .int .i64 a2, .int .i64 a3, .int .i64 a4, .int .i64 a5, .int .i64 a6, .int .i64 a7, .int .i64 a8] 23)).cell? ⟨w.heap.size, 0, none⟩ = some (.int .u8 1) := by simp [go_sem]
  have e1 : ((w.alloc (.cells #[.int .u8 1, .string key, .string too, .int .i64 n, .slice B len cap] 47)).alloc (.cells #[.int .i64 a0, .int .i64 a1, .int .i64 a2, .int .i64 a3, .int .i64 a4, .int .i64 a5, .int .i64 a6, .int .i64 a7, .int .i64 a8] 23)).cell? ⟨w.heap.size, 1, none⟩ = some (.string key) := by simp [go_sem]
  have e2 : ((w.alloc (.cells #[.int .u8 1, .string key, .string too, .int .i64 n, .slice B len cap] 47)).alloc (.cells #[.int .i64 a0, .int .i64 a1, .int .i64 a2, .int .i64 a3, .int .i64 a4, .int .i64 a5, .int .i64 a6, .int .i64 a7, .int .i64 a8] 23)).cell? ⟨w.heap.size, 2, none⟩ = some (.string too) := by simp [go_sem]
  have e3 : ((w.alloc (.cells #[.int .u8 1, .string key, .string too, .int .i64 n, .slice B len cap] 47)).alloc (.cells #[.int .i64 a0, .int .i64 a1, .int .i64 a2, .int .i64 a3, .int .i64 a4, .int .i64 a5, .int .i64 a6, .int .i64 a7, .int .i64 a8] 23)).cell? ⟨w.heap.size, 3, none⟩ = some (.int .i64 n) := by simp [go_sem]
  have e4 : ((w.alloc (.cells #[.int .u8 1, .string key, .string too, .int .i64 n, .slice B len cap] 47)).alloc (.cells #[.int .i64 a0, .int .i64 a1, .int .i64 a2, .int .i64 a3, .int .i64 a4, .int .i64 a5, .int .i64 a6, .int .i64 a7, .int .i64 a8] 23)).cell? ⟨w.heap.size, 4, none⟩ = some (.slice B len cap) := by simp [go_sem]
  have e5 : ((w.alloc (.cells #[.int .u8 1, .string key, .string too, .int .i64 n, .slice B len cap] 47)).alloc (.cells #[.int .i64 a0, .int .i64 a1, .int .i64 a2, .int .i64 a3, .int .i64 a4, .int .i64 a5, .int .i64 a6, .int .i64 a7, .int .i64 a8] 23)).cell? ⟨w.heap.size + 1, 0, none⟩ = some (.int .i64 a0) := by simp [go_sem]
  have e6 : ((w.alloc (.cells #[.int .u8 1, .string key, .string too, .int .i64 n, .slice B len cap] 47)).alloc (.cells #[.int .i64 a0, .int .i64 a1, .int .i64 a2, .int .i64 a3, .int .i64 a4, .int .i64 a5, .int .i64 a6, .int .i64 a7, .int .i64 a8] 23)).cell? ⟨w.heap.size + 1, 1, none⟩ = some (.int .i64 a1) := by simp [go_sem]
  have e7 : ((w.alloc (.cells #[.int .u8 1, .string key, .string too, .int .i64 n, .slice B len cap] 47)).alloc (.cells #[.int .i64 a0, .int .i64 a1, .int .i64 a2, .int .i64 a3, .int .i64 a4, .int .i64 a5, .int .i64 a6, .int .i64 a7, .int .i64 a8] 23)).cell? ⟨w.heap.size + 1, 2, none⟩ = some (.int .i64 a2) := by simp [go_sem]
  have e8 : ((w.alloc (.cells #[.int .u8 1, .string key, .string too, .int .i64 n, .slice B len cap] 47)).alloc (.cells #[.int .i64 a0, .int .i64 a1, .int .i64 a2, .int .i64 a3, .int .i64 a4, .int .i64 a5, .int .i64 a6, .int .i64 a7, .int .i64 a8] 23)).cell? ⟨w.heap.size + 1, 3, none⟩ = some (.int .i64 a3) := by simp [go_sem]
  have e9 : ((w.alloc (.cells #[.int .u8 1, .string key, .string too, .int .i64 n, .slice B len cap] 47)).alloc (.cells #[.int .i64 a0, .int .i64 a1, .int .i64 a2, .int .i64 a3, .int .i64 a4, .int .i64 a5, .int .i64 a6, .int .i64 a7, .int .i64 a8] 23)).cell? ⟨w.heap.size + 1, 4, none⟩ = some (.int .i64 a4) := by simp [go_sem]
  have e10 : ((w.alloc (.cells #[.int .u8 1, .string key, .string too, .int .i64 n, .slice B len cap] 47)).alloc (.cells #[.int .i64 a0, .int .i64 a1, .int .i64 a2, .int .i64 a3, .int .i64 a4, .int .i64 a5, .int .i64 a6, .int .i64 a7, .int .i64 a8] 23)).cell? ⟨w.heap.size + 1, 5, none⟩ = some (.int .i64 a5) := by simp [go_sem]
  have e11 : ((w.alloc (.cells #[.int .u8 1, .string key, .string too, .int .i64 n, .slice B len cap] 47)).alloc (.cells #[.int .i64 a0, .int .i64 a1, .int .i64 a2, .int .i64 a3, .int .i64 a4, .int .i64 a5, .int .i64 a6, .int .i64 a7, .int .i64 a8] 23)).cell? ⟨w.heap.size + 1, 6, none⟩ = some (.int .i64 a6) := by simp [go_sem]
  have e12 : ((w.alloc (.cells #[.int .u8 1, .string key, .string too, .int .i64 n, .slice B len cap] 47)).alloc (.cells #[.int .i64 a0, .int .i64 a1, .int .i64 a2, .int .i64 a3, .int .i64 a4, .int .i64 a5, .int .i64 a6, .int .i64 a7, .int .i64 a8] 23)).cell? ⟨w.heap.size + 1, 7, none⟩ = some (.int .i64 a7) := by simp [go_sem]
  have e13 : ((w.alloc (.cells #[.int .u8 1, .string key, .string too, .int .i64 n, .slice B len cap] 47)).alloc (.cells #[.int .i64 a0, .int .i64 a1, .int .i64 a2, .int .i64 a3, .int .i64 a4, .int .i64 a5, .int .i64 a6, .int .i64 a7, .int .i64 a8] 23)).cell? ⟨w.heap.size + 1, 8, none⟩ = some (.int .i64 a8) := by simp [go_sem]
  have hW : Below w.heap.size w ((w.alloc (.cells #[.int .u8 1, .string key, .string too, .int .i64 n, .slice B len cap] 47)).alloc (.cells #[.int .i64 a0, .int .i64 a1, .int .i64 a2, .int .i64 a3, .int .i64 a4, .int .i64 a5, .int .i64 a6, .int .i64 a7, .int .i64 a8] 23)) := by go_grown
  generalize ((w.alloc (.cells #[.int .u8 1, .string key, .string too, .int .i64 n, .slice B len cap] 47)).alloc (.cells #[.int .i64 a0, .int .i64 a1, .int .i64 a2, .int .i64 a3, .int .i64 a4, .int .i64 a5, .int .i64 a6, .int .i64 a7, .int .i64 a8] 23)) = W at *
  refine (PP.out _).mono ?_
  rintro e w1 ⟨rfl, hb⟩
  have d0 : w1.cell? ⟨w.heap.size, 0, none⟩ = some (.int .u8 1) := bel_later hb e0
  have d1 : w1.cell? ⟨w.heap.size, 1, none⟩ = some (.string key) := bel_later hb e1
  have d2 : w1.cell? ⟨w.heap.size, 2, none⟩ = some (.string too) := bel_later hb e2
  have d3 : w1.cell? ⟨w.heap.size, 3, none⟩ = some (.int .i64 n) := bel_later hb e3
  have d4 : w1.cell? ⟨w.heap.size, 4, none⟩ = some (.slice B len cap) := bel_later hb e4
  have d5 : w1.cell? ⟨w.heap.size + 1, 0, none⟩ = some (.int .i64 a0) := bel_later hb e5
  have d6 : w1.cell? ⟨w.heap.size + 1, 1, none⟩ = some (.int .i64 a1) := bel_later hb e6
  have d7 : w1.cell? ⟨w.heap.size + 1, 2, none⟩ = some (.int .i64 a2) := bel_later hb e7
  have d8 : w1.cell? ⟨w.heap.size + 1, 3, none⟩ = some (.int .i64 a3) := bel_later hb e8
  have d9 : w1.cell? ⟨w.heap.size + 1, 4, none⟩ = some (.int .i64 a4) := bel_later hb e9
  have d10 : w1.cell? ⟨w.heap.size + 1, 5, none⟩ = some (.int .i64 a5) := bel_later hb e10
  have d11 : w1.cell? ⟨w.heap.size + 1, 6, none⟩ = some (.int .i64 a6) := bel_later hb e11
  have d12 : w1.cell? ⟨w.heap.size + 1, 7, none⟩ = some (.int .i64 a7) := bel_later hb e12
  have d13 : w1.cell? ⟨w.heap.size + 1, 8, none⟩ = some (.int .i64 a8) := bel_later hb e13
  have hw1 : Below w.heap.size w w1 := bel_step hW hb (Nat.le_refl _)
  clear hb hW e0 e1 e2 e3 e4 e5 e6 e7 e8 e9 e10 e11 e12 e13
  go_wp2_with fail
  refine (RR.out _).mono ?_
  rintro e w2 ⟨rfl, rfl⟩
  go_wp2
  go_ret
  exact ⟨rfl, hw1⟩
set_option maxRecDepth 100000 in
set_option maxHeartbeats 4000000 in
theorem ask_2 (n a0 a1 a2 a3 a4 a5 a6 a7 a8 : Int) (key too : ByteArray) (B : Option Addr) (len cap : Nat) (l : List M) (w : World) (hl : l.length = len) (hA : MsL w w.heap.size B l) (hp : opureB 2 n key too len = true) :
    Calls Tryz.prog 31 #[.agg #[.int .u8 2, .string key, .string too, .int .i64 n, .slice B len cap], cfg a0 a1 a2 a3 a4 a5 a6 a7 a8] w fun e w' => e = .returned (.int .i64 (abF a0 a1 l)) ∧ Below w.heap.size w w' := by
  have HA := Lib.hid hA
  have P := fun W => opure_any 2 n key too B len cap W
  simp only [hp] at P
  have PP := Lib.hid P
  clear P hA
  clear hp
  have AB := Lib.hid (fun W h => askBatch_any a0 a1 a2 a3 a4 a5 a6 a7 a8 B len cap l W hl h)
  obtain ⟨r, hr⟩ : ∃ r, r = abF a0 a1 l := ⟨_, rfl⟩
  rw [← hr] at AB ⊢
  clear hr
  go_enter Tryz.func31, Tryz.ntmps31
  go_wp2_with fail
  have e0 : ((w.alloc (.cells #[.int .u8 2, .string key, .string too, .int .i64 n, .slice B len cap] 47)).alloc (.cells #[.int .i64 a0, .int .i64 a1, .int .i64 a2, .int .i64 a3, .int .i64 a4, .int .i64 a5, .int .i64 a6, .int .i64 a7, .int .i64 a8] 23)).cell? ⟨w.heap.size, 0, none⟩ = some (.int .u8 2) := by simp [go_sem]
  have e1 : ((w.alloc (.cells #[.int .u8 2, .string key, .string too, .int .i64 n, .slice B len cap] 47)).alloc (.cells #[.int .i64 a0, .int .i64 a1, .int .i64 a2, .int .i64 a3, .int .i64 a4, .int .i64 a5, .int .i64 a6, .int .i64 a7, .int .i64 a8] 23)).cell? ⟨w.heap.size, 1, none⟩ = some (.string key) := by simp [go_sem]
  have e2 : ((w.alloc (.cells #[.int .u8 2, .string key, .string too, .int .i64 n, .slice B len cap] 47)).alloc (.cells #[.int .i64 a0, .int .i64 a1, .int .i64 a2, .int .i64 a3, .int .i64 a4, .int .i64 a5, .int .i64 a6, .int .i64 a7, .int .i64 a8] 23)).cell? ⟨w.heap.size, 2, none⟩ = some (.string too) := by simp [go_sem]
  have e3 : ((w.alloc (.cells #[.int .u8 2, .string key, .string too, .int .i64 n, .slice B len cap] 47)).alloc (.cells #[.int .i64 a0, .int .i64 a1, .int .i64 a2, .int .i64 a3, .int .i64 a4, .int .i64 a5, .int .i64 a6, .int .i64 a7, .int .i64 a8] 23)).cell? ⟨w.heap.size, 3, none⟩ = some (.int .i64 n) := by simp [go_sem]
  have e4 : ((w.alloc (.cells #[.int .u8 2, .string key, .string too, .int .i64 n, .slice B len cap] 47)).alloc (.cells #[.int .i64 a0, .int .i64 a1, .int .i64 a2, .int .i64 a3, .int .i64 a4, .int .i64 a5, .int .i64 a6, .int .i64 a7, .int .i64 a8] 23)).cell? ⟨w.heap.size, 4, none⟩ = some (.slice B len cap) := by simp [go_sem]
  have e5 : ((w.alloc (.cells #[.int .u8 2, .string key, .string too, .int .i64 n, .slice B len cap] 47)).alloc (.cells #[.int .i64 a0, .int .i64 a1, .int .i64 a2, .int .i64 a3, .int .i64 a4, .int .i64 a5, .int .i64 a6, .int .i64 a7, .int .i64 a8] 23)).cell? ⟨w.heap.size + 1, 0, none⟩ = some (.int .i64 a0) := by simp [go_sem]
  have e6 : ((w.alloc (.cells #[.int .u8 2, .string key, .string too, .int .i64 n, .slice B len cap] 47)).alloc (.cells #[.int .i64 a0, .int .i64 a1, .int .i64 a2, .int .i64 a3, .int .i64 a4, .int .i64 a5, .int .i64 a6, .int .i64 a7, .int .i64 a8] 23)).cell? ⟨w.heap.size + 1, 1, none⟩ = some (.int .i64 a1) := by simp [go_sem]
  have e7 : ((w.alloc (.cells #[.int .u8 2, .string key, .string too, .int .i64 n, .slice B len cap] 47)).alloc (.cells #[.int .i64 a0, .int .i64 a1, .int .i64 a2, .int .i64 a3, .int .i64 a4, .int .i64 a5, .int .i64 a6, .int .i64 a7, .int .i64 a8] 23)).cell? ⟨w.heap.size + 1, 2, none⟩ = some (.int .i64 a2) := by simp [go_sem]
  have e8 : ((w.alloc (.cells #[.int .u8 2, .string key, .string too, .int .i64 n, .slice B len cap] 47)).alloc (.cells #[.int .i64 a0, .int .i64 a1, .int .i64 a2, .int .i64 a3, .int .i64 a4, .int .i64 a5, .int .i64 a6, .int .i64 a7, .int .i64 a8] 23)).cell? ⟨w.heap.size + 1, 3, none⟩ = some (.int .i64 a3) := by simp [go_sem]
  have e9 : ((w.alloc (.cells #[.int .u8 2, .string key, .string too, .int .i64 n, .slice B len cap] 47)).alloc (.cells #[.int .i64 a0, .int .i64 a1, .int .i64 a2, .int .i64 a3, .int .i64 a4, .int .i64 a5, .int .i64 a6, .int .i64 a7, .int .i64 a8] 23)).cell? ⟨w.heap.size + 1, 4, none⟩ = some (.int .i64 a4) := by simp [go_sem]
  have e10 : ((w.alloc (.cells #[.int .u8 2, .string key, .string too, .int .i64 n, .slice B len cap] 47)).alloc (.cells #[.int .i64 a0, .int .i64 a1, .int .i64 a2, .int .i64 a3, .int .i64 a4, .int .i64 a5, .int .i64 a6, .int .i64 a7, .int .i64 a8] 23)).cell? ⟨w.heap.size + 1, 5, none⟩ = some (.int .i64 a5) := by simp [go_sem]
  have e11 : ((w.alloc (.cells #[.int .u8 2, .string key, .string too, .int .i64 n, .slice B len cap] 47)).alloc (.cells #[.int .i64 a0, .int .i64 a1, .int .i64 a2, .int .i64 a3, .int .i64 a4, .int .i64 a5, .int .i64 a6, .int .i64 a7, .int .i64 a8] 23)).cell? ⟨w.heap.size + 1, 6, none⟩ = some (.int .i64 a6) := by simp [go_sem]
  have e12 : ((w.alloc (.cells #[.int .u8 2, .string key, .string too, .int .i64 n, .slice B len cap] 47)).alloc (.cells #[.int .i64 a0, .int .i64 a1, .int .i64 a2, .int .i64 a3, .int .i64 a4, .int .i64 a5, .int .i64 a6, .int .i64 a7, .int .i64 a8] 23)).cell? ⟨w.heap.size + 1, 7, none⟩ = some (.int .i64 a7) := by simp [go_sem]
  have e13 : ((w.alloc (.cells #[.int .u8 2, .string key, .string too, .int .i64 n, .slice B len cap] 47)).alloc (.cells #[.int .i64 a0, .int .i64 a1, .int .i64 a2, .int .i64 a3, .int .i64 a4, .int .i64 a5, .int .i64 a6, .int .i64 a7, .int .i64 a8] 23)).cell? ⟨w.heap.size + 1, 8, none⟩ = some (.int .i64 a8) := by simp [go_sem]
  have hW : Below w.heap.size w ((w.alloc (.cells #[.int .u8 2, .string key, .string too, .int .i64 n, .slice B len cap] 47)).alloc (.cells #[.int .i64 a0, .int .i64 a1, .int .i64 a2, .int .i64 a3, .int .i64 a4, .int .i64 a5, .int .i64 a6, .int .i64 a7, .int .i64 a8] 23)) := by go_grown
  generalize ((w.alloc (.cells #[.int .u8 2, .string key, .string too, .int .i64 n, .slice B len cap] 47)).alloc (.cells #[.int .i64 a0, .int .i64 a1, .int .i64 a2, .int .i64 a3, .int .i64 a4, .int .i64 a5, .int .i64 a6, .int .i64 a7, .int .i64 a8] 23)) = W at *
  refine (PP.out _).mono ?_
  rintro e w1 ⟨rfl, hb⟩
  have d0 : w1.cell? ⟨w.heap.size, 0, none⟩ = some (.int .u8 2) := bel_later hb e0
  have d1 : w1.cell? ⟨w.heap.size, 1, none⟩ = some (.string key) := bel_later hb e1
  have d2 : w1.cell? ⟨w.heap.size, 2, none⟩ = some (.string too) := bel_later hb e2
  have d3 : w1.cell? ⟨w.heap.size, 3, none⟩ = some (.int .i64 n) := bel_later hb e3
  have d4 : w1.cell? ⟨w.heap.size, 4, none⟩ = some (.slice B len cap) := bel_later hb e4
  have d5 : w1.cell? ⟨w.heap.size + 1, 0, none⟩ = some (.int .i64 a0) := bel_later hb e5
  have d6 : w1.cell? ⟨w.heap.size + 1, 1, none⟩ = some (.int .i64 a1) := bel_later hb e6
  have d7 : w1.cell? ⟨w.heap.size + 1, 2, none⟩ = some (.int .i64 a2) := bel_later hb e7
  have d8 : w1.cell? ⟨w.heap.size + 1, 3, none⟩ = some (.int .i64 a3) := bel_later hb e8
  have d9 : w1.cell? ⟨w.heap.size + 1, 4, none⟩ = some (.int .i64 a4) := bel_later hb e9
  have d10 : w1.cell? ⟨w.heap.size + 1, 5, none⟩ = some (.int .i64 a5) := bel_later hb e10
  have d11 : w1.cell? ⟨w.heap.size + 1, 6, none⟩ = some (.int .i64 a6) := bel_later hb e11
  have d12 : w1.cell? ⟨w.heap.size + 1, 7, none⟩ = some (.int .i64 a7) := bel_later hb e12
  have d13 : w1.cell? ⟨w.heap.size + 1, 8, none⟩ = some (.int .i64 a8) := bel_later hb e13
  have hw1 : Below w.heap.size w w1 := bel_step hW hb (Nat.le_refl _)
  clear hb hW e0 e1 e2 e3 e4 e5 e6 e7 e8 e9 e10 e11 e12 e13
  go_wp2_with fail
  refine (AB.out _ (HA.out.keep hw1)).mono ?_
  rintro e w2 ⟨rfl, hb2⟩
  have hw2 : Below w.heap.size w w2 := bel_step hw1 hb2 (Nat.le_refl _)
  go_wp2
  go_ret
  exact ⟨rfl, hw2⟩
set_option maxRecDepth 100000 in
set_option maxHeartbeats 4000000 in
theorem ask_3 (n a0 a1 a2 a3 a4 a5 a6 a7 a8 : Int) (key too : ByteArray) (B : Option Addr) (len cap : Nat) (l : List M) (w : World) (hl : l.length = len) (hA : MsL w w.heap.size B l) (hp : opureB 3 n key too len = true) :
    Calls Tryz.prog 31 #[.agg #[.int .u8 3, .string key, .string too, .int .i64 n, .slice B len cap], cfg a0 a1 a2 a3 a4 a5 a6 a7 a8] w fun e w' => e = .returned (.int .i64 (arF 3 n a0 a8 key too)) ∧ Below w.heap.size w w' := by
  have HA := Lib.hid hA
  have P := fun W => opure_any 3 n key too B len cap W
  simp only [hp] at P
  have PP := Lib.hid P
  clear P hA
  clear hp
  have AR := Lib.hid (fun W => askRange_any 3 n a0 a1 a2 a3 a4 a5 a6 a7 a8 key too B len cap W)
  obtain ⟨r, hr⟩ : ∃ r, r = arF 3 n a0 a8 key too := ⟨_, rfl⟩
  rw [← hr] at AR ⊢
  clear hr
  go_enter Tryz.func31, Tryz.ntmps31
  go_wp2_with fail
  have e0 : ((w.alloc (.cells #[.int .u8 3, .string key, .string too, .int .i64 n, .slice B len cap] 47)).alloc (.cells #[.int .i64 a0, .int .i64 a1, .int .i64 a2, .int .i64 a3, .int .i64 a4, .int .i64 a5, .int .i64 a6, .int .i64 a7, .int .i64 a8] 23)).cell? ⟨w.heap.size, 0, none⟩ = some (.int .u8 3) := by simp [go_sem]
  have e1 : ((w.alloc (.cells #[.int .u8 3, .string key, .string too, .int .i64 n, .slice B len cap] 47)).alloc (.cells #[.int .i64 a0, .int .i64 a1, .int .i64 a2, .int .i64 a3, .int .i64 a4, .int .i64 a5, .int .i64 a6, .int .i64 a7, .int .i64 a8] 23)).cell? ⟨w.heap.size, 1, none⟩ = some (.string key) := by simp [go_sem]
  have e2 : ((w.alloc (.cells #[.int .u8 3, .string key, .string too, .int .i64 n, .slice B len cap] 47)).alloc (.cells #[.int .i64 a0, .int .i64 a1, .int .i64 a2, .int .i64 a3, .int .i64 a4, .int .i64 a5, .int .i64 a6, .int .i64 a7, .int .i64 a8] 23)).cell? ⟨w.heap.size, 2, none⟩ = some (.string too) := by simp [go_sem]
  have e3 : ((w.alloc (.cells #[.int .u8 3, .string key, .string too, .int .i64 n, .slice B len cap] 47)).alloc (.cells #[.int .i64 a0, .int .i64 a1, .int .i64 a2, .int .i64 a3, .int .i64 a4, .int .i64 a5, .int .i64 a6, .int .i64 a7, .int .i64 a8] 23)).cell? ⟨w.heap.size, 3, none⟩ = some (.int .i64 n) := by simp [go_sem]
  have e4 : ((w.alloc (.cells #[.int .u8 3, .string key, .string too, .int .i64 n, .slice B len cap] 47)).alloc (.cells #[.int .i64 a0, .int .i64 a1, .int .i64 a2, .int .i64 a3, .int .i64 a4, .int .i64 a5, .int .i64 a6, .int .i64 a7, .int .i64 a8] 23)).cell? ⟨w.heap.size, 4, none⟩ = some (.slice B len cap) := by simp [go_sem]
  have e5 : ((w.alloc (.cells #[.int .u8 3, .string key, .string too, .int .i64 n, .slice B len cap] 47)).alloc (.cells #[.int .i64 a0, .int .i64 a1, .int .i64 a2, .int .i64 a3, .int .i64 a4, .int .i64 a5, .int .i64 a6, .int .i64 a7, .int .i64 a8] 23)).cell? ⟨w.heap.size + 1, 0, none⟩ = some (.int .i64 a0) := by simp [go_sem]
  have e6 : ((w.alloc (.cells #[.int .u8 3, .string key, .string too, .int .i64 n, .slice B len cap] 47)).alloc (.cells #[.int .i64 a0, .int .i64 a1, .int .i64 a2, .int .i64 a3, .int .i64 a4, .int .i64 a5, .int .i64 a6, .int .i64 a7, .int .i64 a8] 23)).cell? ⟨w.heap.size + 1, 1, none⟩ = some (.int .i64 a1) := by simp [go_sem]
  have e7 : ((w.alloc (.cells #[.int .u8 3, .string key, .string too, .int .i64 n, .slice B len cap] 47)).alloc (.cells #[.int .i64 a0, .int .i64 a1, .int .i64 a2, .int .i64 a3, .int .i64 a4, .int .i64 a5, .int .i64 a6, .int .i64 a7, .int .i64 a8] 23)).cell? ⟨w.heap.size + 1, 2, none⟩ = some (.int .i64 a2) := by simp [go_sem]
  have e8 : ((w.alloc (.cells #[.int .u8 3, .string key, .string too, .int .i64 n, .slice B len cap] 47)).alloc (.cells #[.int .i64 a0, .int .i64 a1, .int .i64 a2, .int .i64 a3, .int .i64 a4, .int .i64 a5, .int .i64 a6, .int .i64 a7, .int .i64 a8] 23)).cell? ⟨w.heap.size + 1, 3, none⟩ = some (.int .i64 a3) := by simp [go_sem]
  have e9 : ((w.alloc (.cells #[.int .u8 3, .string key, .string too, .int .i64 n, .slice B len cap] 47)).alloc (.cells #[.int .i64 a0, .int .i64 a1, .int .i64 a2, .int .i64 a3, .int .i64 a4, .int .i64 a5, .int .i64 a6, .int .i64 a7, .int .i64 a8] 23)).cell? ⟨w.heap.size + 1, 4, none⟩ = some (.int .i64 a4) := by simp [go_sem]
  have e10 : ((w.alloc (.cells #[.int .u8 3, .string key, .string too, .int .i64 n, .slice B len cap] 47)).alloc (.cells #[.int .i64 a0, .int .i64 a1, .int .i64 a2, .int .i64 a3, .int .i64 a4, .int .i64 a5, .int .i64 a6, .int .i64 a7, .int .i64 a8] 23)).cell? ⟨w.heap.size + 1, 5, none⟩ = some (.int .i64 a5) := by simp [go_sem]
  have e11 : ((w.alloc (.cells #[.int .u8 3, .string key, .string too, .int .i64 n, .slice B len cap] 47)).alloc (.cells #[.int .i64 a0, .int .i64 a1, .int .i64 a2, .int .i64 a3, .int .i64 a4, .int .i64 a5, .int .i64 a6, .int .i64 a7, .int .i64 a8] 23)).cell? ⟨w.heap.size + 1, 6, none⟩ = some (.int .i64 a6) := by simp [go_sem]
  have e12 : ((w.alloc (.cells #[.int .u8 3, .string key, .string too, .int .i64 n, .slice B len cap] 47)).alloc (.cells #[.int .i64 a0, .int .i64 a1, .int .i64 a2, .int .i64 a3, .int .i64 a4, .int .i64 a5, .int .i64 a6, .int .i64 a7, .int .i64 a8] 23)).cell? ⟨w.heap.size + 1, 7, none⟩ = some (.int .i64 a7) := by simp [go_sem]
  have e13 : ((w.alloc (.cells #[.int .u8 3, .string key, .string too, .int .i64 n, .slice B len cap] 47)).alloc (.cells #[.int .i64 a0, .int .i64 a1, .int .i64 a2, .int .i64 a3, .int .i64 a4, .int .i64 a5, .int .i64 a6, .int .i64 a7, .int .i64 a8] 23)).cell? ⟨w.heap.size + 1, 8, none⟩ = some (.int .i64 a8) := by simp [go_sem]
  have hW : Below w.heap.size w ((w.alloc (.cells #[.int .u8 3, .string key, .string too, .int .i64 n, .slice B len cap] 47)).alloc (.cells #[.int .i64 a0, .int .i64 a1, .int .i64 a2, .int .i64 a3, .int .i64 a4, .int .i64 a5, .int .i64 a6, .int .i64 a7, .int .i64 a8] 23)) := by go_grown
  generalize ((w.alloc (.cells #[.int .u8 3, .string key, .string too, .int .i64 n, .slice B len cap] 47)).alloc (.cells #[.int .i64 a0, .int .i64 a1, .int .i64 a2, .int .i64 a3, .int .i64 a4, .int .i64 a5, .int .i64 a6, .int .i64 a7, .int .i64 a8] 23)) = W at *
  refine (PP.out _).mono ?_
  rintro e w1 ⟨rfl, hb⟩
  have d0 : w1.cell? ⟨w.heap.size, 0, none⟩ = some (.int .u8 3) := bel_later hb e0
  have d1 : w1.cell? ⟨w.heap.size, 1, none⟩ = some (.string key) := bel_later hb e1
  have d2 : w1.cell? ⟨w.heap.size, 2, none⟩ = some (.string too) := bel_later hb e2
  have d3 : w1.cell? ⟨w.heap.size, 3, none⟩ = some (.int .i64 n) := bel_later hb e3
  have d4 : w1.cell? ⟨w.heap.size, 4, none⟩ = some (.slice B len cap) := bel_later hb e4
  have d5 : w1.cell? ⟨w.heap.size + 1, 0, none⟩ = some (.int .i64 a0) := bel_later hb e5
  have d6 : w1.cell? ⟨w.heap.size + 1, 1, none⟩ = some (.int .i64 a1) := bel_later hb e6
  have d7 : w1.cell? ⟨w.heap.size + 1, 2, none⟩ = some (.int .i64 a2) := bel_later hb e7
  have d8 : w1.cell? ⟨w.heap.size + 1, 3, none⟩ = some (.int .i64 a3) := bel_later hb e8
  have d9 : w1.cell? ⟨w.heap.size + 1, 4, none⟩ = some (.int .i64 a4) := bel_later hb e9
  have d10 : w1.cell? ⟨w.heap.size + 1, 5, none⟩ = some (.int .i64 a5) := bel_later hb e10
  have d11 : w1.cell? ⟨w.heap.size + 1, 6, none⟩ = some (.int .i64 a6) := bel_later hb e11
  have d12 : w1.cell? ⟨w.heap.size + 1, 7, none⟩ = some (.int .i64 a7) := bel_later hb e12
  have d13 : w1.cell? ⟨w.heap.size + 1, 8, none⟩ = some (.int .i64 a8) := bel_later hb e13
  have hw1 : Below w.heap.size w w1 := bel_step hW hb (Nat.le_refl _)
  clear hb hW e0 e1 e2 e3 e4 e5 e6 e7 e8 e9 e10 e11 e12 e13
  go_wp2_with fail
  refine (AR.out _).mono ?_
  rintro e w2 ⟨rfl, hb2⟩
  have hw2 : Below w.heap.size w w2 := bel_step hw1 hb2 (Nat.le_refl _)
  go_wp2
  go_ret
  exact ⟨rfl, hw2⟩
set_option maxRecDepth 100000 in
set_option maxHeartbeats 4000000 in
theorem ask_4 (n a0 a1 a2 a3 a4 a5 a6 a7 a8 : Int) (key too : ByteArray) (B : Option Addr) (len cap : Nat) (l : List M) (w : World) (hl : l.length = len) (hA : MsL w w.heap.size B l) (hp : opureB 4 n key too len = true) :
    Calls Tryz.prog 31 #[.agg #[.int .u8 4, .string key, .string too, .int .i64 n, .slice B len cap], cfg a0 a1 a2 a3 a4 a5 a6 a7 a8] w fun e w' => e = .returned (.int .i64 (arF 4 n a0 a8 key too)) ∧ Below w.heap.size w w' := by
  have HA := Lib.hid hA
  have P := fun W => opure_any 4 n key too B len cap W
  simp only [hp] at P
  have PP := Lib.hid P
  clear P hA
  clear hp
  have AR := Lib.hid (fun W => askRange_any 4 n a0 a1 a2 a3 a4 a5 a6 a7 a8 key too B len cap W)
  obtain ⟨r, hr⟩ : ∃ r, r = arF 4 n a0 a8 key too := ⟨_, rfl⟩
  rw [← hr] at AR ⊢
  clear hr
  go_enter Tryz.func31, Tryz.ntmps31
  go_wp2_with fail
  have e0 : ((w.alloc (.cells #[.int .u8 4, .string key, .string too, .int .i64 n, .slice B len cap] 47)).alloc (.cells #[.int .i64 a0, .int .i64 a1, .int .i64 a2, .int .i64 a3, .int .i64 a4, .int .i64 a5, .int .i64 a6, .int .i64 a7, .int .i64 a8] 23)).cell? ⟨w.heap.size, 0, none⟩ = some (.int .u8 4) := by simp [go_sem]
  have e1 : ((w.alloc (.cells #[.int .u8 4, .string key, .string too, .int .i64 n, .slice B len cap] 47)).alloc (.cells #[.int .i64 a0, .int .i64 a1, .int .i64 a2, .int .i64 a3, .int .i64 a4, .int .i64 a5, .int .i64 a6, .int .i64 a7, .int .i64 a8] 23)).cell? ⟨w.heap.size, 1, none⟩ = some (.string key) := by simp [go_sem]
  have e2 : ((w.alloc (.cells #[.int .u8 4, .string key, .string too, .int .i64 n, .slice B len cap] 47)).alloc (.cells #[.int .i64 a0, .int .i64 a1, .int .i64 a2, .int .i64 a3, .int .i64 a4, .int .i64 a5, .int .i64 a6, .int .i64 a7, .int .i64 a8] 23)).cell? ⟨w.heap.size, 2, none⟩ = some (.string too) := by simp [go_sem]
  have e3 : ((w.alloc (.cells #[.int .u8 4, .string key, .string too, .int .i64 n, .slice B len cap] 47)).alloc (.cells #[.int .i64 a0, .int .i64 a1, .int .i64 a2, .int .i64 a3, .int .i64 a4, .int .i64 a5, .int .i64 a6, .int .i64 a7, .int .i64 a8] 23)).cell? ⟨w.heap.size, 3, none⟩ = some (.int .i64 n) := by simp [go_sem]
  have e4 : ((w.alloc (.cells #[.int .u8 4, .string key, .string too, .int .i64 n, .slice B len cap] 47)).alloc (.cells #[.int .i64 a0, .int .i64 a1, .int .i64 a2, .int .i64 a3, .int .i64 a4, .int .i64 a5, .int .i64 a6, .int .i64 a7, .int .i64 a8] 23)).cell? ⟨w.heap.size, 4, none⟩ = some (.slice B len cap) := by simp [go_sem]
  have e5 : ((w.alloc (.cells #[.int .u8 4, .string key, .string too, .int .i64 n, .slice B len cap] 47)).alloc (.cells #[.int .i64 a0, .int .i64 a1, .int .i64 a2, .int .i64 a3, .int .i64 a4, .int .i64 a5, .int .i64 a6, .int .i64 a7, .int .i64 a8] 23)).cell? ⟨w.heap.size + 1, 0, none⟩ = some (.int .i64 a0) := by simp [go_sem]
  have e6 : ((w.alloc (.cells #[.int .u8 4, .string key, .string too, .int .i64 n, .slice B len cap] 47)).alloc (.cells #[.int .i64 a0, .int .i64 a1, .int .i64 a2, .int .i64 a3, .int .i64 a4, .int .i64 a5, .int .i64 a6, .int .i64 a7, .int .i64 a8] 23)).cell? ⟨w.heap.size + 1, 1, none⟩ = some (.int .i64 a1) := by simp [go_sem]
  have e7 : ((w.alloc (.cells #[.int .u8 4, .string key, .string too, .int .i64 n, .slice B len cap] 47)).alloc (.cells #[.int .i64 a0, .int .i64 a1, .int .i64 a2, .int .i64 a3, .int .i64 a4, .int .i64 a5, .int .i64 a6, .int .i64 a7, .int .i64 a8] 23)).cell? ⟨w.heap.size + 1, 2, none⟩ = some (.int .i64 a2) := by simp [go_sem]
  have e8 : ((w.alloc (.cells #[.int .u8 4, .string key, .string too, .int .i64 n, .slice B len cap] 47)).alloc (.cells #[.int .i64 a0, .int .i64 a1, .int .i64 a2, .int .i64 a3, .int .i64 a4, .int .i64 a5, .int .i64 a6, .int .i64 a7, .int .i64 a8] 23)).cell? ⟨w.heap.size + 1, 3, none⟩ = some (.int .i64 a3) := by simp [go_sem]
  have e9 : ((w.alloc (.cells #[.int .u8 4, .string key, .string too, .int .i64 n, .slice B len cap] 47)).alloc (.cells #[.int .i64 a0, .int .i64 a1, .int .i64 a2, .int .i64 a3, .int .i64 a4, .int .i64 a5, .int .i64 a6, .int .i64 a7, .int .i64 a8] 23)).cell? ⟨w.heap.size + 1, 4, none⟩ = some (.int .i64 a4) := by simp [go_sem]
  have e10 : ((w.alloc (.cells #[.int .u8 4, .string key, .string too, .int .i64 n, .slice B len cap] 47)).alloc (.cells #[.int .i64 a0, .int .i64 a1, .int .i64 a2, .int .i64 a3, .int .i64 a4, .int .i64 a5, .int .i64 a6, .int .i64 a7, .int .i64 a8] 23)).cell? ⟨w.heap.size + 1, 5, none⟩ = some (.int .i64 a5) := by simp [go_sem]
  have e11 : ((w.alloc (.cells #[.int .u8 4, .string key, .string too, .int .i64 n, .slice B len cap] 47)).alloc (.cells #[.int .i64 a0, .int .i64 a1, .int .i64 a2, .int .i64 a3, .int .i64 a4, .int .i64 a5, .int .i64 a6, .int .i64 a7, .int .i64 a8] 23)).cell? ⟨w.heap.size + 1, 6, none⟩ = some (.int .i64 a6) := by simp [go_sem]
  have e12 : ((w.alloc (.cells #[.int .u8 4, .string key, .string too, .int .i64 n, .slice B len cap] 47)).alloc (.cells #[.int .i64 a0, .int .i64 a1, .int .i64 a2, .int .i64 a3, .int .i64 a4, .int .i64 a5, .int .i64 a6, .int .i64 a7, .int .i64 a8] 23)).cell? ⟨w.heap.size + 1, 7, none⟩ = some (.int .i64 a7) := by simp [go_sem]
  have e13 : ((w.alloc (.cells #[.int .u8 4, .string key, .string too, .int .i64 n, .slice B len cap] 47)).alloc (.cells #[.int .i64 a0, .int .i64 a1, .int .i64 a2, .int .i64 a3, .int .i64 a4, .int .i64 a5, .int .i64 a6, .int .i64 a7, .int .i64 a8] 23)).cell? ⟨w.heap.size + 1, 8, none⟩ = some (.int .i64 a8) := by simp [go_sem]
  have hW : Below w.heap.size w ((w.alloc (.cells #[.int .u8 4, .string key, .string too, .int .i64 n, .slice B len cap] 47)).alloc (.cells #[.int .i64 a0, .int .i64 a1, .int .i64 a2, .int .i64 a3, .int .i64 a4, .int .i64 a5, .int .i64 a6, .int .i64 a7, .int .i64 a8] 23)) := by go_grown
  generalize ((w.alloc (.cells #[.int .u8 4, .string key, .string too, .int .i64 n, .slice B len cap] 47)).alloc (.cells #[.int .i64 a0, .int .i64 a1, .int .i64 a2, .int .i64 a3, .int .i64 a4, .int .i64 a5, .int .i64 a6, .int .i64 a7, .int .i64 a8] 23)) = W at *
  refine (PP.out _).mono ?_
  rintro e w1 ⟨rfl, hb⟩
  have d0 : w1.cell? ⟨w.heap.size, 0, none⟩ = some (.int .u8 4) := bel_later hb e0
  have d1 : w1.cell? ⟨w.heap.size, 1, none⟩ = some (.string key) := bel_later hb e1
  have d2 : w1.cell? ⟨w.heap.size, 2, none⟩ = some (.string too) := bel_later hb e2
  have d3 : w1.cell? ⟨w.heap.size, 3, none⟩ = some (.int .i64 n) := bel_later hb e3
  have d4 : w1.cell? ⟨w.heap.size, 4, none⟩ = some (.slice B len cap) := bel_later hb e4
  have d5 : w1.cell? ⟨w.heap.size + 1, 0, none⟩ = some (.int .i64 a0) := bel_later hb e5
  have d6 : w1.cell? ⟨w.heap.size + 1, 1, none⟩ = some (.int .i64 a1) := bel_later hb e6
  have d7 : w1.cell? ⟨w.heap.size + 1, 2, none⟩ = some (.int .i64 a2) := bel_later hb e7
  have d8 : w1.cell? ⟨w.heap.size + 1, 3, none⟩ = some (.int .i64 a3) := bel_later hb e8
  have d9 : w1.cell? ⟨w.heap.size + 1, 4, none⟩ = some (.int .i64 a4) := bel_later hb e9
  have d10 : w1.cell? ⟨w.heap.size + 1, 5, none⟩ = some (.int .i64 a5) := bel_later hb e10
  have d11 : w1.cell? ⟨w.heap.size + 1, 6, none⟩ = some (.int .i64 a6) := bel_later hb e11
  have d12 : w1.cell? ⟨w.heap.size + 1, 7, none⟩ = some (.int .i64 a7) := bel_later hb e12
  have d13 : w1.cell? ⟨w.heap.size + 1, 8, none⟩ = some (.int .i64 a8) := bel_later hb e13
  have hw1 : Below w.heap.size w w1 := bel_step hW hb (Nat.le_refl _)
  clear hb hW e0 e1 e2 e3 e4 e5 e6 e7 e8 e9 e10 e11 e12 e13
  go_wp2_with fail
  refine (AR.out _).mono ?_
  rintro e w2 ⟨rfl, hb2⟩
  have hw2 : Below w.heap.size w w2 := bel_step hw1 hb2 (Nat.le_refl _)
  go_wp2
  go_ret
  exact ⟨rfl, hw2⟩
set_option maxRecDepth 100000 in
set_option maxHeartbeats 4000000 in
theorem ask_o (k n a0 a1 a2 a3 a4 a5 a6 a7 a8 : Int) (key too : ByteArray) (B : Option Addr) (len cap : Nat) (l : List M) (w : World) (hl : l.length = len) (hA : MsL w w.heap.size B l) (hp : opureB k n key too len = true) (k1 : k ≠ 1) (k2 : k ≠ 2) (k3 : k ≠ 3) (k4 : k ≠ 4) :
    Calls Tryz.prog 31 #[.agg #[.int .u8 k, .string key, .string too, .int .i64 n, .slice B len cap], cfg a0 a1 a2 a3 a4 a5 a6 a7 a8] w fun e w' => e = .returned (.int .i64 0) ∧ Below w.heap.size w w' := by
  have HA := Lib.hid hA
  have P := fun W => opure_any k n key too B len cap W
  simp only [hp] at P
  have PP := Lib.hid P
  clear P hA
  clear hp
  go_enter Tryz.func31, Tryz.ntmps31
  go_wp2_with fail
  have e0 : ((w.alloc (.cells #[.int .u8 k, .string key, .string too, .int .i64 n, .slice B len cap] 47)).alloc (.cells #[.int .i64 a0, .int .i64 a1, .int .i64 a2, .int .i64 a3, .int .i64 a4, .int .i64 a5, .int .i64 a6, .int .i64 a7, .int .i64 a8] 23)).cell? ⟨w.heap.size, 0, none⟩ = some (.int .u8 k) := by simp [go_sem]
  have e1 : ((w.alloc (.cells #[.int .u8 k, .string key, .string too, .int .i64 n, .slice B len cap] 47)).alloc (.cells #[.int .i64 a0, .int .i64 a1, .int .i64 a2, .int .i64 a3, .int .i64 a4, .int .i64 a5, .int .i64 a6, .int .i64 a7, .int .i64 a8] 23)).cell? ⟨w.heap.size, 1, none⟩ = some (.string key) := by simp [go_sem]
  have e2 : ((w.alloc (.cells #[.int .u8 k, .string key, .string too, .int .i64 n, .slice B len cap] 47)).alloc (.cells #[.int .i64 a0, .int .i64 a1, .int .i64 a2, .int .i64 a3, .int .i64 a4, .int .i64 a5, .int .i64 a6, .int .i64 a7, .int .i64 a8] 23)).cell? ⟨w.heap.size, 2, none⟩ = some (.string too) := by simp [go_sem]
  have e3 : ((w.alloc (.cells #[.int .u8 k, .string key, .string too, .int .i64 n, .slice B len cap] 47)).alloc (.cells #[.int .i64 a0, .int .i64 a1, .int .i64 a2, .int .i64 a3, .int .i64 a4, .int .i64 a5, .int .i64 a6, .int .i64 a7, .int .i64 a8] 23)).cell? ⟨w.heap.size, 3, none⟩ = some (.int .i64 n) := by simp [go_sem]
  have e4 : ((w.alloc (.cells #[.int .u8 k, .string key, .string too, .int .i64 n, .slice B len cap] 47)).alloc (.cells #[.int .i64 a0, .int .i64 a1, .int .i64 a2, .int .i64 a3, .int .i64 a4, .int .i64 a5, .int .i64 a6, .int .i64 a7, .int .i64 a8] 23)).cell? ⟨w.heap.size, 4, none⟩ = some (.slice B len cap) := by simp [go_sem]
  have e5 : ((w.alloc (.cells #[.int .u8 k, .string key, .string too, .int .i64 n, .slice B len cap] 47)).alloc (.cells #[.int .i64 a0, .int .i64 a1, .int .i64 a2, .int .i64 a3, .int .i64 a4, .int .i64 a5, .int .i64 a6, .int .i64 a7, .int .i64 a8] 23)).cell? ⟨w.heap.size + 1, 0, none⟩ = some (.int .i64 a0) := by simp [go_sem]
  have e6 : ((w.alloc (.cells #[.int .u8 k, .string key, .string too, .int .i64 n, .slice B len cap] 47)).alloc (.cells #[.int .i64 a0, .int .i64 a1, .int .i64 a2, .int .i64 a3, .int .i64 a4, .int .i64 a5, .int .i64 a6, .int .i64 a7, .int .i64 a8] 23)).cell? ⟨w.heap.size + 1, 1, none⟩ = some (.int .i64 a1) := by simp [go_sem]
  have e7 : ((w.alloc (.cells #[.int .u8 k, .string key, .string too, .int .i64 n, .slice B len cap] 47)).alloc (.cells #[.int .i64 a0, .int .i64 a1, .int .i64 a2, .int .i64 a3, .int .i64 a4, .int .i64 a5, .int .i64 a6, .int .i64 a7, .int .i64 a8] 23)).cell? ⟨w.heap.size + 1, 2, none⟩ = some (.int .i64 a2) := by simp [go_sem]
  have e8 : ((w.alloc (.cells #[.int .u8 k, .string key, .string too, .int .i64 n, .slice B len cap] 47)).alloc (.cells #[.int .i64 a0, .int .i64 a1, .int .i64 a2, .int .i64 a3, .int .i64 a4, .int .i64 a5, .int .i64 a6, .int .i64 a7, .int .i64 a8] 23)).cell? ⟨w.heap.size + 1, 3, none⟩ = some (.int .i64 a3) := by simp [go_sem]
  have e9 : ((w.alloc (.cells #[.int .u8 k, .string key, .string too, .int .i64 n, .slice B len cap] 47)).alloc (.cells #[.int .i64 a0, .int .i64 a1, .int .i64 a2, .int .i64 a3, .int .i64 a4, .int .i64 a5, .int .i64 a6, .int .i64 a7, .int .i64 a8] 23)).cell? ⟨w.heap.size + 1, 4, none⟩ = some (.int .i64 a4) := by simp [go_sem]
  have e10 : ((w.alloc (.cells #[.int .u8 k, .string key, .string too, .int .i64 n, .slice B len cap] 47)).alloc (.cells #[.int .i64 a0, .int .i64 a1, .int .i64 a2, .int .i64 a3, .int .i64 a4, .int .i64 a5, .int .i64 a6, .int .i64 a7, .int .i64 a8] 23)).cell? ⟨w.heap.size + 1, 5, none⟩ = some (.int .i64 a5) := by simp [go_sem]
  have e11 : ((w.alloc (.cells #[.int .u8 k, .string key, .string too, .int .i64 n, .slice B len cap] 47)).alloc (.cells #[.int .i64 a0, .int .i64 a1, .int .i64 a2, .int .i64 a3, .int .i64 a4, .int .i64 a5, .int .i64 a6, .int .i64 a7, .int .i64 a8] 23)).cell? ⟨w.heap.size + 1, 6, none⟩ = some (.int .i64 a6) := by simp [go_sem]
  have e12 : ((w.alloc (.cells #[.int .u8 k, .string key, .string too, .int .i64 n, .slice B len cap] 47)).alloc (.cells #[.int .i64 a0, .int .i64 a1, .int .i64 a2, .int .i64 a3, .int .i64 a4, .int .i64 a5, .int .i64 a6, .int .i64 a7, .int .i64 a8] 23)).cell? ⟨w.heap.size + 1, 7, none⟩ = some (.int .i64 a7) := by simp [go_sem]
  have e13 : ((w.alloc (.cells #[.int .u8 k, .string key, .string too, .int .i64 n, .slice B len cap] 47)).alloc (.cells #[.int .i64 a0, .int .i64 a1, .int .i64 a2, .int .i64 a3, .int .i64 a4, .int .i64 a5, .int .i64 a6, .int .i64 a7, .int .i64 a8] 23)).cell? ⟨w.heap.size + 1, 8, none⟩ = some (.int .i64 a8) := by simp [go_sem]
  have hW : Below w.heap.size w ((w.alloc (.cells #[.int .u8 k, .string key, .string too, .int .i64 n, .slice B len cap] 47)).alloc (.cells #[.int .i64 a0, .int .i64 a1, .int .i64 a2, .int .i64 a3, .int .i64 a4, .int .i64 a5, .int .i64 a6, .int .i64 a7, .int .i64 a8] 23)) := by go_grown
  generalize ((w.alloc (.cells #[.int .u8 k, .string key, .string too, .int .i64 n, .slice B len cap] 47)).alloc (.cells #[.int .i64 a0, .int .i64 a1, .int .i64 a2, .int .i64 a3, .int .i64 a4, .int .i64 a5, .int .i64 a6, .int .i64 a7, .int .i64 a8] 23)) = W at *
  refine (PP.out _).mono ?_
  rintro e w1 ⟨rfl, hb⟩
  have d0 : w1.cell? ⟨w.heap.size, 0, none⟩ = some (.int .u8 k) := bel_later hb e0
  have d1 : w1.cell? ⟨w.heap.size, 1, none⟩ = some (.string key) := bel_later hb e1
  have d2 : w1.cell? ⟨w.heap.size, 2, none⟩ = some (.string too) := bel_later hb e2
  have d3 : w1.cell? ⟨w.heap.size, 3, none⟩ = some (.int .i64 n) := bel_later hb e3
  have d4 : w1.cell? ⟨w.heap.size, 4, none⟩ = some (.slice B len cap) := bel_later hb e4
  have d5 : w1.cell? ⟨w.heap.size + 1, 0, none⟩ = some (.int .i64 a0) := bel_later hb e5
  have d6 : w1.cell? ⟨w.heap.size + 1, 1, none⟩ = some (.int .i64 a1) := bel_later hb e6
  have d7 : w1.cell? ⟨w.heap.size + 1, 2, none⟩ = some (.int .i64 a2) := bel_later hb e7
  have d8 : w1.cell? ⟨w.heap.size + 1, 3, none⟩ = some (.int .i64 a3) := bel_later hb e8
  have d9 : w1.cell? ⟨w.heap.size + 1, 4, none⟩ = some (.int .i64 a4) := bel_later hb e9
  have d10 : w1.cell? ⟨w.heap.size + 1, 5, none⟩ = some (.int .i64 a5) := bel_later hb e10
  have d11 : w1.cell? ⟨w.heap.size + 1, 6, none⟩ = some (.int .i64 a6) := bel_later hb e11
  have d12 : w1.cell? ⟨w.heap.size + 1, 7, none⟩ = some (.int .i64 a7) := bel_later hb e12
  have d13 : w1.cell? ⟨w.heap.size + 1, 8, none⟩ = some (.int .i64 a8) := bel_later hb e13
  have hw1 : Below w.heap.size w w1 := bel_step hW hb (Nat.le_refl _)
  clear hb hW e0 e1 e2 e3 e4 e5 e6 e7 e8 e9 e10 e11 e12 e13
  go_wp2
  go_ret
  exact ⟨rfl, hw1⟩

/-- What an operation is answered that is asked. -/
def askF (k n a0 a1 a8 : Int) (key too : ByteArray) (len : Nat) (l : List M) : Int :=
  if opureB k n key too len = false then 3
  else if k = 1 then (if rightS key a0 = true then 0 else 6)
  else if k = 2 then abF a0 a1 l
  else if k = 3 then arF 3 n a0 a8 key too
  else if k = 4 then arF 4 n a0 a8 key too
  else 0
theorem ask_any (k n a0 a1 a2 a3 a4 a5 a6 a7 a8 : Int) (key too : ByteArray) (B : Option Addr) (len cap : Nat) (l : List M) (w : World) (hl : l.length = len) (hA : MsL w w.heap.size B l) :
    Calls Tryz.prog 31 #[.agg #[.int .u8 k, .string key, .string too, .int .i64 n, .slice B len cap], cfg a0 a1 a2 a3 a4 a5 a6 a7 a8] w fun e w' => e = .returned (.int .i64 (askF k n a0 a1 a8 key too len l)) ∧ Below w.heap.size w w' := by
  unfold askF
  by_cases hp : opureB k n key too len = false
  · rw [if_pos hp]; exact ask_no k n a0 a1 a2 a3 a4 a5 a6 a7 a8 key too B len cap l w hl hA hp
  rw [if_neg hp]
  have hp' : opureB k n key too len = true := by simpa using hp
  by_cases k1 : k = 1
  · subst k1; rw [if_pos rfl]
    by_cases hR : rightS key a0 = true
    · rw [if_pos hR]; exact ask_1g n a0 a1 a2 a3 a4 a5 a6 a7 a8 key too B len cap l w hl hA hp' hR
    · rw [if_neg hR]; exact ask_1b n a0 a1 a2 a3 a4 a5 a6 a7 a8 key too B len cap l w hl hA hp' (by simpa using hR)
  rw [if_neg k1]
  by_cases k2 : k = 2
  · subst k2; rw [if_pos rfl]; exact ask_2 n a0 a1 a2 a3 a4 a5 a6 a7 a8 key too B len cap l w hl hA hp'
  rw [if_neg k2]
  by_cases k3 : k = 3
  · subst k3; rw [if_pos rfl]; exact ask_3 n a0 a1 a2 a3 a4 a5 a6 a7 a8 key too B len cap l w hl hA hp'
  rw [if_neg k3]
  by_cases k4 : k = 4
  · subst k4; rw [if_pos rfl]; exact ask_4 n a0 a1 a2 a3 a4 a5 a6 a7 a8 key too B len cap l w hl hA hp'
  rw [if_neg k4]
  exact ask_o k n a0 a1 a2 a3 a4 a5 a6 a7 a8 key too B len cap l w hl hA hp' k1 k2 k3 k4
end Go.Proofs.YtelpkajlejbbgaaGreatDoor
