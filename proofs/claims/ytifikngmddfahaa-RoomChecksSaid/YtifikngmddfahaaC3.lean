/- The law RoomWider: its walk. -/
import Derived.Test.YtifikngmddfahaaC2
import Derived.BigRegion
namespace Go.Proofs.Ytifikngmddfahaa
set_option linter.unusedSimpArgs false
open Go.RowKit
set_option linter.unusedVariables false

set_option maxRecDepth 100000 in
set_option maxHeartbeats 4000000 in
theorem wider_in (k n a0 a1 a2 a3 a4 a5 a6 a7 a8 x y z : Int) (key too : ByteArray) (B : Option Addr) (len cap : Nat) (l : List M) (w : World) (hl : l.length = len) (hA : MsL w w.heap.size B l)
    (lo0 : -9223372036854775808 ≤ a0) (lo1 : -9223372036854775808 ≤ a1) (lo8 : -9223372036854775808 ≤ a8) (hx : 0 ≤ x ∧ x ≤ 255) (hy : 0 ≤ y ∧ y ≤ 255) (hz : 0 ≤ z ∧ z ≤ 255)
    (u0 : ¬ 256 < a0) (u1 : ¬ 4096 < a1) (u8 : ¬ 1024 < a8) :
    Calls Try.prog 5 #[cfg a0 a1 a2 a3 a4 a5 a6 a7 a8, .agg #[.int .u8 k, .string key, .string too, .int .i64 n, .slice B len cap], .int .u8 x, .int .u8 y, .int .u8 z] w fun e w' => e = .returned (.bool true) ∧ Below w.heap.size w w' := by
  have q0 : IntKind.i64.wrap (a0 + x) = a0 + x := IntWalk.i64_in _ (by omega)
  have q1 : IntKind.i64.wrap (a1 + y) = a1 + y := IntWalk.i64_in _ (by omega)
  have q2 : IntKind.i64.wrap (a8 + z) = a8 + z := IntWalk.i64_in _ (by omega)
  have r0 : IntKind.i64.wrap x = x := IntWalk.i64_in _ (by omega)
  have r1 : IntKind.i64.wrap y = y := IntWalk.i64_in _ (by omega)
  have r2 : IntKind.i64.wrap z = z := IntWalk.i64_in _ (by omega)
  have HA := Lib.hid hA
  clear hA
  go_enter Try.func5, Try.ntmps5
  go_wp2_with fail
  have c0 : (((w.alloc (.cells #[.int .i64 a0, .int .i64 a1, .int .i64 a2, .int .i64 a3, .int .i64 a4, .int .i64 a5, .int .i64 a6, .int .i64 a7, .int .i64 a8] 23)).alloc (.cells #[.int .u8 k, .string key, .string too, .int .i64 n, .slice B len cap] 27)).alloc (.cells #[.int .i64 a0, .int .i64 a1, .int .i64 a2, .int .i64 a3, .int .i64 a4, .int .i64 a5, .int .i64 a6, .int .i64 a7, .int .i64 a8] 23)).cell? ⟨w.heap.size, 0, none⟩ = some (.int .i64 a0) := by simp [go_sem]
  have c1 : (((w.alloc (.cells #[.int .i64 a0, .int .i64 a1, .int .i64 a2, .int .i64 a3, .int .i64 a4, .int .i64 a5, .int .i64 a6, .int .i64 a7, .int .i64 a8] 23)).alloc (.cells #[.int .u8 k, .string key, .string too, .int .i64 n, .slice B len cap] 27)).alloc (.cells #[.int .i64 a0, .int .i64 a1, .int .i64 a2, .int .i64 a3, .int .i64 a4, .int .i64 a5, .int .i64 a6, .int .i64 a7, .int .i64 a8] 23)).cell? ⟨w.heap.size, 1, none⟩ = some (.int .i64 a1) := by simp [go_sem]
  have c2 : (((w.alloc (.cells #[.int .i64 a0, .int .i64 a1, .int .i64 a2, .int .i64 a3, .int .i64 a4, .int .i64 a5, .int .i64 a6, .int .i64 a7, .int .i64 a8] 23)).alloc (.cells #[.int .u8 k, .string key, .string too, .int .i64 n, .slice B len cap] 27)).alloc (.cells #[.int .i64 a0, .int .i64 a1, .int .i64 a2, .int .i64 a3, .int .i64 a4, .int .i64 a5, .int .i64 a6, .int .i64 a7, .int .i64 a8] 23)).cell? ⟨w.heap.size, 2, none⟩ = some (.int .i64 a2) := by simp [go_sem]
  have c3 : (((w.alloc (.cells #[.int .i64 a0, .int .i64 a1, .int .i64 a2, .int .i64 a3, .int .i64 a4, .int .i64 a5, .int .i64 a6, .int .i64 a7, .int .i64 a8] 23)).alloc (.cells #[.int .u8 k, .string key, .string too, .int .i64 n, .slice B len cap] 27)).alloc (.cells #[.int .i64 a0, .int .i64 a1, .int .i64 a2, .int .i64 a3, .int .i64 a4, .int .i64 a5, .int .i64 a6, .int .i64 a7, .int .i64 a8] 23)).cell? ⟨w.heap.size, 3, none⟩ = some (.int .i64 a3) := by simp [go_sem]
  have c4 : (((w.alloc (.cells #[.int .i64 a0, .int .i64 a1, .int .i64 a2, .int .i64 a3, .int .i64 a4, .int .i64 a5, .int .i64 a6, .int .i64 a7, .int .i64 a8] 23)).alloc (.cells #[.int .u8 k, .string key, .string too, .int .i64 n, .slice B len cap] 27)).alloc (.cells #[.int .i64 a0, .int .i64 a1, .int .i64 a2, .int .i64 a3, .int .i64 a4, .int .i64 a5, .int .i64 a6, .int .i64 a7, .int .i64 a8] 23)).cell? ⟨w.heap.size, 4, none⟩ = some (.int .i64 a4) := by simp [go_sem]
  have c5 : (((w.alloc (.cells #[.int .i64 a0, .int .i64 a1, .int .i64 a2, .int .i64 a3, .int .i64 a4, .int .i64 a5, .int .i64 a6, .int .i64 a7, .int .i64 a8] 23)).alloc (.cells #[.int .u8 k, .string key, .string too, .int .i64 n, .slice B len cap] 27)).alloc (.cells #[.int .i64 a0, .int .i64 a1, .int .i64 a2, .int .i64 a3, .int .i64 a4, .int .i64 a5, .int .i64 a6, .int .i64 a7, .int .i64 a8] 23)).cell? ⟨w.heap.size, 5, none⟩ = some (.int .i64 a5) := by simp [go_sem]
  have c6 : (((w.alloc (.cells #[.int .i64 a0, .int .i64 a1, .int .i64 a2, .int .i64 a3, .int .i64 a4, .int .i64 a5, .int .i64 a6, .int .i64 a7, .int .i64 a8] 23)).alloc (.cells #[.int .u8 k, .string key, .string too, .int .i64 n, .slice B len cap] 27)).alloc (.cells #[.int .i64 a0, .int .i64 a1, .int .i64 a2, .int .i64 a3, .int .i64 a4, .int .i64 a5, .int .i64 a6, .int .i64 a7, .int .i64 a8] 23)).cell? ⟨w.heap.size, 6, none⟩ = some (.int .i64 a6) := by simp [go_sem]
  have c7 : (((w.alloc (.cells #[.int .i64 a0, .int .i64 a1, .int .i64 a2, .int .i64 a3, .int .i64 a4, .int .i64 a5, .int .i64 a6, .int .i64 a7, .int .i64 a8] 23)).alloc (.cells #[.int .u8 k, .string key, .string too, .int .i64 n, .slice B len cap] 27)).alloc (.cells #[.int .i64 a0, .int .i64 a1, .int .i64 a2, .int .i64 a3, .int .i64 a4, .int .i64 a5, .int .i64 a6, .int .i64 a7, .int .i64 a8] 23)).cell? ⟨w.heap.size, 7, none⟩ = some (.int .i64 a7) := by simp [go_sem]
  have c8 : (((w.alloc (.cells #[.int .i64 a0, .int .i64 a1, .int .i64 a2, .int .i64 a3, .int .i64 a4, .int .i64 a5, .int .i64 a6, .int .i64 a7, .int .i64 a8] 23)).alloc (.cells #[.int .u8 k, .string key, .string too, .int .i64 n, .slice B len cap] 27)).alloc (.cells #[.int .i64 a0, .int .i64 a1, .int .i64 a2, .int .i64 a3, .int .i64 a4, .int .i64 a5, .int .i64 a6, .int .i64 a7, .int .i64 a8] 23)).cell? ⟨w.heap.size, 8, none⟩ = some (.int .i64 a8) := by simp [go_sem]
  have o0 : (((w.alloc (.cells #[.int .i64 a0, .int .i64 a1, .int .i64 a2, .int .i64 a3, .int .i64 a4, .int .i64 a5, .int .i64 a6, .int .i64 a7, .int .i64 a8] 23)).alloc (.cells #[.int .u8 k, .string key, .string too, .int .i64 n, .slice B len cap] 27)).alloc (.cells #[.int .i64 a0, .int .i64 a1, .int .i64 a2, .int .i64 a3, .int .i64 a4, .int .i64 a5, .int .i64 a6, .int .i64 a7, .int .i64 a8] 23)).cell? ⟨w.heap.size + 1, 0, none⟩ = some (.int .u8 k) := by simp [go_sem]
  have o1 : (((w.alloc (.cells #[.int .i64 a0, .int .i64 a1, .int .i64 a2, .int .i64 a3, .int .i64 a4, .int .i64 a5, .int .i64 a6, .int .i64 a7, .int .i64 a8] 23)).alloc (.cells #[.int .u8 k, .string key, .string too, .int .i64 n, .slice B len cap] 27)).alloc (.cells #[.int .i64 a0, .int .i64 a1, .int .i64 a2, .int .i64 a3, .int .i64 a4, .int .i64 a5, .int .i64 a6, .int .i64 a7, .int .i64 a8] 23)).cell? ⟨w.heap.size + 1, 1, none⟩ = some (.string key) := by simp [go_sem]
  have o2 : (((w.alloc (.cells #[.int .i64 a0, .int .i64 a1, .int .i64 a2, .int .i64 a3, .int .i64 a4, .int .i64 a5, .int .i64 a6, .int .i64 a7, .int .i64 a8] 23)).alloc (.cells #[.int .u8 k, .string key, .string too, .int .i64 n, .slice B len cap] 27)).alloc (.cells #[.int .i64 a0, .int .i64 a1, .int .i64 a2, .int .i64 a3, .int .i64 a4, .int .i64 a5, .int .i64 a6, .int .i64 a7, .int .i64 a8] 23)).cell? ⟨w.heap.size + 1, 2, none⟩ = some (.string too) := by simp [go_sem]
  have o3 : (((w.alloc (.cells #[.int .i64 a0, .int .i64 a1, .int .i64 a2, .int .i64 a3, .int .i64 a4, .int .i64 a5, .int .i64 a6, .int .i64 a7, .int .i64 a8] 23)).alloc (.cells #[.int .u8 k, .string key, .string too, .int .i64 n, .slice B len cap] 27)).alloc (.cells #[.int .i64 a0, .int .i64 a1, .int .i64 a2, .int .i64 a3, .int .i64 a4, .int .i64 a5, .int .i64 a6, .int .i64 a7, .int .i64 a8] 23)).cell? ⟨w.heap.size + 1, 3, none⟩ = some (.int .i64 n) := by simp [go_sem]
  have o4 : (((w.alloc (.cells #[.int .i64 a0, .int .i64 a1, .int .i64 a2, .int .i64 a3, .int .i64 a4, .int .i64 a5, .int .i64 a6, .int .i64 a7, .int .i64 a8] 23)).alloc (.cells #[.int .u8 k, .string key, .string too, .int .i64 n, .slice B len cap] 27)).alloc (.cells #[.int .i64 a0, .int .i64 a1, .int .i64 a2, .int .i64 a3, .int .i64 a4, .int .i64 a5, .int .i64 a6, .int .i64 a7, .int .i64 a8] 23)).cell? ⟨w.heap.size + 1, 4, none⟩ = some (.slice B len cap) := by simp [go_sem]
  have d0 : (((w.alloc (.cells #[.int .i64 a0, .int .i64 a1, .int .i64 a2, .int .i64 a3, .int .i64 a4, .int .i64 a5, .int .i64 a6, .int .i64 a7, .int .i64 a8] 23)).alloc (.cells #[.int .u8 k, .string key, .string too, .int .i64 n, .slice B len cap] 27)).alloc (.cells #[.int .i64 a0, .int .i64 a1, .int .i64 a2, .int .i64 a3, .int .i64 a4, .int .i64 a5, .int .i64 a6, .int .i64 a7, .int .i64 a8] 23)).cell? ⟨w.heap.size + 1 + 1, 0, none⟩ = some (.int .i64 a0) := by simp [go_sem]
  have d1 : (((w.alloc (.cells #[.int .i64 a0, .int .i64 a1, .int .i64 a2, .int .i64 a3, .int .i64 a4, .int .i64 a5, .int .i64 a6, .int .i64 a7, .int .i64 a8] 23)).alloc (.cells #[.int .u8 k, .string key, .string too, .int .i64 n, .slice B len cap] 27)).alloc (.cells #[.int .i64 a0, .int .i64 a1, .int .i64 a2, .int .i64 a3, .int .i64 a4, .int .i64 a5, .int .i64 a6, .int .i64 a7, .int .i64 a8] 23)).cell? ⟨w.heap.size + 1 + 1, 1, none⟩ = some (.int .i64 a1) := by simp [go_sem]
  have d2 : (((w.alloc (.cells #[.int .i64 a0, .int .i64 a1, .int .i64 a2, .int .i64 a3, .int .i64 a4, .int .i64 a5, .int .i64 a6, .int .i64 a7, .int .i64 a8] 23)).alloc (.cells #[.int .u8 k, .string key, .string too, .int .i64 n, .slice B len cap] 27)).alloc (.cells #[.int .i64 a0, .int .i64 a1, .int .i64 a2, .int .i64 a3, .int .i64 a4, .int .i64 a5, .int .i64 a6, .int .i64 a7, .int .i64 a8] 23)).cell? ⟨w.heap.size + 1 + 1, 2, none⟩ = some (.int .i64 a2) := by simp [go_sem]
  have d3 : (((w.alloc (.cells #[.int .i64 a0, .int .i64 a1, .int .i64 a2, .int .i64 a3, .int .i64 a4, .int .i64 a5, .int .i64 a6, .int .i64 a7, .int .i64 a8] 23)).alloc (.cells #[.int .u8 k, .string key, .string too, .int .i64 n, .slice B len cap] 27)).alloc (.cells #[.int .i64 a0, .int .i64 a1, .int .i64 a2, .int .i64 a3, .int .i64 a4, .int .i64 a5, .int .i64 a6, .int .i64 a7, .int .i64 a8] 23)).cell? ⟨w.heap.size + 1 + 1, 3, none⟩ = some (.int .i64 a3) := by simp [go_sem]
  have d4 : (((w.alloc (.cells #[.int .i64 a0, .int .i64 a1, .int .i64 a2, .int .i64 a3, .int .i64 a4, .int .i64 a5, .int .i64 a6, .int .i64 a7, .int .i64 a8] 23)).alloc (.cells #[.int .u8 k, .string key, .string too, .int .i64 n, .slice B len cap] 27)).alloc (.cells #[.int .i64 a0, .int .i64 a1, .int .i64 a2, .int .i64 a3, .int .i64 a4, .int .i64 a5, .int .i64 a6, .int .i64 a7, .int .i64 a8] 23)).cell? ⟨w.heap.size + 1 + 1, 4, none⟩ = some (.int .i64 a4) := by simp [go_sem]
  have d5 : (((w.alloc (.cells #[.int .i64 a0, .int .i64 a1, .int .i64 a2, .int .i64 a3, .int .i64 a4, .int .i64 a5, .int .i64 a6, .int .i64 a7, .int .i64 a8] 23)).alloc (.cells #[.int .u8 k, .string key, .string too, .int .i64 n, .slice B len cap] 27)).alloc (.cells #[.int .i64 a0, .int .i64 a1, .int .i64 a2, .int .i64 a3, .int .i64 a4, .int .i64 a5, .int .i64 a6, .int .i64 a7, .int .i64 a8] 23)).cell? ⟨w.heap.size + 1 + 1, 5, none⟩ = some (.int .i64 a5) := by simp [go_sem]
  have d6 : (((w.alloc (.cells #[.int .i64 a0, .int .i64 a1, .int .i64 a2, .int .i64 a3, .int .i64 a4, .int .i64 a5, .int .i64 a6, .int .i64 a7, .int .i64 a8] 23)).alloc (.cells #[.int .u8 k, .string key, .string too, .int .i64 n, .slice B len cap] 27)).alloc (.cells #[.int .i64 a0, .int .i64 a1, .int .i64 a2, .int .i64 a3, .int .i64 a4, .int .i64 a5, .int .i64 a6, .int .i64 a7, .int .i64 a8] 23)).cell? ⟨w.heap.size + 1 + 1, 6, none⟩ = some (.int .i64 a6) := by simp [go_sem]
  have d7 : (((w.alloc (.cells #[.int .i64 a0, .int .i64 a1, .int .i64 a2, .int .i64 a3, .int .i64 a4, .int .i64 a5, .int .i64 a6, .int .i64 a7, .int .i64 a8] 23)).alloc (.cells #[.int .u8 k, .string key, .string too, .int .i64 n, .slice B len cap] 27)).alloc (.cells #[.int .i64 a0, .int .i64 a1, .int .i64 a2, .int .i64 a3, .int .i64 a4, .int .i64 a5, .int .i64 a6, .int .i64 a7, .int .i64 a8] 23)).cell? ⟨w.heap.size + 1 + 1, 7, none⟩ = some (.int .i64 a7) := by simp [go_sem]
  have d8 : (((w.alloc (.cells #[.int .i64 a0, .int .i64 a1, .int .i64 a2, .int .i64 a3, .int .i64 a4, .int .i64 a5, .int .i64 a6, .int .i64 a7, .int .i64 a8] 23)).alloc (.cells #[.int .u8 k, .string key, .string too, .int .i64 n, .slice B len cap] 27)).alloc (.cells #[.int .i64 a0, .int .i64 a1, .int .i64 a2, .int .i64 a3, .int .i64 a4, .int .i64 a5, .int .i64 a6, .int .i64 a7, .int .i64 a8] 23)).cell? ⟨w.heap.size + 1 + 1, 8, none⟩ = some (.int .i64 a8) := by simp [go_sem]
  have f0 : (((w.alloc (.cells #[.int .i64 a0, .int .i64 a1, .int .i64 a2, .int .i64 a3, .int .i64 a4, .int .i64 a5, .int .i64 a6, .int .i64 a7, .int .i64 a8] 23)).alloc (.cells #[.int .u8 k, .string key, .string too, .int .i64 n, .slice B len cap] 27)).alloc (.cells #[.int .i64 a0, .int .i64 a1, .int .i64 a2, .int .i64 a3, .int .i64 a4, .int .i64 a5, .int .i64 a6, .int .i64 a7, .int .i64 a8] 23)).frozen? ⟨w.heap.size + 1 + 1, 0, none⟩ = false := by simp [go_sem]
  have f1 : (((w.alloc (.cells #[.int .i64 a0, .int .i64 a1, .int .i64 a2, .int .i64 a3, .int .i64 a4, .int .i64 a5, .int .i64 a6, .int .i64 a7, .int .i64 a8] 23)).alloc (.cells #[.int .u8 k, .string key, .string too, .int .i64 n, .slice B len cap] 27)).alloc (.cells #[.int .i64 a0, .int .i64 a1, .int .i64 a2, .int .i64 a3, .int .i64 a4, .int .i64 a5, .int .i64 a6, .int .i64 a7, .int .i64 a8] 23)).frozen? ⟨w.heap.size + 1 + 1, 1, none⟩ = false := by simp [go_sem]
  have f8 : (((w.alloc (.cells #[.int .i64 a0, .int .i64 a1, .int .i64 a2, .int .i64 a3, .int .i64 a4, .int .i64 a5, .int .i64 a6, .int .i64 a7, .int .i64 a8] 23)).alloc (.cells #[.int .u8 k, .string key, .string too, .int .i64 n, .slice B len cap] 27)).alloc (.cells #[.int .i64 a0, .int .i64 a1, .int .i64 a2, .int .i64 a3, .int .i64 a4, .int .i64 a5, .int .i64 a6, .int .i64 a7, .int .i64 a8] 23)).frozen? ⟨w.heap.size + 1 + 1, 8, none⟩ = false := by simp [go_sem]
  have hW : Below w.heap.size w (((w.alloc (.cells #[.int .i64 a0, .int .i64 a1, .int .i64 a2, .int .i64 a3, .int .i64 a4, .int .i64 a5, .int .i64 a6, .int .i64 a7, .int .i64 a8] 23)).alloc (.cells #[.int .u8 k, .string key, .string too, .int .i64 n, .slice B len cap] 27)).alloc (.cells #[.int .i64 a0, .int .i64 a1, .int .i64 a2, .int .i64 a3, .int .i64 a4, .int .i64 a5, .int .i64 a6, .int .i64 a7, .int .i64 a8] 23)) := by go_grown
  generalize (((w.alloc (.cells #[.int .i64 a0, .int .i64 a1, .int .i64 a2, .int .i64 a3, .int .i64 a4, .int .i64 a5, .int .i64 a6, .int .i64 a7, .int .i64 a8] 23)).alloc (.cells #[.int .u8 k, .string key, .string too, .int .i64 n, .slice B len cap] 27)).alloc (.cells #[.int .i64 a0, .int .i64 a1, .int .i64 a2, .int .i64 a3, .int .i64 a4, .int .i64 a5, .int .i64 a6, .int .i64 a7, .int .i64 a8] 23)) = W at *
  go_region
  have hV : Below w.heap.size w ((((W.setCell ⟨w.heap.size + 1 + 1, 0, none⟩ (.int .i64 (a0 + x))).setCell ⟨w.heap.size + 1 + 1, 1, none⟩ (.int .i64 (a1 + y))).setCell ⟨w.heap.size + 1 + 1, 8, none⟩ (.int .i64 (a8 + z))).drew) := (((hW.setCell (p := ⟨w.heap.size + 1 + 1, 0, none⟩) (by show w.heap.size ≤ w.heap.size + 1 + 1; omega) _).setCell (p := ⟨w.heap.size + 1 + 1, 1, none⟩) (by show w.heap.size ≤ w.heap.size + 1 + 1; omega) _).setCell (p := ⟨w.heap.size + 1 + 1, 8, none⟩) (by show w.heap.size ≤ w.heap.size + 1 + 1; omega) _).drew
  have vc0 : ((((W.setCell ⟨w.heap.size + 1 + 1, 0, none⟩ (.int .i64 (a0 + x))).setCell ⟨w.heap.size + 1 + 1, 1, none⟩ (.int .i64 (a1 + y))).setCell ⟨w.heap.size + 1 + 1, 8, none⟩ (.int .i64 (a8 + z))).drew).cell? ⟨w.heap.size, 0, none⟩ = some (.int .i64 a0) := by simp [go_sem, c0, d0, d1, d8]
  have vc1 : ((((W.setCell ⟨w.heap.size + 1 + 1, 0, none⟩ (.int .i64 (a0 + x))).setCell ⟨w.heap.size + 1 + 1, 1, none⟩ (.int .i64 (a1 + y))).setCell ⟨w.heap.size + 1 + 1, 8, none⟩ (.int .i64 (a8 + z))).drew).cell? ⟨w.heap.size, 1, none⟩ = some (.int .i64 a1) := by simp [go_sem, c1, d0, d1, d8]
  have vc2 : ((((W.setCell ⟨w.heap.size + 1 + 1, 0, none⟩ (.int .i64 (a0 + x))).setCell ⟨w.heap.size + 1 + 1, 1, none⟩ (.int .i64 (a1 + y))).setCell ⟨w.heap.size + 1 + 1, 8, none⟩ (.int .i64 (a8 + z))).drew).cell? ⟨w.heap.size, 2, none⟩ = some (.int .i64 a2) := by simp [go_sem, c2, d0, d1, d8]
  have vc3 : ((((W.setCell ⟨w.heap.size + 1 + 1, 0, none⟩ (.int .i64 (a0 + x))).setCell ⟨w.heap.size + 1 + 1, 1, none⟩ (.int .i64 (a1 + y))).setCell ⟨w.heap.size + 1 + 1, 8, none⟩ (.int .i64 (a8 + z))).drew).cell? ⟨w.heap.size, 3, none⟩ = some (.int .i64 a3) := by simp [go_sem, c3, d0, d1, d8]
  have vc4 : ((((W.setCell ⟨w.heap.size + 1 + 1, 0, none⟩ (.int .i64 (a0 + x))).setCell ⟨w.heap.size + 1 + 1, 1, none⟩ (.int .i64 (a1 + y))).setCell ⟨w.heap.size + 1 + 1, 8, none⟩ (.int .i64 (a8 + z))).drew).cell? ⟨w.heap.size, 4, none⟩ = some (.int .i64 a4) := by simp [go_sem, c4, d0, d1, d8]
  have vc5 : ((((W.setCell ⟨w.heap.size + 1 + 1, 0, none⟩ (.int .i64 (a0 + x))).setCell ⟨w.heap.size + 1 + 1, 1, none⟩ (.int .i64 (a1 + y))).setCell ⟨w.heap.size + 1 + 1, 8, none⟩ (.int .i64 (a8 + z))).drew).cell? ⟨w.heap.size, 5, none⟩ = some (.int .i64 a5) := by simp [go_sem, c5, d0, d1, d8]
  have vc6 : ((((W.setCell ⟨w.heap.size + 1 + 1, 0, none⟩ (.int .i64 (a0 + x))).setCell ⟨w.heap.size + 1 + 1, 1, none⟩ (.int .i64 (a1 + y))).setCell ⟨w.heap.size + 1 + 1, 8, none⟩ (.int .i64 (a8 + z))).drew).cell? ⟨w.heap.size, 6, none⟩ = some (.int .i64 a6) := by simp [go_sem, c6, d0, d1, d8]
  have vc7 : ((((W.setCell ⟨w.heap.size + 1 + 1, 0, none⟩ (.int .i64 (a0 + x))).setCell ⟨w.heap.size + 1 + 1, 1, none⟩ (.int .i64 (a1 + y))).setCell ⟨w.heap.size + 1 + 1, 8, none⟩ (.int .i64 (a8 + z))).drew).cell? ⟨w.heap.size, 7, none⟩ = some (.int .i64 a7) := by simp [go_sem, c7, d0, d1, d8]
  have vc8 : ((((W.setCell ⟨w.heap.size + 1 + 1, 0, none⟩ (.int .i64 (a0 + x))).setCell ⟨w.heap.size + 1 + 1, 1, none⟩ (.int .i64 (a1 + y))).setCell ⟨w.heap.size + 1 + 1, 8, none⟩ (.int .i64 (a8 + z))).drew).cell? ⟨w.heap.size, 8, none⟩ = some (.int .i64 a8) := by simp [go_sem, c8, d0, d1, d8]
  have vo0 : ((((W.setCell ⟨w.heap.size + 1 + 1, 0, none⟩ (.int .i64 (a0 + x))).setCell ⟨w.heap.size + 1 + 1, 1, none⟩ (.int .i64 (a1 + y))).setCell ⟨w.heap.size + 1 + 1, 8, none⟩ (.int .i64 (a8 + z))).drew).cell? ⟨w.heap.size + 1, 0, none⟩ = some (.int .u8 k) := by simp [go_sem, o0, d0, d1, d8]
  have vo1 : ((((W.setCell ⟨w.heap.size + 1 + 1, 0, none⟩ (.int .i64 (a0 + x))).setCell ⟨w.heap.size + 1 + 1, 1, none⟩ (.int .i64 (a1 + y))).setCell ⟨w.heap.size + 1 + 1, 8, none⟩ (.int .i64 (a8 + z))).drew).cell? ⟨w.heap.size + 1, 1, none⟩ = some (.string key) := by simp [go_sem, o1, d0, d1, d8]
  have vo2 : ((((W.setCell ⟨w.heap.size + 1 + 1, 0, none⟩ (.int .i64 (a0 + x))).setCell ⟨w.heap.size + 1 + 1, 1, none⟩ (.int .i64 (a1 + y))).setCell ⟨w.heap.size + 1 + 1, 8, none⟩ (.int .i64 (a8 + z))).drew).cell? ⟨w.heap.size + 1, 2, none⟩ = some (.string too) := by simp [go_sem, o2, d0, d1, d8]
  have vo3 : ((((W.setCell ⟨w.heap.size + 1 + 1, 0, none⟩ (.int .i64 (a0 + x))).setCell ⟨w.heap.size + 1 + 1, 1, none⟩ (.int .i64 (a1 + y))).setCell ⟨w.heap.size + 1 + 1, 8, none⟩ (.int .i64 (a8 + z))).drew).cell? ⟨w.heap.size + 1, 3, none⟩ = some (.int .i64 n) := by simp [go_sem, o3, d0, d1, d8]
  have vo4 : ((((W.setCell ⟨w.heap.size + 1 + 1, 0, none⟩ (.int .i64 (a0 + x))).setCell ⟨w.heap.size + 1 + 1, 1, none⟩ (.int .i64 (a1 + y))).setCell ⟨w.heap.size + 1 + 1, 8, none⟩ (.int .i64 (a8 + z))).drew).cell? ⟨w.heap.size + 1, 4, none⟩ = some (.slice B len cap) := by simp [go_sem, o4, d0, d1, d8]
  have vd0 : ((((W.setCell ⟨w.heap.size + 1 + 1, 0, none⟩ (.int .i64 (a0 + x))).setCell ⟨w.heap.size + 1 + 1, 1, none⟩ (.int .i64 (a1 + y))).setCell ⟨w.heap.size + 1 + 1, 8, none⟩ (.int .i64 (a8 + z))).drew).cell? ⟨w.heap.size + 1 + 1, 0, none⟩ = some (.int .i64 (a0 + x)) := by simp [go_sem, d0, d0, d1, d8]
  have vd1 : ((((W.setCell ⟨w.heap.size + 1 + 1, 0, none⟩ (.int .i64 (a0 + x))).setCell ⟨w.heap.size + 1 + 1, 1, none⟩ (.int .i64 (a1 + y))).setCell ⟨w.heap.size + 1 + 1, 8, none⟩ (.int .i64 (a8 + z))).drew).cell? ⟨w.heap.size + 1 + 1, 1, none⟩ = some (.int .i64 (a1 + y)) := by simp [go_sem, d1, d0, d1, d8]
  have vd2 : ((((W.setCell ⟨w.heap.size + 1 + 1, 0, none⟩ (.int .i64 (a0 + x))).setCell ⟨w.heap.size + 1 + 1, 1, none⟩ (.int .i64 (a1 + y))).setCell ⟨w.heap.size + 1 + 1, 8, none⟩ (.int .i64 (a8 + z))).drew).cell? ⟨w.heap.size + 1 + 1, 2, none⟩ = some (.int .i64 a2) := by simp [go_sem, d2, d0, d1, d8]
  have vd3 : ((((W.setCell ⟨w.heap.size + 1 + 1, 0, none⟩ (.int .i64 (a0 + x))).setCell ⟨w.heap.size + 1 + 1, 1, none⟩ (.int .i64 (a1 + y))).setCell ⟨w.heap.size + 1 + 1, 8, none⟩ (.int .i64 (a8 + z))).drew).cell? ⟨w.heap.size + 1 + 1, 3, none⟩ = some (.int .i64 a3) := by simp [go_sem, d3, d0, d1, d8]
  have vd4 : ((((W.setCell ⟨w.heap.size + 1 + 1, 0, none⟩ (.int .i64 (a0 + x))).setCell ⟨w.heap.size + 1 + 1, 1, none⟩ (.int .i64 (a1 + y))).setCell ⟨w.heap.size + 1 + 1, 8, none⟩ (.int .i64 (a8 + z))).drew).cell? ⟨w.heap.size + 1 + 1, 4, none⟩ = some (.int .i64 a4) := by simp [go_sem, d4, d0, d1, d8]
  have vd5 : ((((W.setCell ⟨w.heap.size + 1 + 1, 0, none⟩ (.int .i64 (a0 + x))).setCell ⟨w.heap.size + 1 + 1, 1, none⟩ (.int .i64 (a1 + y))).setCell ⟨w.heap.size + 1 + 1, 8, none⟩ (.int .i64 (a8 + z))).drew).cell? ⟨w.heap.size + 1 + 1, 5, none⟩ = some (.int .i64 a5) := by simp [go_sem, d5, d0, d1, d8]
  have vd6 : ((((W.setCell ⟨w.heap.size + 1 + 1, 0, none⟩ (.int .i64 (a0 + x))).setCell ⟨w.heap.size + 1 + 1, 1, none⟩ (.int .i64 (a1 + y))).setCell ⟨w.heap.size + 1 + 1, 8, none⟩ (.int .i64 (a8 + z))).drew).cell? ⟨w.heap.size + 1 + 1, 6, none⟩ = some (.int .i64 a6) := by simp [go_sem, d6, d0, d1, d8]
  have vd7 : ((((W.setCell ⟨w.heap.size + 1 + 1, 0, none⟩ (.int .i64 (a0 + x))).setCell ⟨w.heap.size + 1 + 1, 1, none⟩ (.int .i64 (a1 + y))).setCell ⟨w.heap.size + 1 + 1, 8, none⟩ (.int .i64 (a8 + z))).drew).cell? ⟨w.heap.size + 1 + 1, 7, none⟩ = some (.int .i64 a7) := by simp [go_sem, d7, d0, d1, d8]
  have vd8 : ((((W.setCell ⟨w.heap.size + 1 + 1, 0, none⟩ (.int .i64 (a0 + x))).setCell ⟨w.heap.size + 1 + 1, 1, none⟩ (.int .i64 (a1 + y))).setCell ⟨w.heap.size + 1 + 1, 8, none⟩ (.int .i64 (a8 + z))).drew).cell? ⟨w.heap.size + 1 + 1, 8, none⟩ = some (.int .i64 (a8 + z)) := by simp [go_sem, d8, d0, d1, d8]
  clear c0 c1 c2 c3 c4 c5 c6 c7 c8 o0 o1 o2 o3 o4 d0 d1 d2 d3 d4 d5 d6 d7 d8 f0 f1 f8 hW
  generalize ((((W.setCell ⟨w.heap.size + 1 + 1, 0, none⟩ (.int .i64 (a0 + x))).setCell ⟨w.heap.size + 1 + 1, 1, none⟩ (.int .i64 (a1 + y))).setCell ⟨w.heap.size + 1 + 1, 8, none⟩ (.int .i64 (a8 + z))).drew) = V at *
  go_wp2_with fail
  refine (live_any _).mono ?_
  rintro e w1 ⟨rfl, hb⟩
  have xvc0 := bel_later hb vc0
  have xvc1 := bel_later hb vc1
  have xvc2 := bel_later hb vc2
  have xvc3 := bel_later hb vc3
  have xvc4 := bel_later hb vc4
  have xvc5 := bel_later hb vc5
  have xvc6 := bel_later hb vc6
  have xvc7 := bel_later hb vc7
  have xvc8 := bel_later hb vc8
  have xvo0 := bel_later hb vo0
  have xvo1 := bel_later hb vo1
  have xvo2 := bel_later hb vo2
  have xvo3 := bel_later hb vo3
  have xvo4 := bel_later hb vo4
  have xvd0 := bel_later hb vd0
  have xvd1 := bel_later hb vd1
  have xvd2 := bel_later hb vd2
  have xvd3 := bel_later hb vd3
  have xvd4 := bel_later hb vd4
  have xvd5 := bel_later hb vd5
  have xvd6 := bel_later hb vd6
  have xvd7 := bel_later hb vd7
  have xvd8 := bel_later hb vd8
  have hw1 : Below w.heap.size w w1 := bel_step hV hb (Nat.le_refl _)
  clear hb hV vc0 vc1 vc2 vc3 vc4 vc5 vc6 vc7 vc8 vo0 vo1 vo2 vo3 vo4 vd0 vd1 vd2 vd3 vd4 vd5 vd6 vd7 vd8
  have C0 := fun W h => ask_any k n a0 a1 a2 a3 a4 a5 a6 a7 a8 key too B len cap l W hl h
  have C1 := fun W h => ask_any k n (a0 + x) (a1 + y) a2 a3 a4 a5 a6 a7 (a8 + z) key too B len cap l W hl h
  have hm : askF k n a0 a1 a8 key too len l = 0 → askF k n (a0 + x) (a1 + y) (a8 + z) key too len l = 0 := askF_mono (by omega) (by omega) (by omega)
  obtain ⟨v0, hv0⟩ : ∃ v, v = askF k n a0 a1 a8 key too len l := ⟨_, rfl⟩
  obtain ⟨v1, hv1⟩ : ∃ v, v = askF k n (a0 + x) (a1 + y) (a8 + z) key too len l := ⟨_, rfl⟩
  rw [← hv0] at C0 hm
  rw [← hv1] at C1 hm
  have D0 := Lib.hid C0
  have D1 := Lib.hid C1
  clear C0 C1 hv0 hv1
  by_cases hz0 : v0 = 0
  · have hz1 : v1 = 0 := hm hz0
    subst hz0 hz1
    clear hm
    go_wp2_with fail
    refine (D0.out _ (HA.out.keep hw1)).mono ?_
    rintro e w2 ⟨rfl, hb⟩
    have yvc0 := bel_later hb xvc0
    have yvc1 := bel_later hb xvc1
    have yvc2 := bel_later hb xvc2
    have yvc3 := bel_later hb xvc3
    have yvc4 := bel_later hb xvc4
    have yvc5 := bel_later hb xvc5
    have yvc6 := bel_later hb xvc6
    have yvc7 := bel_later hb xvc7
    have yvc8 := bel_later hb xvc8
    have yvo0 := bel_later hb xvo0
    have yvo1 := bel_later hb xvo1
    have yvo2 := bel_later hb xvo2
    have yvo3 := bel_later hb xvo3
    have yvo4 := bel_later hb xvo4
    have yvd0 := bel_later hb xvd0
    have yvd1 := bel_later hb xvd1
    have yvd2 := bel_later hb xvd2
    have yvd3 := bel_later hb xvd3
    have yvd4 := bel_later hb xvd4
    have yvd5 := bel_later hb xvd5
    have yvd6 := bel_later hb xvd6
    have yvd7 := bel_later hb xvd7
    have yvd8 := bel_later hb xvd8
    have hw2 : Below w.heap.size w w2 := bel_step hw1 hb (Nat.le_refl _)
    clear hb hw1 xvc0 xvc1 xvc2 xvc3 xvc4 xvc5 xvc6 xvc7 xvc8 xvo0 xvo1 xvo2 xvo3 xvo4 xvd0 xvd1 xvd2 xvd3 xvd4 xvd5 xvd6 xvd7 xvd8
    go_wp2_with fail
    refine (D1.out _ (HA.out.keep hw2)).mono ?_
    rintro e w3 ⟨rfl, hb⟩
    have hw3 : Below w.heap.size w w3 := bel_step hw2 hb (Nat.le_refl _)
    clear hb hw2
    go_wp2
    go_ret
    exact ⟨rfl, hw3⟩
  · clear hm
    go_wp2_with fail
    refine (D0.out _ (HA.out.keep hw1)).mono ?_
    rintro e w2 ⟨rfl, hb⟩
    have hw2 : Below w.heap.size w w2 := bel_step hw1 hb (Nat.le_refl _)
    clear hb hw1
    go_wp2
    go_ret
    exact ⟨by simp, hw2⟩
set_option maxRecDepth 100000 in
set_option maxHeartbeats 4000000 in
theorem wider_a (k n a0 a1 a2 a3 a4 a5 a6 a7 a8 x y z : Int) (key too : ByteArray) (B : Option Addr) (len cap : Nat) (w : World) (u : 256 < a0) :
    Calls Try.prog 5 #[cfg a0 a1 a2 a3 a4 a5 a6 a7 a8, .agg #[.int .u8 k, .string key, .string too, .int .i64 n, .slice B len cap], .int .u8 x, .int .u8 y, .int .u8 z] w fun e w' => e = .returned (.bool true) ∧ Below w.heap.size w w' := by
  have dd0 : decide (256 < a0) = true := by simp; omega
  go_enter Try.func5, Try.ntmps5
  go_wp2_with fail
  refine (live_any _).mono ?_
  rintro e w1 ⟨rfl, hb⟩
  have hw : Below w.heap.size w w1 := Below.trans (by go_grown) (hb.mono (by simp; try omega))
  go_wp2
  go_ret
  exact ⟨rfl, hw⟩
set_option maxRecDepth 100000 in
set_option maxHeartbeats 4000000 in
theorem wider_b (k n a0 a1 a2 a3 a4 a5 a6 a7 a8 x y z : Int) (key too : ByteArray) (B : Option Addr) (len cap : Nat) (w : World) (v : ¬ 256 < a0) (u : 4096 < a1) :
    Calls Try.prog 5 #[cfg a0 a1 a2 a3 a4 a5 a6 a7 a8, .agg #[.int .u8 k, .string key, .string too, .int .i64 n, .slice B len cap], .int .u8 x, .int .u8 y, .int .u8 z] w fun e w' => e = .returned (.bool true) ∧ Below w.heap.size w w' := by
  have dd0 : decide (256 < a0) = false := by simp; omega
  have dd1 : decide (4096 < a1) = true := by simp; omega
  go_enter Try.func5, Try.ntmps5
  go_wp2_with fail
  refine (live_any _).mono ?_
  rintro e w1 ⟨rfl, hb⟩
  have hw : Below w.heap.size w w1 := Below.trans (by go_grown) (hb.mono (by simp; try omega))
  go_wp2
  go_ret
  exact ⟨rfl, hw⟩
set_option maxRecDepth 100000 in
set_option maxHeartbeats 4000000 in
theorem wider_c (k n a0 a1 a2 a3 a4 a5 a6 a7 a8 x y z : Int) (key too : ByteArray) (B : Option Addr) (len cap : Nat) (w : World) (v : ¬ 256 < a0) (v1 : ¬ 4096 < a1) (u : 1024 < a8) :
    Calls Try.prog 5 #[cfg a0 a1 a2 a3 a4 a5 a6 a7 a8, .agg #[.int .u8 k, .string key, .string too, .int .i64 n, .slice B len cap], .int .u8 x, .int .u8 y, .int .u8 z] w fun e w' => e = .returned (.bool true) ∧ Below w.heap.size w w' := by
  have dd0 : decide (256 < a0) = false := by simp; omega
  have dd1 : decide (4096 < a1) = false := by simp; omega
  have dd2 : decide (1024 < a8) = true := by simp; omega
  go_enter Try.func5, Try.ntmps5
  go_wp2_with fail
  refine (live_any _).mono ?_
  rintro e w1 ⟨rfl, hb⟩
  have hw : Below w.heap.size w w1 := Below.trans (by go_grown) (hb.mono (by simp; try omega))
  go_wp2
  go_ret
  exact ⟨rfl, hw⟩
end Go.Proofs.Ytifikngmddfahaa
