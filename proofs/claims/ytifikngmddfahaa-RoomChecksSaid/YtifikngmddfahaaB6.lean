/- What may be asked: an operation's form. -/
import Derived.Test.YtifikngmddfahaaB1
namespace Go.Proofs.Ytifikngmddfahaa
set_option linter.unusedSimpArgs false
open Go.RowKit
set_option linter.unusedVariables false

/-- Has an operation nothing but what belongs to its kind? -/
def opureB (k n : Int) (key too : ByteArray) (len : Nat) : Bool :=
  if k = 1 then emp too && (n == 0) && (len == 0)
  else if k = 2 then emp key && emp too && (n == 0)
  else if k = 3 then len == 0
  else if k = 4 then (n == 0) && (len == 0)
  else if k = 5 ∨ k = 6 then emp key && emp too && (len == 0)
  else false

set_option maxRecDepth 100000 in
set_option maxHeartbeats 4000000 in
theorem opure_y (k n : Int) (key too : ByteArray) (B : Option Addr) (len cap : Nat) (w : World) (hk : key.toList = []) :
    Calls Try.prog 15 #[.agg #[.int .u8 k, .string key, .string too, .int .i64 n, .slice B len cap]] w fun e w' => e = .returned (.bool (opureB k n key too len)) ∧ Below w.heap.size w w' := by
  obtain ⟨r, hr⟩ : ∃ r, r = opureB k n key too len := ⟨_, rfl⟩
  rw [← hr]
  have HR := Lib.hid hr
  clear hr
  have hke : key.toList.isEmpty = true := by simp [hk]
  go_enter Try.func15, Try.ntmps15
  go_wp2_with fail
  have e0 : (w.alloc (.cells #[.int .u8 k, .string key, .string too, .int .i64 n, .slice B len cap] 27)).cell? ⟨w.heap.size, 0, none⟩ = some (.int .u8 k) := by simp [go_sem]
  have e1 : (w.alloc (.cells #[.int .u8 k, .string key, .string too, .int .i64 n, .slice B len cap] 27)).cell? ⟨w.heap.size, 1, none⟩ = some (.string key) := by simp [go_sem]
  have e2 : (w.alloc (.cells #[.int .u8 k, .string key, .string too, .int .i64 n, .slice B len cap] 27)).cell? ⟨w.heap.size, 2, none⟩ = some (.string too) := by simp [go_sem]
  have e3 : (w.alloc (.cells #[.int .u8 k, .string key, .string too, .int .i64 n, .slice B len cap] 27)).cell? ⟨w.heap.size, 3, none⟩ = some (.int .i64 n) := by simp [go_sem]
  have e4 : (w.alloc (.cells #[.int .u8 k, .string key, .string too, .int .i64 n, .slice B len cap] 27)).cell? ⟨w.heap.size, 4, none⟩ = some (.slice B len cap) := by simp [go_sem]
  have hW : Below w.heap.size w (w.alloc (.cells #[.int .u8 k, .string key, .string too, .int .i64 n, .slice B len cap] 27)) := by go_grown
  generalize (w.alloc (.cells #[.int .u8 k, .string key, .string too, .int .i64 n, .slice B len cap] 27)) = W at *
  go_quiet (fail)
  go_wp2_with fail
  all_goals
    go_ret
    refine ⟨?_, below_drewN hW _⟩
    rw [HR.out]
    have hbq : ((len : Int) == 0) = (len == 0) := by rw [Bool.eq_iff_iff]; simp
    clear HR
    first
    | (simp_all [opureB, emp]; done)
    | (simp [opureB, emp, *]; done)
    | (trace_state; fail)
set_option maxRecDepth 100000 in
set_option maxHeartbeats 4000000 in
theorem opure_n (k n : Int) (key too : ByteArray) (B : Option Addr) (len cap : Nat) (w : World) (hk : ¬ key.toList = []) :
    Calls Try.prog 15 #[.agg #[.int .u8 k, .string key, .string too, .int .i64 n, .slice B len cap]] w fun e w' => e = .returned (.bool (opureB k n key too len)) ∧ Below w.heap.size w w' := by
  obtain ⟨r, hr⟩ : ∃ r, r = opureB k n key too len := ⟨_, rfl⟩
  rw [← hr]
  have HR := Lib.hid hr
  clear hr
  have hke : key.toList.isEmpty = false := by simp [hk]
  go_enter Try.func15, Try.ntmps15
  go_wp2_with fail
  have e0 : (w.alloc (.cells #[.int .u8 k, .string key, .string too, .int .i64 n, .slice B len cap] 27)).cell? ⟨w.heap.size, 0, none⟩ = some (.int .u8 k) := by simp [go_sem]
  have e1 : (w.alloc (.cells #[.int .u8 k, .string key, .string too, .int .i64 n, .slice B len cap] 27)).cell? ⟨w.heap.size, 1, none⟩ = some (.string key) := by simp [go_sem]
  have e2 : (w.alloc (.cells #[.int .u8 k, .string key, .string too, .int .i64 n, .slice B len cap] 27)).cell? ⟨w.heap.size, 2, none⟩ = some (.string too) := by simp [go_sem]
  have e3 : (w.alloc (.cells #[.int .u8 k, .string key, .string too, .int .i64 n, .slice B len cap] 27)).cell? ⟨w.heap.size, 3, none⟩ = some (.int .i64 n) := by simp [go_sem]
  have e4 : (w.alloc (.cells #[.int .u8 k, .string key, .string too, .int .i64 n, .slice B len cap] 27)).cell? ⟨w.heap.size, 4, none⟩ = some (.slice B len cap) := by simp [go_sem]
  have hW : Below w.heap.size w (w.alloc (.cells #[.int .u8 k, .string key, .string too, .int .i64 n, .slice B len cap] 27)) := by go_grown
  generalize (w.alloc (.cells #[.int .u8 k, .string key, .string too, .int .i64 n, .slice B len cap] 27)) = W at *
  go_quiet (fail)
  go_wp2_with fail
  all_goals
    go_ret
    refine ⟨?_, below_drewN hW _⟩
    rw [HR.out]
    have hbq : ((len : Int) == 0) = (len == 0) := by rw [Bool.eq_iff_iff]; simp
    clear HR
    first
    | (simp_all [opureB, emp]; done)
    | (simp [opureB, emp, *]; done)
    | (trace_state; fail)
theorem opure_any (k n : Int) (key too : ByteArray) (B : Option Addr) (len cap : Nat) (w : World) :
    Calls Try.prog 15 #[.agg #[.int .u8 k, .string key, .string too, .int .i64 n, .slice B len cap]] w fun e w' => e = .returned (.bool (opureB k n key too len)) ∧ Below w.heap.size w w' := by
  by_cases h : key.toList = []
  · exact opure_y k n key too B len cap w h
  · exact opure_n k n key too B len cap w h
end Go.Proofs.Ytifikngmddfahaa
