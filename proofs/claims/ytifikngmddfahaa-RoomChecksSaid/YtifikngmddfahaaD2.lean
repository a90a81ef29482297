/- What may be asked: the document's answer, what is zero. -/
import Derived.Test.YtifikngmddfahaaB6
namespace Go.Proofs.Ytifikngmddfahaa
set_option linter.unusedSimpArgs false
open Go.RowKit
set_option linter.unusedVariables false

set_option maxRecDepth 100000 in
set_option maxHeartbeats 4000000 in
theorem zero_1 (n : Int) (key too : ByteArray) (B : Option Addr) (len cap : Nat) (w : World) :
    Calls Try.prog 19 #[.agg #[.int .u8 1, .string key, .string too, .int .i64 n, .slice B len cap]] w fun e w' => e = .returned (.bool (opureB 1 n key too len)) ∧ Below w.heap.size w w' := by
  obtain ⟨r, hr⟩ : ∃ r, r = opureB 1 n key too len := ⟨_, rfl⟩
  rw [← hr]
  have HR := Lib.hid hr
  clear hr
  go_enter Try.func19, Try.ntmps19
  go_wp2
  all_goals
    go_ret
    refine ⟨?_, by go_grown⟩
    rw [HR.out]
    have hbq : ((len : Int) == 0) = (len == 0) := by rw [Bool.eq_iff_iff]; simp
    clear HR
    first
    | (simp_all [opureB, emp]; done)
    | (simp [opureB, emp, *]; done)
    | (trace_state; fail)
set_option maxRecDepth 100000 in
set_option maxHeartbeats 4000000 in
theorem zero_2 (n : Int) (key too : ByteArray) (B : Option Addr) (len cap : Nat) (w : World) :
    Calls Try.prog 19 #[.agg #[.int .u8 2, .string key, .string too, .int .i64 n, .slice B len cap]] w fun e w' => e = .returned (.bool (opureB 2 n key too len)) ∧ Below w.heap.size w w' := by
  obtain ⟨r, hr⟩ : ∃ r, r = opureB 2 n key too len := ⟨_, rfl⟩
  rw [← hr]
  have HR := Lib.hid hr
  clear hr
  go_enter Try.func19, Try.ntmps19
  go_wp2
  all_goals
    go_ret
    refine ⟨?_, by go_grown⟩
    rw [HR.out]
    have hbq : ((len : Int) == 0) = (len == 0) := by rw [Bool.eq_iff_iff]; simp
    clear HR
    first
    | (simp_all [opureB, emp]; done)
    | (simp [opureB, emp, *]; done)
    | (trace_state; fail)
set_option maxRecDepth 100000 in
set_option maxHeartbeats 4000000 in
theorem zero_3 (n : Int) (key too : ByteArray) (B : Option Addr) (len cap : Nat) (w : World) :
    Calls Try.prog 19 #[.agg #[.int .u8 3, .string key, .string too, .int .i64 n, .slice B len cap]] w fun e w' => e = .returned (.bool (opureB 3 n key too len)) ∧ Below w.heap.size w w' := by
  obtain ⟨r, hr⟩ : ∃ r, r = opureB 3 n key too len := ⟨_, rfl⟩
  rw [← hr]
  have HR := Lib.hid hr
  clear hr
  go_enter Try.func19, Try.ntmps19
  go_wp2
  all_goals
    go_ret
    refine ⟨?_, by go_grown⟩
    rw [HR.out]
    have hbq : ((len : Int) == 0) = (len == 0) := by rw [Bool.eq_iff_iff]; simp
    clear HR
    first
    | (simp_all [opureB, emp]; done)
    | (simp [opureB, emp, *]; done)
    | (trace_state; fail)
set_option maxRecDepth 100000 in
set_option maxHeartbeats 4000000 in
theorem zero_4 (n : Int) (key too : ByteArray) (B : Option Addr) (len cap : Nat) (w : World) :
    Calls Try.prog 19 #[.agg #[.int .u8 4, .string key, .string too, .int .i64 n, .slice B len cap]] w fun e w' => e = .returned (.bool (opureB 4 n key too len)) ∧ Below w.heap.size w w' := by
  obtain ⟨r, hr⟩ : ∃ r, r = opureB 4 n key too len := ⟨_, rfl⟩
  rw [← hr]
  have HR := Lib.hid hr
  clear hr
  go_enter Try.func19, Try.ntmps19
  go_wp2
  all_goals
    go_ret
    refine ⟨?_, by go_grown⟩
    rw [HR.out]
    have hbq : ((len : Int) == 0) = (len == 0) := by rw [Bool.eq_iff_iff]; simp
    clear HR
    first
    | (simp_all [opureB, emp]; done)
    | (simp [opureB, emp, *]; done)
    | (trace_state; fail)
set_option maxRecDepth 100000 in
set_option maxHeartbeats 4000000 in
theorem zero_5 (n : Int) (key too : ByteArray) (B : Option Addr) (len cap : Nat) (w : World) :
    Calls Try.prog 19 #[.agg #[.int .u8 5, .string key, .string too, .int .i64 n, .slice B len cap]] w fun e w' => e = .returned (.bool (opureB 5 n key too len)) ∧ Below w.heap.size w w' := by
  obtain ⟨r, hr⟩ : ∃ r, r = opureB 5 n key too len := ⟨_, rfl⟩
  rw [← hr]
  have HR := Lib.hid hr
  clear hr
  go_enter Try.func19, Try.ntmps19
  go_wp2
  all_goals
    go_ret
    refine ⟨?_, by go_grown⟩
    rw [HR.out]
    have hbq : ((len : Int) == 0) = (len == 0) := by rw [Bool.eq_iff_iff]; simp
    clear HR
    first
    | (simp_all [opureB, emp]; done)
    | (simp [opureB, emp, *]; done)
    | (trace_state; fail)
set_option maxRecDepth 100000 in
set_option maxHeartbeats 4000000 in
theorem zero_6 (n : Int) (key too : ByteArray) (B : Option Addr) (len cap : Nat) (w : World) :
    Calls Try.prog 19 #[.agg #[.int .u8 6, .string key, .string too, .int .i64 n, .slice B len cap]] w fun e w' => e = .returned (.bool (opureB 6 n key too len)) ∧ Below w.heap.size w w' := by
  obtain ⟨r, hr⟩ : ∃ r, r = opureB 6 n key too len := ⟨_, rfl⟩
  rw [← hr]
  have HR := Lib.hid hr
  clear hr
  go_enter Try.func19, Try.ntmps19
  go_wp2
  all_goals
    go_ret
    refine ⟨?_, by go_grown⟩
    rw [HR.out]
    have hbq : ((len : Int) == 0) = (len == 0) := by rw [Bool.eq_iff_iff]; simp
    clear HR
    first
    | (simp_all [opureB, emp]; done)
    | (simp [opureB, emp, *]; done)
    | (trace_state; fail)
theorem zero_any (k n : Int) (key too : ByteArray) (B : Option Addr) (len cap : Nat) (w : World) (h1 : 1 ≤ k) (h2 : k ≤ 6) :
    Calls Try.prog 19 #[.agg #[.int .u8 k, .string key, .string too, .int .i64 n, .slice B len cap]] w fun e w' => e = .returned (.bool (opureB k n key too len)) ∧ Below w.heap.size w w' := by
  rcases (by omega : k = 1 ∨ k = 2 ∨ k = 3 ∨ k = 4 ∨ k = 5 ∨ k = 6) with rfl | rfl | rfl | rfl | rfl | rfl
  · exact zero_1 n key too B len cap w
  · exact zero_2 n key too B len cap w
  · exact zero_3 n key too B len cap w
  · exact zero_4 n key too B len cap w
  · exact zero_5 n key too B len cap w
  · exact zero_6 n key too B len cap w
end Go.Proofs.Ytifikngmddfahaa
