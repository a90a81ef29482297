/- The contract of a deed on a lock word. -/
import Derived.Test.YtpgiidfifhocpaaA7
namespace Go.Proofs.Ytpgiidfifhocpaa
set_option linter.unusedSimpArgs false
open Go.RowKit
set_option linter.unusedVariables false
attribute [local go_sem] iss

def opF (v o : Int) (g : Bool) (k who : Int) : Q := if k = 0 then tryF v o g who else if k = 1 then freeF v o g who else if k = 2 then bumpF v o g who else if k = 3 then retireF v o g who else if k = 4 then renewF v o g else (v, o, g, 15)
abbrev P4 := Int × Int × Bool × Bool
def stepF (v o : Int) (g : Bool) (k who : Int) : P4 := if (opF v o g k who).2.2.2 = 0 then ((opF v o g k who).1, (opF v o g k who).2.1, (opF v o g k who).2.2.1, true) else (v, o, g, false)
abbrev tv (r : P4) : Value := .tuple #[.agg #[.int .i64 r.1, .int .i64 r.2.1, .bool r.2.2.1], .bool r.2.2.2]

set_option maxHeartbeats 1000000 in
theorem step_try_ok (v o : Int) (g : Bool) (who : Int) (w : World) (r0 r1 : Int) (r2 : Bool) (re : Int) (hr : re = 0)
    (C : Hid (∀ w, Calls Try.prog 8 #[.agg #[.int .i64 v, .int .i64 o, .bool g], .int .i64 who] w fun e w' => e = .returned (qv (r0, r1, r2, re)) ∧ Below w.heap.size w w')) :
    Calls Try.prog 29 #[.agg #[.int .i64 v, .int .i64 o, .bool g], .agg #[.int .i64 0, .int .i64 who]] w fun e w' => e = .returned (tv (r0, r1, r2, true)) ∧ Below w.heap.size w w' := by
  have hr' : (re != 0) = false := by simp [hr]
  subst hr
  go_enter Try.func29, Try.ntmps29
  go_wp2_with fail
  refine (C.out _).mono ?_
  rintro e w1 ⟨rfl, hb⟩
  obtain ⟨a0, a1, a2, a3, a4, a5⟩ := keep3 hb w.heap.size (.int .i64 v) (.int .i64 o) (.bool g) (by simp [go_sem]) (by simp [go_sem]) (by simp [go_sem]) (by simp [go_sem]) (by simp [go_sem]) (by simp [go_sem])
  obtain ⟨c0, c1, c2, c3, c4, c5⟩ := keep3 hb (w.heap.size + 1 + 1) (.int .i64 0) (.int .i64 0) (.bool false) (by simp [go_sem]) (by simp [go_sem]) (by simp [go_sem]) (by simp [go_sem]) (by simp [go_sem]) (by simp [go_sem])
  obtain ⟨d0, d1, d2, d3, d4, d5⟩ := keep3 hb (w.heap.size + 1 + 1 + 1) (.int .i64 v) (.int .i64 o) (.bool g) (by simp [go_sem]) (by simp [go_sem]) (by simp [go_sem]) (by simp [go_sem]) (by simp [go_sem]) (by simp [go_sem])
  have hB : Below w.heap.size w w1 := (((((Below.refl _ _).alloc (Nat.le_refl _) _).alloc (by simp; try omega) _).alloc (by simp; try omega) _).alloc (by simp; try omega) _).trans (hb.mono (by simp; try omega))
  clear hb
  go_wp2_with fail
  refine bodyPost_ret (v := tv (r0, r1, r2, true)) (by simp [results, Try.results29, go_sem, c0, c1, c2, d0, d1, d2]) rfl ⟨rfl, below_store (below_store hB (by omega)) (by omega)⟩
set_option maxHeartbeats 1000000 in
theorem step_try_no (v o : Int) (g : Bool) (who : Int) (w : World) (r0 r1 : Int) (r2 : Bool) (re : Int) (hr : ¬ re = 0)
    (C : Hid (∀ w, Calls Try.prog 8 #[.agg #[.int .i64 v, .int .i64 o, .bool g], .int .i64 who] w fun e w' => e = .returned (qv (r0, r1, r2, re)) ∧ Below w.heap.size w w')) :
    Calls Try.prog 29 #[.agg #[.int .i64 v, .int .i64 o, .bool g], .agg #[.int .i64 0, .int .i64 who]] w fun e w' => e = .returned (tv (v, o, g, false)) ∧ Below w.heap.size w w' := by
  have hr' : (re != 0) = true := by simp [hr]
  clear hr
  go_enter Try.func29, Try.ntmps29
  go_wp2_with fail
  refine (C.out _).mono ?_
  rintro e w1 ⟨rfl, hb⟩
  obtain ⟨a0, a1, a2, a3, a4, a5⟩ := keep3 hb w.heap.size (.int .i64 v) (.int .i64 o) (.bool g) (by simp [go_sem]) (by simp [go_sem]) (by simp [go_sem]) (by simp [go_sem]) (by simp [go_sem]) (by simp [go_sem])
  obtain ⟨c0, c1, c2, c3, c4, c5⟩ := keep3 hb (w.heap.size + 1 + 1) (.int .i64 0) (.int .i64 0) (.bool false) (by simp [go_sem]) (by simp [go_sem]) (by simp [go_sem]) (by simp [go_sem]) (by simp [go_sem]) (by simp [go_sem])
  obtain ⟨d0, d1, d2, d3, d4, d5⟩ := keep3 hb (w.heap.size + 1 + 1 + 1) (.int .i64 v) (.int .i64 o) (.bool g) (by simp [go_sem]) (by simp [go_sem]) (by simp [go_sem]) (by simp [go_sem]) (by simp [go_sem]) (by simp [go_sem])
  have hB : Below w.heap.size w w1 := (((((Below.refl _ _).alloc (Nat.le_refl _) _).alloc (by simp; try omega) _).alloc (by simp; try omega) _).alloc (by simp; try omega) _).trans (hb.mono (by simp; try omega))
  clear hb
  go_wp2_with fail
  refine bodyPost_ret (v := tv (v, o, g, false)) (by simp [results, Try.results29, go_sem, c0, c1, c2, d0, d1, d2]) rfl ⟨rfl, below_store (below_store hB (by omega)) (by omega)⟩
set_option maxHeartbeats 1000000 in
theorem step_free_ok (v o : Int) (g : Bool) (who : Int) (w : World) (r0 r1 : Int) (r2 : Bool) (re : Int) (hr : re = 0)
    (C : Hid (∀ w, Calls Try.prog 10 #[.agg #[.int .i64 v, .int .i64 o, .bool g], .int .i64 who] w fun e w' => e = .returned (qv (r0, r1, r2, re)) ∧ Below w.heap.size w w')) :
    Calls Try.prog 29 #[.agg #[.int .i64 v, .int .i64 o, .bool g], .agg #[.int .i64 1, .int .i64 who]] w fun e w' => e = .returned (tv (r0, r1, r2, true)) ∧ Below w.heap.size w w' := by
  have hr' : (re != 0) = false := by simp [hr]
  subst hr
  go_enter Try.func29, Try.ntmps29
  go_wp2_with fail
  refine (C.out _).mono ?_
  rintro e w1 ⟨rfl, hb⟩
  obtain ⟨a0, a1, a2, a3, a4, a5⟩ := keep3 hb w.heap.size (.int .i64 v) (.int .i64 o) (.bool g) (by simp [go_sem]) (by simp [go_sem]) (by simp [go_sem]) (by simp [go_sem]) (by simp [go_sem]) (by simp [go_sem])
  obtain ⟨c0, c1, c2, c3, c4, c5⟩ := keep3 hb (w.heap.size + 1 + 1) (.int .i64 0) (.int .i64 0) (.bool false) (by simp [go_sem]) (by simp [go_sem]) (by simp [go_sem]) (by simp [go_sem]) (by simp [go_sem]) (by simp [go_sem])
  obtain ⟨d0, d1, d2, d3, d4, d5⟩ := keep3 hb (w.heap.size + 1 + 1 + 1) (.int .i64 v) (.int .i64 o) (.bool g) (by simp [go_sem]) (by simp [go_sem]) (by simp [go_sem]) (by simp [go_sem]) (by simp [go_sem]) (by simp [go_sem])
  have hB : Below w.heap.size w w1 := (((((Below.refl _ _).alloc (Nat.le_refl _) _).alloc (by simp; try omega) _).alloc (by simp; try omega) _).alloc (by simp; try omega) _).trans (hb.mono (by simp; try omega))
  clear hb
  go_wp2_with fail
  refine bodyPost_ret (v := tv (r0, r1, r2, true)) (by simp [results, Try.results29, go_sem, c0, c1, c2, d0, d1, d2]) rfl ⟨rfl, below_store (below_store hB (by omega)) (by omega)⟩
set_option maxHeartbeats 1000000 in
theorem step_free_no (v o : Int) (g : Bool) (who : Int) (w : World) (r0 r1 : Int) (r2 : Bool) (re : Int) (hr : ¬ re = 0)
    (C : Hid (∀ w, Calls Try.prog 10 #[.agg #[.int .i64 v, .int .i64 o, .bool g], .int .i64 who] w fun e w' => e = .returned (qv (r0, r1, r2, re)) ∧ Below w.heap.size w w')) :
    Calls Try.prog 29 #[.agg #[.int .i64 v, .int .i64 o, .bool g], .agg #[.int .i64 1, .int .i64 who]] w fun e w' => e = .returned (tv (v, o, g, false)) ∧ Below w.heap.size w w' := by
  have hr' : (re != 0) = true := by simp [hr]
  clear hr
  go_enter Try.func29, Try.ntmps29
  go_wp2_with fail
  refine (C.out _).mono ?_
  rintro e w1 ⟨rfl, hb⟩
  obtain ⟨a0, a1, a2, a3, a4, a5⟩ := keep3 hb w.heap.size (.int .i64 v) (.int .i64 o) (.bool g) (by simp [go_sem]) (by simp [go_sem]) (by simp [go_sem]) (by simp [go_sem]) (by simp [go_sem]) (by simp [go_sem])
  obtain ⟨c0, c1, c2, c3, c4, c5⟩ := keep3 hb (w.heap.size + 1 + 1) (.int .i64 0) (.int .i64 0) (.bool false) (by simp [go_sem]) (by simp [go_sem]) (by simp [go_sem]) (by simp [go_sem]) (by simp [go_sem]) (by simp [go_sem])
  obtain ⟨d0, d1, d2, d3, d4, d5⟩ := keep3 hb (w.heap.size + 1 + 1 + 1) (.int .i64 v) (.int .i64 o) (.bool g) (by simp [go_sem]) (by simp [go_sem]) (by simp [go_sem]) (by simp [go_sem]) (by simp [go_sem]) (by simp [go_sem])
  have hB : Below w.heap.size w w1 := (((((Below.refl _ _).alloc (Nat.le_refl _) _).alloc (by simp; try omega) _).alloc (by simp; try omega) _).alloc (by simp; try omega) _).trans (hb.mono (by simp; try omega))
  clear hb
  go_wp2_with fail
  refine bodyPost_ret (v := tv (v, o, g, false)) (by simp [results, Try.results29, go_sem, c0, c1, c2, d0, d1, d2]) rfl ⟨rfl, below_store (below_store hB (by omega)) (by omega)⟩
set_option maxHeartbeats 1000000 in
theorem step_bump_ok (v o : Int) (g : Bool) (who : Int) (w : World) (r0 r1 : Int) (r2 : Bool) (re : Int) (hr : re = 0)
    (C : Hid (∀ w, Calls Try.prog 14 #[.agg #[.int .i64 v, .int .i64 o, .bool g], .int .i64 who] w fun e w' => e = .returned (qv (r0, r1, r2, re)) ∧ Below w.heap.size w w')) :
    Calls Try.prog 29 #[.agg #[.int .i64 v, .int .i64 o, .bool g], .agg #[.int .i64 2, .int .i64 who]] w fun e w' => e = .returned (tv (r0, r1, r2, true)) ∧ Below w.heap.size w w' := by
  have hr' : (re != 0) = false := by simp [hr]
  subst hr
  go_enter Try.func29, Try.ntmps29
  go_wp2_with fail
  refine (C.out _).mono ?_
  rintro e w1 ⟨rfl, hb⟩
  obtain ⟨a0, a1, a2, a3, a4, a5⟩ := keep3 hb w.heap.size (.int .i64 v) (.int .i64 o) (.bool g) (by simp [go_sem]) (by simp [go_sem]) (by simp [go_sem]) (by simp [go_sem]) (by simp [go_sem]) (by simp [go_sem])
  obtain ⟨c0, c1, c2, c3, c4, c5⟩ := keep3 hb (w.heap.size + 1 + 1) (.int .i64 0) (.int .i64 0) (.bool false) (by simp [go_sem]) (by simp [go_sem]) (by simp [go_sem]) (by simp [go_sem]) (by simp [go_sem]) (by simp [go_sem])
  obtain ⟨d0, d1, d2, d3, d4, d5⟩ := keep3 hb (w.heap.size + 1 + 1 + 1) (.int .i64 v) (.int .i64 o) (.bool g) (by simp [go_sem]) (by simp [go_sem]) (by simp [go_sem]) (by simp [go_sem]) (by simp [go_sem]) (by simp [go_sem])
  have hB : Below w.heap.size w w1 := (((((Below.refl _ _).alloc (Nat.le_refl _) _).alloc (by simp; try omega) _).alloc (by simp; try omega) _).alloc (by simp; try omega) _).trans (hb.mono (by simp; try omega))
  clear hb
  go_wp2_with fail
  refine bodyPost_ret (v := tv (r0, r1, r2, true)) (by simp [results, Try.results29, go_sem, c0, c1, c2, d0, d1, d2]) rfl ⟨rfl, below_store (below_store hB (by omega)) (by omega)⟩
set_option maxHeartbeats 1000000 in
theorem step_bump_no (v o : Int) (g : Bool) (who : Int) (w : World) (r0 r1 : Int) (r2 : Bool) (re : Int) (hr : ¬ re = 0)
    (C : Hid (∀ w, Calls Try.prog 14 #[.agg #[.int .i64 v, .int .i64 o, .bool g], .int .i64 who] w fun e w' => e = .returned (qv (r0, r1, r2, re)) ∧ Below w.heap.size w w')) :
    Calls Try.prog 29 #[.agg #[.int .i64 v, .int .i64 o, .bool g], .agg #[.int .i64 2, .int .i64 who]] w fun e w' => e = .returned (tv (v, o, g, false)) ∧ Below w.heap.size w w' := by
  have hr' : (re != 0) = true := by simp [hr]
  clear hr
  go_enter Try.func29, Try.ntmps29
  go_wp2_with fail
  refine (C.out _).mono ?_
  rintro e w1 ⟨rfl, hb⟩
  obtain ⟨a0, a1, a2, a3, a4, a5⟩ := keep3 hb w.heap.size (.int .i64 v) (.int .i64 o) (.bool g) (by simp [go_sem]) (by simp [go_sem]) (by simp [go_sem]) (by simp [go_sem]) (by simp [go_sem]) (by simp [go_sem])
  obtain ⟨c0, c1, c2, c3, c4, c5⟩ := keep3 hb (w.heap.size + 1 + 1) (.int .i64 0) (.int .i64 0) (.bool false) (by simp [go_sem]) (by simp [go_sem]) (by simp [go_sem]) (by simp [go_sem]) (by simp [go_sem]) (by simp [go_sem])
  obtain ⟨d0, d1, d2, d3, d4, d5⟩ := keep3 hb (w.heap.size + 1 + 1 + 1) (.int .i64 v) (.int .i64 o) (.bool g) (by simp [go_sem]) (by simp [go_sem]) (by simp [go_sem]) (by simp [go_sem]) (by simp [go_sem]) (by simp [go_sem])
  have hB : Below w.heap.size w w1 := (((((Below.refl _ _).alloc (Nat.le_refl _) _).alloc (by simp; try omega) _).alloc (by simp; try omega) _).alloc (by simp; try omega) _).trans (hb.mono (by simp; try omega))
  clear hb
  go_wp2_with fail
  refine bodyPost_ret (v := tv (v, o, g, false)) (by simp [results, Try.results29, go_sem, c0, c1, c2, d0, d1, d2]) rfl ⟨rfl, below_store (below_store hB (by omega)) (by omega)⟩
set_option maxHeartbeats 1000000 in
theorem step_retire_ok (v o : Int) (g : Bool) (who : Int) (w : World) (r0 r1 : Int) (r2 : Bool) (re : Int) (hr : re = 0)
    (C : Hid (∀ w, Calls Try.prog 16 #[.agg #[.int .i64 v, .int .i64 o, .bool g], .int .i64 who] w fun e w' => e = .returned (qv (r0, r1, r2, re)) ∧ Below w.heap.size w w')) :
    Calls Try.prog 29 #[.agg #[.int .i64 v, .int .i64 o, .bool g], .agg #[.int .i64 3, .int .i64 who]] w fun e w' => e = .returned (tv (r0, r1, r2, true)) ∧ Below w.heap.size w w' := by
  have hr' : (re != 0) = false := by simp [hr]
  subst hr
  go_enter Try.func29, Try.ntmps29
  go_wp2_with fail
  refine (C.out _).mono ?_
  rintro e w1 ⟨rfl, hb⟩
  obtain ⟨a0, a1, a2, a3, a4, a5⟩ := keep3 hb w.heap.size (.int .i64 v) (.int .i64 o) (.bool g) (by simp [go_sem]) (by simp [go_sem]) (by simp [go_sem]) (by simp [go_sem]) (by simp [go_sem]) (by simp [go_sem])
  obtain ⟨c0, c1, c2, c3, c4, c5⟩ := keep3 hb (w.heap.size + 1 + 1) (.int .i64 0) (.int .i64 0) (.bool false) (by simp [go_sem]) (by simp [go_sem]) (by simp [go_sem]) (by simp [go_sem]) (by simp [go_sem]) (by simp [go_sem])
  obtain ⟨d0, d1, d2, d3, d4, d5⟩ := keep3 hb (w.heap.size + 1 + 1 + 1) (.int .i64 v) (.int .i64 o) (.bool g) (by simp [go_sem]) (by simp [go_sem]) (by simp [go_sem]) (by simp [go_sem]) (by simp [go_sem]) (by simp [go_sem])
  have hB : Below w.heap.size w w1 := (((((Below.refl _ _).alloc (Nat.le_refl _) _).alloc (by simp; try omega) _).alloc (by simp; try omega) _).alloc (by simp; try omega) _).trans (hb.mono (by simp; try omega))
  clear hb
  go_wp2_with fail
  refine bodyPost_ret (v := tv (r0, r1, r2, true)) (by simp [results, Try.results29, go_sem, c0, c1, c2, d0, d1, d2]) rfl ⟨rfl, below_store (below_store hB (by omega)) (by omega)⟩
set_option maxHeartbeats 1000000 in
theorem step_retire_no (v o : Int) (g : Bool) (who : Int) (w : World) (r0 r1 : Int) (r2 : Bool) (re : Int) (hr : ¬ re = 0)
    (C : Hid (∀ w, Calls Try.prog 16 #[.agg #[.int .i64 v, .int .i64 o, .bool g], .int .i64 who] w fun e w' => e = .returned (qv (r0, r1, r2, re)) ∧ Below w.heap.size w w')) :
    Calls Try.prog 29 #[.agg #[.int .i64 v, .int .i64 o, .bool g], .agg #[.int .i64 3, .int .i64 who]] w fun e w' => e = .returned (tv (v, o, g, false)) ∧ Below w.heap.size w w' := by
  have hr' : (re != 0) = true := by simp [hr]
  clear hr
  go_enter Try.func29, Try.ntmps29
  go_wp2_with fail
  refine (C.out _).mono ?_
  rintro e w1 ⟨rfl, hb⟩
  obtain ⟨a0, a1, a2, a3, a4, a5⟩ := keep3 hb w.heap.size (.int .i64 v) (.int .i64 o) (.bool g) (by simp [go_sem]) (by simp [go_sem]) (by simp [go_sem]) (by simp [go_sem]) (by simp [go_sem]) (by simp [go_sem])
  obtain ⟨c0, c1, c2, c3, c4, c5⟩ := keep3 hb (w.heap.size + 1 + 1) (.int .i64 0) (.int .i64 0) (.bool false) (by simp [go_sem]) (by simp [go_sem]) (by simp [go_sem]) (by simp [go_sem]) (by simp [go_sem]) (by simp [go_sem])
  obtain ⟨d0, d1, d2, d3, d4, d5⟩ := keep3 hb (w.heap.size + 1 + 1 + 1) (.int .i64 v) (.int .i64 o) (.bool g) (by simp [go_sem]) (by simp [go_sem]) (by simp [go_sem]) (by simp [go_sem]) (by simp [go_sem]) (by simp [go_sem])
  have hB : Below w.heap.size w w1 := (((((Below.refl _ _).alloc (Nat.le_refl _) _).alloc (by simp; try omega) _).alloc (by simp; try omega) _).alloc (by simp; try omega) _).trans (hb.mono (by simp; try omega))
  clear hb
  go_wp2_with fail
  refine bodyPost_ret (v := tv (v, o, g, false)) (by simp [results, Try.results29, go_sem, c0, c1, c2, d0, d1, d2]) rfl ⟨rfl, below_store (below_store hB (by omega)) (by omega)⟩
set_option maxHeartbeats 1000000 in
theorem step_renew_ok (v o : Int) (g : Bool) (who : Int) (w : World) (r0 r1 : Int) (r2 : Bool) (re : Int) (hr : re = 0)
    (C : Hid (∀ w, Calls Try.prog 18 #[.agg #[.int .i64 v, .int .i64 o, .bool g]] w fun e w' => e = .returned (qv (r0, r1, r2, re)) ∧ Below w.heap.size w w')) :
    Calls Try.prog 29 #[.agg #[.int .i64 v, .int .i64 o, .bool g], .agg #[.int .i64 4, .int .i64 who]] w fun e w' => e = .returned (tv (r0, r1, r2, true)) ∧ Below w.heap.size w w' := by
  have hr' : (re != 0) = false := by simp [hr]
  subst hr
  go_enter Try.func29, Try.ntmps29
  go_wp2_with fail
  refine (C.out _).mono ?_
  rintro e w1 ⟨rfl, hb⟩
  obtain ⟨a0, a1, a2, a3, a4, a5⟩ := keep3 hb w.heap.size (.int .i64 v) (.int .i64 o) (.bool g) (by simp [go_sem]) (by simp [go_sem]) (by simp [go_sem]) (by simp [go_sem]) (by simp [go_sem]) (by simp [go_sem])
  obtain ⟨c0, c1, c2, c3, c4, c5⟩ := keep3 hb (w.heap.size + 1 + 1) (.int .i64 0) (.int .i64 0) (.bool false) (by simp [go_sem]) (by simp [go_sem]) (by simp [go_sem]) (by simp [go_sem]) (by simp [go_sem]) (by simp [go_sem])
  obtain ⟨d0, d1, d2, d3, d4, d5⟩ := keep3 hb (w.heap.size + 1 + 1 + 1) (.int .i64 v) (.int .i64 o) (.bool g) (by simp [go_sem]) (by simp [go_sem]) (by simp [go_sem]) (by simp [go_sem]) (by simp [go_sem]) (by simp [go_sem])
  have hB : Below w.heap.size w w1 := (((((Below.refl _ _).alloc (Nat.le_refl _) _).alloc (by simp; try omega) _).alloc (by simp; try omega) _).alloc (by simp; try omega) _).trans (hb.mono (by simp; try omega))
  clear hb
  go_wp2_with fail
  refine bodyPost_ret (v := tv (r0, r1, r2, true)) (by simp [results, Try.results29, go_sem, c0, c1, c2, d0, d1, d2]) rfl ⟨rfl, below_store (below_store hB (by omega)) (by omega)⟩
set_option maxHeartbeats 1000000 in
theorem step_renew_no (v o : Int) (g : Bool) (who : Int) (w : World) (r0 r1 : Int) (r2 : Bool) (re : Int) (hr : ¬ re = 0)
    (C : Hid (∀ w, Calls Try.prog 18 #[.agg #[.int .i64 v, .int .i64 o, .bool g]] w fun e w' => e = .returned (qv (r0, r1, r2, re)) ∧ Below w.heap.size w w')) :
    Calls Try.prog 29 #[.agg #[.int .i64 v, .int .i64 o, .bool g], .agg #[.int .i64 4, .int .i64 who]] w fun e w' => e = .returned (tv (v, o, g, false)) ∧ Below w.heap.size w w' := by
  have hr' : (re != 0) = true := by simp [hr]
  clear hr
  go_enter Try.func29, Try.ntmps29
  go_wp2_with fail
  refine (C.out _).mono ?_
  rintro e w1 ⟨rfl, hb⟩
  obtain ⟨a0, a1, a2, a3, a4, a5⟩ := keep3 hb w.heap.size (.int .i64 v) (.int .i64 o) (.bool g) (by simp [go_sem]) (by simp [go_sem]) (by simp [go_sem]) (by simp [go_sem]) (by simp [go_sem]) (by simp [go_sem])
  obtain ⟨c0, c1, c2, c3, c4, c5⟩ := keep3 hb (w.heap.size + 1 + 1) (.int .i64 0) (.int .i64 0) (.bool false) (by simp [go_sem]) (by simp [go_sem]) (by simp [go_sem]) (by simp [go_sem]) (by simp [go_sem]) (by simp [go_sem])
  obtain ⟨d0, d1, d2, d3, d4, d5⟩ := keep3 hb (w.heap.size + 1 + 1 + 1) (.int .i64 v) (.int .i64 o) (.bool g) (by simp [go_sem]) (by simp [go_sem]) (by simp [go_sem]) (by simp [go_sem]) (by simp [go_sem]) (by simp [go_sem])
  have hB : Below w.heap.size w w1 := (((((Below.refl _ _).alloc (Nat.le_refl _) _).alloc (by simp; try omega) _).alloc (by simp; try omega) _).alloc (by simp; try omega) _).trans (hb.mono (by simp; try omega))
  clear hb
  go_wp2_with fail
  refine bodyPost_ret (v := tv (v, o, g, false)) (by simp [results, Try.results29, go_sem, c0, c1, c2, d0, d1, d2]) rfl ⟨rfl, below_store (below_store hB (by omega)) (by omega)⟩

set_option maxHeartbeats 1000000 in
theorem step_other (v o : Int) (g : Bool) (k who : Int) (w : World) (h0 : ¬ k = 0) (h1 : ¬ k = 1) (h2 : ¬ k = 2) (h3 : ¬ k = 3) (h4 : ¬ k = 4) :
    Calls Try.prog 29 #[.agg #[.int .i64 v, .int .i64 o, .bool g], .agg #[.int .i64 k, .int .i64 who]] w fun e w' => e = .returned (tv (v, o, g, false)) ∧ Below w.heap.size w w' := by
  have e0 : (k == 0) = false := by simp [h0]
  have e1 : (k == 1) = false := by simp [h1]
  have e2 : (k == 2) = false := by simp [h2]
  have e3 : (k == 3) = false := by simp [h3]
  have e4 : (k == 4) = false := by simp [h4]
  clear h0 h1 h2 h3 h4
  go_enter Try.func29, Try.ntmps29
  go_wp2_with fail
  refine bodyPost_ret (v := tv (v, o, g, false)) (by simp [results, Try.results29, go_sem]) rfl ⟨rfl, ((((Below.refl _ _).alloc (Nat.le_refl _) _).alloc (by simp; try omega) _).alloc (by simp; try omega) _).alloc (by simp; try omega) _⟩

theorem step_any (v o : Int) (g : Bool) (k who : Int) (w : World) (h0 : -9223372036854775808 ≤ v) :
    Calls Try.prog 29 #[.agg #[.int .i64 v, .int .i64 o, .bool g], .agg #[.int .i64 k, .int .i64 who]] w fun e w' => e = .returned (tv (stepF v o g k who)) ∧ Below w.heap.size w w' := by
  obtain ⟨r0, r1, r2, re, hr⟩ : ∃ r0 r1 r2 re, opF v o g k who = (r0, r1, r2, re) := ⟨_, _, _, _, rfl⟩
  have e : stepF v o g k who = if re = 0 then (r0, r1, r2, true) else (v, o, g, false) := by unfold stepF; rw [hr]
  rw [e]
  by_cases k0 : k = 0
  · subst k0
    have C := fun w => try_any v o g who w
    have hF : tryF v o g who = (r0, r1, r2, re) := by rw [← hr]; simp [opF]
    rw [hF] at C
    by_cases z : re = 0
    · rw [if_pos z]; exact step_try_ok v o g who w r0 r1 r2 re z C
    · rw [if_neg z]; exact step_try_no v o g who w r0 r1 r2 re z C
  by_cases k1 : k = 1
  · subst k1
    have C := fun w => free_any v o g who w h0
    have hF : freeF v o g who = (r0, r1, r2, re) := by rw [← hr]; simp [opF]
    rw [hF] at C
    by_cases z : re = 0
    · rw [if_pos z]; exact step_free_ok v o g who w r0 r1 r2 re z C
    · rw [if_neg z]; exact step_free_no v o g who w r0 r1 r2 re z C
  by_cases k2 : k = 2
  · subst k2
    have C := fun w => bump_any v o g who w h0
    have hF : bumpF v o g who = (r0, r1, r2, re) := by rw [← hr]; simp [opF]
    rw [hF] at C
    by_cases z : re = 0
    · rw [if_pos z]; exact step_bump_ok v o g who w r0 r1 r2 re z C
    · rw [if_neg z]; exact step_bump_no v o g who w r0 r1 r2 re z C
  by_cases k3 : k = 3
  · subst k3
    have C := fun w => retire_any v o g who w h0
    have hF : retireF v o g who = (r0, r1, r2, re) := by rw [← hr]; simp [opF]
    rw [hF] at C
    by_cases z : re = 0
    · rw [if_pos z]; exact step_retire_ok v o g who w r0 r1 r2 re z C
    · rw [if_neg z]; exact step_retire_no v o g who w r0 r1 r2 re z C
  by_cases k4 : k = 4
  · subst k4
    have C := fun w => renew_any v o g w h0
    have hF : renewF v o g = (r0, r1, r2, re) := by rw [← hr]; simp [opF]
    rw [hF] at C
    by_cases z : re = 0
    · rw [if_pos z]; exact step_renew_ok v o g who w r0 r1 r2 re z C
    · rw [if_neg z]; exact step_renew_no v o g who w r0 r1 r2 re z C
  have hF : opF v o g k who = (v, o, g, 15) := by simp [opF, k0, k1, k2, k3, k4]
  rw [hF] at hr
  have z : ¬ re = 0 := by have : (15 : Int) = re := congrArg (fun q : Q => q.2.2.2) hr; omega
  rw [if_neg z]
  exact step_other v o g k who w k0 k1 k2 k3 k4
end Go.Proofs.Ytpgiidfifhocpaa
