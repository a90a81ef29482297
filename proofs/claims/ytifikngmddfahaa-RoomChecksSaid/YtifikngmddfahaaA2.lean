/- How much room there must be: Need, Alone. -/
import Derived.Test.YtifikngmddfahaaA1
namespace Go.Proofs.Ytifikngmddfahaa
set_option linter.unusedSimpArgs false
open Go.RowKit
set_option linter.unusedVariables false

/-- A machine's sizes. -/
abbrev cfg (k v f b l bl n bu ch : Int) : Value := .agg #[.int .i64 k, .int .i64 v, .int .i64 f, .int .i64 b, .int .i64 l, .int .i64 bl, .int .i64 n, .int .i64 bu, .int .i64 ch]

def needF (l puts : Int) : Int := sumF [2, timesF [3, clp puts / (max (clp l) 2 / 2)]]
def aloneF (h : Int) : Int := sumF [h, 2]

theorem rd_lit (w : World) (t : TypeId) (l : List Value) : Rd (w.alloc (.cells l.toArray t)) (w.heap.size + 1) (some ⟨w.heap.size, 0, none⟩) l := by
  refine .inr ⟨w.heap.size, 0, rfl, by omega, fun j u hj => ?_⟩
  have h := cell_of_row (w.alloc (.cells l.toArray t)) w.heap.size j l.toArray t (0, 0) (heap_alloc_new w _)
  rw [Nat.zero_add, h]
  simpa using hj
theorem rd2 (w : World) (t : TypeId) (a b : Int) : Rd (w.alloc (.cells #[.int .i64 a, .int .i64 b] t)) (w.alloc (.cells #[.int .i64 a, .int .i64 b] t)).heap.size (some ⟨w.heap.size, 0, none⟩) ([a, b].map (Value.int .i64)) :=
  (rd_lit w t [.int .i64 a, .int .i64 b]).more (by simp)
theorem rd3 (w : World) (t : TypeId) (a b c : Int) : Rd (w.alloc (.cells #[.int .i64 a, .int .i64 b, .int .i64 c] t)) (w.alloc (.cells #[.int .i64 a, .int .i64 b, .int .i64 c] t)).heap.size (some ⟨w.heap.size, 0, none⟩) ([a, b, c].map (Value.int .i64)) :=
  (rd_lit w t [.int .i64 a, .int .i64 b, .int .i64 c]).more (by simp)
theorem rd4 (w : World) (t : TypeId) (a b c d : Int) : Rd (w.alloc (.cells #[.int .i64 a, .int .i64 b, .int .i64 c, .int .i64 d] t)) (w.alloc (.cells #[.int .i64 a, .int .i64 b, .int .i64 c, .int .i64 d] t)).heap.size (some ⟨w.heap.size, 0, none⟩) ([a, b, c, d].map (Value.int .i64)) :=
  (rd_lit w t [.int .i64 a, .int .i64 b, .int .i64 c, .int .i64 d]).more (by simp)
theorem sum2 (a b : Int) (t : TypeId) (w : World) (N : Nat) (hN : w.heap.size = N) : Calls Try.prog 22 #[.slice (some ⟨N, 0, none⟩) 2 2] (w.alloc (.cells #[.int .i64 a, .int .i64 b] t)) fun e w' => e = .returned (.int .i64 (sumF [a, b])) ∧ w.alloc (.cells #[.int .i64 a, .int .i64 b] t) = w' := by
  subst hN
  exact sum_any _ 2 2 [a, b] _ rfl (by omega) (rd2 w t a b)
theorem sum3 (a b c : Int) (t : TypeId) (w : World) (N : Nat) (hN : w.heap.size = N) : Calls Try.prog 22 #[.slice (some ⟨N, 0, none⟩) 3 3] (w.alloc (.cells #[.int .i64 a, .int .i64 b, .int .i64 c] t)) fun e w' => e = .returned (.int .i64 (sumF [a, b, c])) ∧ w.alloc (.cells #[.int .i64 a, .int .i64 b, .int .i64 c] t) = w' := by
  subst hN
  exact sum_any _ 3 3 [a, b, c] _ rfl (by omega) (rd3 w t a b c)
theorem times2 (a b : Int) (t : TypeId) (w : World) (N : Nat) (hN : w.heap.size = N) : Calls Try.prog 23 #[.slice (some ⟨N, 0, none⟩) 2 2] (w.alloc (.cells #[.int .i64 a, .int .i64 b] t)) fun e w' => e = .returned (.int .i64 (timesF [a, b])) ∧ w.alloc (.cells #[.int .i64 a, .int .i64 b] t) = w' := by
  subst hN
  exact times_any _ 2 2 [a, b] _ rfl (by omega) (rd2 w t a b)
theorem times3 (a b c : Int) (t : TypeId) (w : World) (N : Nat) (hN : w.heap.size = N) : Calls Try.prog 23 #[.slice (some ⟨N, 0, none⟩) 3 3] (w.alloc (.cells #[.int .i64 a, .int .i64 b, .int .i64 c] t)) fun e w' => e = .returned (.int .i64 (timesF [a, b, c])) ∧ w.alloc (.cells #[.int .i64 a, .int .i64 b, .int .i64 c] t) = w' := by
  subst hN
  exact times_any _ 3 3 [a, b, c] _ rfl (by omega) (rd3 w t a b c)
theorem times4 (a b c d : Int) (t : TypeId) (w : World) (N : Nat) (hN : w.heap.size = N) : Calls Try.prog 23 #[.slice (some ⟨N, 0, none⟩) 4 4] (w.alloc (.cells #[.int .i64 a, .int .i64 b, .int .i64 c, .int .i64 d] t)) fun e w' => e = .returned (.int .i64 (timesF [a, b, c, d])) ∧ w.alloc (.cells #[.int .i64 a, .int .i64 b, .int .i64 c, .int .i64 d] t) = w' := by
  subst hN
  exact times_any _ 4 4 [a, b, c, d] _ rfl (by omega) (rd4 w t a b c d)

set_option maxRecDepth 100000 in
set_option maxHeartbeats 2000000 in
theorem alone_any (k v f b l bl n bu ch h : Int) (w : World) :
    Calls Try.prog 12 #[cfg k v f b l bl n bu ch, .int .i64 h] w fun e w' => e = .returned (.int .i64 (aloneF h)) ∧ Below w.heap.size w w' := by
  go_enter Try.func12, Try.ntmps12
  go_wp2_with fail
  refine (sum2 h 2 _ _ _ (by first | rfl | (simp; done))).mono ?_
  rintro e w1 ⟨rfl, rfl⟩
  go_wp2_with fail
  go_ret
  exact ⟨rfl, ((Below.refl _ _).alloc (Nat.le_refl _) _).alloc (by simp) _⟩

set_option maxRecDepth 100000 in
set_option maxHeartbeats 2000000 in
theorem need_any (k v f b l bl n bu ch puts : Int) (w : World) :
    Calls Try.prog 11 #[cfg k v f b l bl n bu ch, .int .i64 puts] w fun e w' => e = .returned (.int .i64 (needF l puts)) ∧ Below w.heap.size w w' := by
  have l0 := clp_lo l
  have l1 := clp_hi l
  have p0 := clp_lo puts
  have p1 := clp_hi puts
  have cl := fun w => clip_any l w
  have cp := fun w => clip_any puts w
  have hN : Hid (∀ x p, x = clp l → p = clp puts → needF l puts = sumF [2, timesF [3, p / (max x 2 / 2)]]) := Lib.hid (fun x p h1 h2 => by subst h1 h2; rfl)
  obtain ⟨x, hx⟩ : ∃ x, x = clp l := ⟨_, rfl⟩
  obtain ⟨p, hp⟩ : ∃ p, p = clp puts := ⟨_, rfl⟩
  have hN' := Lib.hid (hN.out x p hx hp)
  rw [← hx] at l0 l1 cl
  rw [← hp] at p0 p1 cp
  have CL := Lib.hid cl
  have CP := Lib.hid cp
  clear hx hp cl cp hN
  rcases (by omega : x < 2 ∨ x = 2 ∨ 2 < x) with c | c | c
  · have hN2 : Hid (needF l puts = sumF [2, timesF [3, p]]) := Lib.hid (by rw [hN'.out, show max x 2 = 2 by omega]; simp)
    clear hN'
    go_enter Try.func11, Try.ntmps11
    go_wp2_with fail
    refine (CL.out _).mono ?_
    rintro e w1 ⟨rfl, rfl⟩
    go_wp2_with fail
    refine (CP.out _).mono ?_
    rintro e w1 ⟨rfl, rfl⟩
    go_wp2_with fail
    refine (times2 3 p _ _ _ (by first | rfl | (simp; done))).mono ?_
    rintro e w1 ⟨rfl, rfl⟩
    go_wp2_with fail
    refine (sum2 2 (timesF [3, p]) _ _ _ (by first | rfl | (simp; done))).mono ?_
    rintro e w1 ⟨rfl, rfl⟩
    go_wp2_with fail
    go_ret
    exact ⟨by rw [hN2.out]; rfl, by go_grown⟩
  · have hN2 : Hid (needF l puts = sumF [2, timesF [3, p]]) := Lib.hid (by rw [hN'.out, show max x 2 = 2 by omega]; simp)
    clear hN'
    subst c
    go_enter Try.func11, Try.ntmps11
    go_wp2_with fail
    refine (CL.out _).mono ?_
    rintro e w1 ⟨rfl, rfl⟩
    go_wp2_with fail
    refine (CP.out _).mono ?_
    rintro e w1 ⟨rfl, rfl⟩
    go_wp2_with fail
    refine (times2 3 p _ _ _ (by first | rfl | (simp; done))).mono ?_
    rintro e w1 ⟨rfl, rfl⟩
    go_wp2_with fail
    refine (sum2 2 (timesF [3, p]) _ _ _ (by first | rfl | (simp; done))).mono ?_
    rintro e w1 ⟨rfl, rfl⟩
    go_wp2_with fail
    go_ret
    exact ⟨by rw [hN2.out]; rfl, by go_grown⟩
  · have d1 : 1 ≤ x / 2 := by omega
    have d2 : ¬ x / 2 = 0 := by omega
    have hN2 : Hid (needF l puts = sumF [2, timesF [3, p / (x / 2)]]) := Lib.hid (by rw [hN'.out, show max x 2 = x by omega])
    clear hN'
    go_enter Try.func11, Try.ntmps11
    go_wp2_with fail
    refine (CL.out _).mono ?_
    rintro e w1 ⟨rfl, rfl⟩
    go_wp2_with fail
    refine (CP.out _).mono ?_
    rintro e w1 ⟨rfl, rfl⟩
    go_wp2_with fail
    refine (times2 3 (p / (x / 2)) _ _ _ (by first | rfl | (simp; done))).mono ?_
    rintro e w1 ⟨rfl, rfl⟩
    go_wp2_with fail
    refine (sum2 2 (timesF [3, p / (x / 2)]) _ _ _ (by first | rfl | (simp; done))).mono ?_
    rintro e w1 ⟨rfl, rfl⟩
    go_wp2_with fail
    go_ret
    exact ⟨by rw [hN2.out]; rfl, by go_grown⟩
end Go.Proofs.Ytifikngmddfahaa
