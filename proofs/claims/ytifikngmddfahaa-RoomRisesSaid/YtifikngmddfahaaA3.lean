/- How many picks there must be: Wait. -/
import Derived.Test.YtifikngmddfahaaA2
namespace Go.Proofs.Ytifikngmddfahaa
set_option linter.unusedSimpArgs false
open Go.RowKit
set_option linter.unusedVariables false

def allF (s t : Int) : Int := sumF [t, s, 2]
def waitF (bu win s t : Int) : Int := timesF [win, sumF [timesF [64, allF s t, allF s t], timesF [4, s, sumF [bu, 2], sumF [t, 4]]]]

theorem rd_two {w : World} {N : Nat} {a b : Int} (h0 : w.cell? ⟨N, 0, none⟩ = some (.int .i64 a)) (h1 : w.cell? ⟨N, 1, none⟩ = some (.int .i64 b)) : Rd w w.heap.size (some ⟨N, 0, none⟩) ([a, b].map (Value.int .i64)) := by
  refine .inr ⟨N, 0, rfl, World.block_lt_of_cell? w _ h0, fun j u hj => ?_⟩
  match j, hj with
  | 0, hj => simp at hj; subst hj; simpa using h0
  | 1, hj => simp at hj; subst hj; simpa using h1
theorem rd_three {w : World} {N : Nat} {a b c : Int} (h0 : w.cell? ⟨N, 0, none⟩ = some (.int .i64 a)) (h1 : w.cell? ⟨N, 1, none⟩ = some (.int .i64 b)) (h2 : w.cell? ⟨N, 2, none⟩ = some (.int .i64 c)) : Rd w w.heap.size (some ⟨N, 0, none⟩) ([a, b, c].map (Value.int .i64)) := by
  refine .inr ⟨N, 0, rfl, World.block_lt_of_cell? w _ h0, fun j u hj => ?_⟩
  match j, hj with
  | 0, hj => simp at hj; subst hj; simpa using h0
  | 1, hj => simp at hj; subst hj; simpa using h1
  | 2, hj => simp at hj; subst hj; simpa using h2
theorem rd_four {w : World} {N : Nat} {a b c d : Int} (h0 : w.cell? ⟨N, 0, none⟩ = some (.int .i64 a)) (h1 : w.cell? ⟨N, 1, none⟩ = some (.int .i64 b)) (h2 : w.cell? ⟨N, 2, none⟩ = some (.int .i64 c)) (h3 : w.cell? ⟨N, 3, none⟩ = some (.int .i64 d)) : Rd w w.heap.size (some ⟨N, 0, none⟩) ([a, b, c, d].map (Value.int .i64)) := by
  refine .inr ⟨N, 0, rfl, World.block_lt_of_cell? w _ h0, fun j u hj => ?_⟩
  match j, hj with
  | 0, hj => simp at hj; subst hj; simpa using h0
  | 1, hj => simp at hj; subst hj; simpa using h1
  | 2, hj => simp at hj; subst hj; simpa using h2
  | 3, hj => simp at hj; subst hj; simpa using h3
theorem s2 (N : Nat) (w : World) (a b : Int) (h0 : w.cell? ⟨N, 0, none⟩ = some (.int .i64 a)) (h1 : w.cell? ⟨N, 1, none⟩ = some (.int .i64 b)) : Calls Try.prog 22 #[.slice (some ⟨N, 0, none⟩) 2 2] w fun e w' => e = .returned (.int .i64 (sumF [a, b])) ∧ w = w' := sum_any _ 2 2 [a, b] _ rfl (by omega) (rd_two h0 h1)
theorem t2 (N : Nat) (w : World) (a b : Int) (h0 : w.cell? ⟨N, 0, none⟩ = some (.int .i64 a)) (h1 : w.cell? ⟨N, 1, none⟩ = some (.int .i64 b)) : Calls Try.prog 23 #[.slice (some ⟨N, 0, none⟩) 2 2] w fun e w' => e = .returned (.int .i64 (timesF [a, b])) ∧ w = w' := times_any _ 2 2 [a, b] _ rfl (by omega) (rd_two h0 h1)
theorem t3 (N : Nat) (w : World) (a b c : Int) (h0 : w.cell? ⟨N, 0, none⟩ = some (.int .i64 a)) (h1 : w.cell? ⟨N, 1, none⟩ = some (.int .i64 b)) (h2 : w.cell? ⟨N, 2, none⟩ = some (.int .i64 c)) : Calls Try.prog 23 #[.slice (some ⟨N, 0, none⟩) 3 3] w fun e w' => e = .returned (.int .i64 (timesF [a, b, c])) ∧ w = w' := times_any _ 3 3 [a, b, c] _ rfl (by omega) (rd_three h0 h1 h2)
theorem t4 (N : Nat) (w : World) (a b c d : Int) (h0 : w.cell? ⟨N, 0, none⟩ = some (.int .i64 a)) (h1 : w.cell? ⟨N, 1, none⟩ = some (.int .i64 b)) (h2 : w.cell? ⟨N, 2, none⟩ = some (.int .i64 c)) (h3 : w.cell? ⟨N, 3, none⟩ = some (.int .i64 d)) : Calls Try.prog 23 #[.slice (some ⟨N, 0, none⟩) 4 4] w fun e w' => e = .returned (.int .i64 (timesF [a, b, c, d])) ∧ w = w' := times_any _ 4 4 [a, b, c, d] _ rfl (by omega) (rd_four h0 h1 h2 h3)

set_option maxRecDepth 100000 in
set_option maxHeartbeats 40000000 in
theorem wait_any (k v f b l bl n bu ch win s t : Int) (w : World) :
    Calls Try.prog 13 #[cfg k v f b l bl n bu ch, .int .i64 win, .int .i64 s, .int .i64 t] w fun e w' => e = .returned (.int .i64 (waitF bu win s t)) ∧ Below w.heap.size w w' := by
  have hW : Hid (∀ a x y z q r, a = allF s t → x = timesF [64, a, a] → y = sumF [bu, 2] → z = sumF [t, 4] → q = timesF [4, s, y, z] → r = sumF [x, q] → waitF bu win s t = timesF [win, r]) :=
    Lib.hid (fun a x y z q r h1 h2 h3 h4 h5 h6 => by subst h1 h2 h3 h4 h5 h6; rfl)
  obtain ⟨a, ha⟩ : ∃ a, a = allF s t := ⟨_, rfl⟩
  obtain ⟨x, hx⟩ : ∃ x, x = timesF [64, a, a] := ⟨_, rfl⟩
  obtain ⟨y, hy⟩ : ∃ y, y = sumF [bu, 2] := ⟨_, rfl⟩
  obtain ⟨z, hz⟩ : ∃ z, z = sumF [t, 4] := ⟨_, rfl⟩
  obtain ⟨q, hq⟩ : ∃ q, q = timesF [4, s, y, z] := ⟨_, rfl⟩
  obtain ⟨r, hr⟩ : ∃ r, r = sumF [x, q] := ⟨_, rfl⟩
  have HW := Lib.hid (hW.out a x y z q r ha hx hy hz hq hr)
  have c1 := fun W N h => sum3 t s 2 3 W N h
  have c2 := fun N W h0 h1 h2 => t3 N W 64 a a h0 h1 h2
  have c3 := fun N W h0 h1 => s2 N W bu 2 h0 h1
  have c4 := fun N W h0 h1 => s2 N W t 4 h0 h1
  have c5 := fun N W h0 h1 h2 h3 => t4 N W 4 s y z h0 h1 h2 h3
  have c6 := fun N W h0 h1 => s2 N W x q h0 h1
  have c7 := fun N W h0 h1 => t2 N W win r h0 h1
  rw [show sumF [t, s, 2] = a from ha.symm] at c1
  rw [← hx] at c2
  rw [← hy] at c3
  rw [← hz] at c4
  rw [← hq] at c5
  rw [← hr] at c6
  have C1 := Lib.hid c1
  have C2 := Lib.hid c2
  have C3 := Lib.hid c3
  have C4 := Lib.hid c4
  have C5 := Lib.hid c5
  have C6 := Lib.hid c6
  have C7 := Lib.hid c7
  clear c1 c2 c3 c4 c5 c6 c7 hW ha hx hy hz hq hr
  go_enter Try.func13, Try.ntmps13
  go_wp2_with fail
  refine (C1.out _ _ (by first | rfl | (simp; done))).mono ?_
  rintro e w1 ⟨rfl, rfl⟩
  go_wp2_with fail
  have kp : ∀ W, Below (w.alloc (.cells #[.int .i64 k, .int .i64 v, .int .i64 f, .int .i64 b, .int .i64 l, .int .i64 bl, .int .i64 n, .int .i64 bu, .int .i64 ch] 23)).heap.size (w.alloc (.cells #[.int .i64 k, .int .i64 v, .int .i64 f, .int .i64 b, .int .i64 l, .int .i64 bl, .int .i64 n, .int .i64 bu, .int .i64 ch] 23)) W → W.cell? ⟨w.heap.size, 7, none⟩ = some (.int .i64 bu) := fun W h => bel_later h (by simp [go_sem])
  have KP := Lib.hid kp
  clear kp
  go_region_held3 (fun W => W.cell? ⟨w.heap.size, 7, none⟩ = some (.int .i64 bu)) (exact KP.out _ (by go_grown))
    (first
      | (go_at_call 23; (with_reducible refine (C2.out _ _ ?_ ?_ ?_).mono ?_); (iterate 3 (focus (simp [go_sem]; done))); rintro e w1 ⟨rfl, rfl⟩)
      | (go_at_call 22; (with_reducible refine (C3.out _ _ ?_ ?_).mono ?_); (iterate 2 (focus (simp [go_sem]; done))); rintro e w1 ⟨rfl, rfl⟩)
      | (go_at_call 22; (with_reducible refine (C4.out _ _ ?_ ?_).mono ?_); (iterate 2 (focus (simp [go_sem]; done))); rintro e w1 ⟨rfl, rfl⟩)
      | (go_at_call 23; (with_reducible refine (C5.out _ _ ?_ ?_ ?_ ?_).mono ?_); (iterate 4 (focus (simp [go_sem]; done))); rintro e w1 ⟨rfl, rfl⟩)
      | (go_at_call 22; (with_reducible refine (C6.out _ _ ?_ ?_).mono ?_); (iterate 2 (focus (simp [go_sem]; done))); rintro e w1 ⟨rfl, rfl⟩)
      | (go_at_call 23; (with_reducible refine (C7.out _ _ ?_ ?_).mono ?_); (iterate 2 (focus (simp [go_sem]; done))); rintro e w1 ⟨rfl, rfl⟩))
  all_goals
    go_wp2_with fail
    go_ret
    refine ⟨by rw [HW.out]; rfl, by go_grown⟩
end Go.Proofs.Ytifikngmddfahaa
