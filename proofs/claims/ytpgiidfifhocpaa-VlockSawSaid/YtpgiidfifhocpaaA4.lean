/- Contracts of the lock functions, the last ones. -/
import Derived.Test.YtpgiidfifhocpaaA3
import Derived.Lib.Hide
namespace Go.Proofs.Ytpgiidfifhocpaa
set_option linter.unusedSimpArgs false
open Go.RowKit
set_option linter.unusedVariables false
attribute [local go_sem] iss

set_option maxHeartbeats 1000000 in
theorem rretire_any (v o : Int) (g : Bool) (who : Int) (w : World) (h0 : -9223372036854775808 ≤ v) :
    Calls Try.prog 17 #[.agg #[.int .i64 v, .int .i64 o, .bool g], .int .i64 who] w fun e w' => e = .returned (qv (retireF v o g who)) ∧ Below w.heap.size w w' := by
  by_cases h1 : who < 1
  · have h2 : True := trivial
    have e : retireF v o g who = (0, 0, false, 13) := by simp [retireF, no, h1]; try omega
    have eb : bumpF v o g who = (0, 0, false, 13) := by simp [bumpF, no, h1]; try omega
    rw [e]; clear e
    have c := fun w => rbump_any v o g who w h0
    rw [eb] at c
    have C := Lib.hid c
    clear eb c h2
    go_enter Try.func17, Try.ntmps17
    go_wp2_with fail
    refine (C.out _).mono ?_
    rintro e w1 ⟨rfl, hb⟩
    obtain ⟨d0, d1, d2, e0, e1, e2⟩ := keep3 hb (w.heap.size + 1) (.int .i64 0) (.int .i64 0) (.bool false) (by simp [go_sem]) (by simp [go_sem]) (by simp [go_sem]) (by simp [go_sem]) (by simp [go_sem]) (by simp [go_sem])
    have hz : w.heap.size + 1 < w1.heap.size := by have := hb.size; simp at this; omega
    go_wp2
    refine bodyPost_ret (v := qv (0, 0, false, 13)) (by simp [results, Try.results17, go_sem, d0, d1, d2, hz, Nat.ne_of_lt hz]) rfl ⟨rfl, (((((((Below.refl _ _).alloc (Nat.le_refl _) _).alloc (by simp) _).trans (hb.mono (by simp; try omega))).setCell (by simp) _).setCell (by simp) _).setCell (by simp) _).alloc (by simp; omega) _⟩
  · by_cases h2 : o = who
    · by_cases h4 : 1099511627776 ≤ v
      · have h5 : True := trivial
        have e : retireF v o g who = (0, 0, false, 4) := by simp [retireF, no, h1, h2, h4]; try omega
        have eb : bumpF v o g who = (0, 0, false, 4) := by simp [bumpF, no, h1, h2, h4]; try omega
        rw [e]; clear e
        have c := fun w => rbump_any v o g who w h0
        rw [eb] at c
        have C := Lib.hid c
        clear eb c h2
        go_enter Try.func17, Try.ntmps17
        go_wp2_with fail
        refine (C.out _).mono ?_
        rintro e w1 ⟨rfl, hb⟩
        obtain ⟨d0, d1, d2, e0, e1, e2⟩ := keep3 hb (w.heap.size + 1) (.int .i64 0) (.int .i64 0) (.bool false) (by simp [go_sem]) (by simp [go_sem]) (by simp [go_sem]) (by simp [go_sem]) (by simp [go_sem]) (by simp [go_sem])
        have hz : w.heap.size + 1 < w1.heap.size := by have := hb.size; simp at this; omega
        go_wp2
        refine bodyPost_ret (v := qv (0, 0, false, 4)) (by simp [results, Try.results17, go_sem, d0, d1, d2, hz, Nat.ne_of_lt hz]) rfl ⟨rfl, (((((((Below.refl _ _).alloc (Nat.le_refl _) _).alloc (by simp) _).trans (hb.mono (by simp; try omega))).setCell (by simp) _).setCell (by simp) _).setCell (by simp) _).alloc (by simp; omega) _⟩
      · have h5 : True := trivial
        have e : retireF v o g who = (v + 1, 0, true, 0) := by simp [retireF, no, h1, h2, h4]; try omega
        have eb : bumpF v o g who = (v + 1, 0, g, 0) := by simp [bumpF, no, h1, h2, h4]; try omega
        rw [e]; clear e
        have c := fun w => rbump_any v o g who w h0
        rw [eb] at c
        have C := Lib.hid c
        clear eb c h2
        go_enter Try.func17, Try.ntmps17
        go_wp2_with fail
        refine (C.out _).mono ?_
        rintro e w1 ⟨rfl, hb⟩
        obtain ⟨d0, d1, d2, e0, e1, e2⟩ := keep3 hb (w.heap.size + 1) (.int .i64 0) (.int .i64 0) (.bool false) (by simp [go_sem]) (by simp [go_sem]) (by simp [go_sem]) (by simp [go_sem]) (by simp [go_sem]) (by simp [go_sem])
        have hz : w.heap.size + 1 < w1.heap.size := by have := hb.size; simp at this; omega
        go_wp2
        refine bodyPost_ret (v := qv (v + 1, 0, true, 0)) (by simp [results, Try.results17, go_sem, d0, d1, d2, hz, Nat.ne_of_lt hz]) rfl ⟨rfl, (((((((Below.refl _ _).alloc (Nat.le_refl _) _).alloc (by simp) _).trans (hb.mono (by simp; try omega))).setCell (by simp) _).setCell (by simp) _).setCell (by simp) _).alloc (by simp; omega) _⟩
    · have h5 : True := trivial
      have e : retireF v o g who = (0, 0, false, 13) := by simp [retireF, no, h2]; try omega
      have eb : bumpF v o g who = (0, 0, false, 13) := by simp [bumpF, no, h2]; try omega
      rw [e]; clear e
      have c := fun w => rbump_any v o g who w h0
      rw [eb] at c
      have C := Lib.hid c
      clear eb c h2
      go_enter Try.func17, Try.ntmps17
      go_wp2_with fail
      refine (C.out _).mono ?_
      rintro e w1 ⟨rfl, hb⟩
      obtain ⟨d0, d1, d2, e0, e1, e2⟩ := keep3 hb (w.heap.size + 1) (.int .i64 0) (.int .i64 0) (.bool false) (by simp [go_sem]) (by simp [go_sem]) (by simp [go_sem]) (by simp [go_sem]) (by simp [go_sem]) (by simp [go_sem])
      have hz : w.heap.size + 1 < w1.heap.size := by have := hb.size; simp at this; omega
      go_wp2
      refine bodyPost_ret (v := qv (0, 0, false, 13)) (by simp [results, Try.results17, go_sem, d0, d1, d2, hz, Nat.ne_of_lt hz]) rfl ⟨rfl, (((((((Below.refl _ _).alloc (Nat.le_refl _) _).alloc (by simp) _).trans (hb.mono (by simp; try omega))).setCell (by simp) _).setCell (by simp) _).setCell (by simp) _).alloc (by simp; omega) _⟩

set_option maxHeartbeats 1000000 in
theorem renew_any (v o : Int) (g : Bool) (w : World) (h0 : -9223372036854775808 ≤ v) :
    Calls Try.prog 18 #[.agg #[.int .i64 v, .int .i64 o, .bool g]] w fun e w' => e = .returned (qv (renewF v o g)) ∧ Below w.heap.size w w' := by
  cases g
  · have e : renewF v o false = (0, 0, false, 15) := by simp [renewF, no]
    rw [e]; clear e
    go_enter Try.func18, Try.ntmps18
    go_wp2_with fail
    refine bodyPost_ret (v := qv (0, 0, false, 15)) (by simp [results, Try.results18, go_sem]) rfl ⟨rfl, ((Below.refl _ _).alloc (Nat.le_refl _) _).alloc (by simp; try omega) _⟩
  · by_cases h4 : 1099511627776 ≤ v
    · have e : renewF v o true = (0, 0, false, 4) := by simp [renewF, no, h4]
      rw [e]; clear e
      go_enter Try.func18, Try.ntmps18
      go_wp2_with fail
      refine (next_top v o true _ h4).mono ?_
      rintro e w1 ⟨rfl, rfl⟩
      go_wp2
      refine bodyPost_ret (v := qv (0, 0, false, 4)) (by simp [results, Try.results18, go_sem]) rfl ⟨rfl, ((((Below.refl _ _).alloc (Nat.le_refl _) _).alloc (by simp; try omega) _).alloc (by simp; try omega) _).alloc (by simp; try omega) _⟩
    · have e : renewF v o true = (v + 1, 0, false, 0) := by simp [renewF, no, h4]
      rw [e]; clear e
      go_enter Try.func18, Try.ntmps18
      go_wp2_with fail
      refine (next_up v o true _ h0 (by omega)).mono ?_
      rintro e w1 ⟨rfl, rfl⟩
      go_wp2
      refine bodyPost_ret (v := qv (v + 1, 0, false, 0)) (by simp [results, Try.results18, go_sem]) rfl ⟨rfl, ((((Below.refl _ _).alloc (Nat.le_refl _) _).alloc (by simp; try omega) _).alloc (by simp; try omega) _).alloc (by simp; try omega) _⟩

def rightB (v o : Int) (g : Bool) : Bool := !(decide (v < 0) || decide (1099511627776 < v) || decide (o < 0) || decide (64 < o)) && !(g && decide (o ≠ 0))

set_option maxHeartbeats 1000000 in
theorem right_any (v o : Int) (g : Bool) (w : World) :
    Calls Try.prog 12 #[.agg #[.int .i64 v, .int .i64 o, .bool g]] w fun e w' => e = .returned (.bool (rightB v o g)) ∧ Below w.heap.size w w' := by
  cases g
  all_goals
    go_enter Try.func12, Try.ntmps12
    go_wp2
    all_goals go_ret
    all_goals refine ⟨?_, (Below.refl _ _).alloc (Nat.le_refl _) _⟩
    all_goals simp only [Act.eval, Ending.returned.injEq, Value.bool.injEq]
    all_goals simp [rightB]
    all_goals first | omega | (rw [Bool.eq_iff_iff]; simp; omega) | trace_state
set_option maxHeartbeats 1000000 in
theorem rright_any (v o : Int) (g : Bool) (w : World) :
    Calls Try.prog 13 #[.agg #[.int .i64 v, .int .i64 o, .bool g]] w fun e w' => e = .returned (.bool (rightB v o g)) ∧ Below w.heap.size w w' := by
  cases g
  all_goals
    go_enter Try.func13, Try.ntmps13
    go_wp2
    all_goals go_ret
    all_goals refine ⟨?_, (Below.refl _ _).alloc (Nat.le_refl _) _⟩
    all_goals simp only [Act.eval, Ending.returned.injEq, Value.bool.injEq]
    all_goals simp [rightB]
    all_goals first | omega | (rw [Bool.eq_iff_iff]; simp; omega) | trace_state
set_option maxHeartbeats 1000000 in
theorem live_any (w : World) :
    Calls Try.prog 20 #[] w fun e w' => e = .returned (.bool true) ∧ Below w.heap.size w w' := by
  have t1 : tryF 0 0 false 3 = (0, 3, false, 0) := by simp [tryF]
  go_enter Try.func20, Try.ntmps20
  go_wp2_with fail
  refine (try_any 0 0 false 3 _).mono ?_
  rintro e w1 ⟨rfl, hb⟩
  rw [t1]
  clear t1
  have t2 : tryF 0 3 false 4 = (0, 0, false, 12) := by simp [tryF, no]
  go_wp2_with fail
  refine (try_any 0 3 false 4 _).mono ?_
  rintro e w2 ⟨rfl, hb2⟩
  rw [t2]
  clear t2
  obtain ⟨c0, c1, c2, f0, f1, f2⟩ := keep3 hb2 w1.heap.size (.int .i64 0) (.int .i64 3) (.bool false) (by simp [go_sem]) (by simp [go_sem]) (by simp [go_sem]) (by simp [go_sem]) (by simp [go_sem]) (by simp [go_sem])
  have hb3 : Below w.heap.size w w2 := (hb.alloc hb.size _).trans (hb2.mono (by have := hb.size; simp; omega))
  have hz : w1.heap.size < w2.heap.size := by have := hb2.size; simp at this; omega
  have hw := hb.size
  clear hb hb2
  have t2 : bumpF 0 3 false 3 = (1, 0, false, 0) := by simp [bumpF, no]
  go_wp2_with fail
  refine (bump_any 0 3 false 3 _ (by omega)).mono ?_
  rintro e w3 ⟨rfl, hb4⟩
  rw [t2]
  clear t2
  obtain ⟨g0, g1, g2, _, _, _⟩ := keep3 hb4 w1.heap.size (.int .i64 0) (.int .i64 3) (.bool false) (by simp [go_sem, c0, hz, Nat.ne_of_lt hz]) (by simp [go_sem, c1, hz, Nat.ne_of_lt hz]) (by simp [go_sem, c2, hz, Nat.ne_of_lt hz]) (by simp [go_sem, f0, hz, Nat.ne_of_lt hz]) (by simp [go_sem, f1, hz, Nat.ne_of_lt hz]) (by simp [go_sem, f2, hz, Nat.ne_of_lt hz])
  have hb5 : Below w.heap.size w w3 := (hb3.alloc hb3.size _).trans (hb4.mono (by have := hb3.size; simp; omega))
  have hz2 : w1.heap.size < w3.heap.size := by have := hb4.size; simp at this; omega
  clear hb3 hb4 c0 c1 c2 f0 f1 f2 hz
  have t2 : validN 1 0 false 0 = 16 := by simp [validN]
  have t3 : validN 1 0 false 1 = 0 := by simp [validN]
  go_wp2_with fail
  refine (valid_any 1 0 false 0 _).mono ?_
  rintro e w4 ⟨rfl, hb6⟩
  rw [t2]
  obtain ⟨m0, m1, m2, _, _, _⟩ := keep3 hb6 w3.heap.size (.int .i64 1) (.int .i64 0) (.bool false) (by simp [go_sem]) (by simp [go_sem]) (by simp [go_sem]) (by simp [go_sem]) (by simp [go_sem]) (by simp [go_sem])
  have hb7 : Below w.heap.size w w4 := (hb5.alloc hb5.size _).trans (hb6.mono (by have := hb5.size; simp; omega))
  clear hb5 hb6 t2
  go_wp2_with fail
  refine (valid_any 1 0 false 1 _).mono ?_
  rintro e w5 ⟨rfl, hb8⟩
  rw [t3]
  have hb9 : Below w.heap.size w w5 := hb7.trans (hb8.mono hb7.size)
  clear t3 hb8 hb7
  go_wp2_with fail
  go_ret
  exact ⟨rfl, hb9⟩

end Go.Proofs.Ytpgiidfifhocpaa
