/- Contracts of the lock functions that give a word back. -/
import Derived.Test.YtpgiidfifhocpaaA1
namespace Go.Proofs.Ytpgiidfifhocpaa
set_option linter.unusedSimpArgs false
open Go.RowKit
set_option linter.unusedVariables false

set_option maxHeartbeats 1000000 in
theorem give_free (v o : Int) (g : Bool) (who : Int) (w : World) (h0 : -9223372036854775808 ≤ v) :
    Calls Try.prog 30 #[.agg #[.int .i64 v, .int .i64 o, .bool g], .int .i64 who, .func (.func 31) #[] #[]] w fun e w' => e = .returned (qv (freeF v o g who)) ∧ Below w.heap.size w w' := by
  by_cases h1 : who < 1
  · have e : freeF v o g who = (0, 0, false, 13) := by simp [freeF, no, h1]
    rw [e]; clear e
    go_enter Try.func30, Try.ntmps30
    go_wp2_with fail
    refine bodyPost_ret (v := qv (0, 0, false, 13)) (by simp [results, Try.results30, go_sem]) rfl ⟨rfl, ((Below.refl _ _).alloc (Nat.le_refl _) _).alloc (by simp; try omega) _⟩
  · by_cases h2 : o = who
    · have h3 : (o != who) = false := by simp [h2]
      have e : freeF v o g who = (v, 0, g, 0) := by simp [freeF, no, h1, h2]
      rw [e]; clear e h2
      go_enter Try.func30, Try.ntmps30
      go_wp2_with fail
      refine (same_any v o g _).mono ?_
      rintro e w1 ⟨rfl, rfl⟩
      go_wp2
      refine bodyPost_ret (v := qv (v, 0, g, 0)) (by simp [results, Try.results30, go_sem]) rfl ⟨rfl, ((((Below.refl _ _).alloc (Nat.le_refl _) _).alloc (by simp; try omega) _).alloc (by simp; try omega) _).alloc (by simp; try omega) _⟩
    · have e : freeF v o g who = (0, 0, false, 13) := by simp [freeF, no, h2]
      have h3 : (o != who) = true := by simp [h2]
      rw [e]; clear e h2
      go_enter Try.func30, Try.ntmps30
      go_wp2_with fail
      refine bodyPost_ret (v := qv (0, 0, false, 13)) (by simp [results, Try.results30, go_sem]) rfl ⟨rfl, ((Below.refl _ _).alloc (Nat.le_refl _) _).alloc (by simp; try omega) _⟩

set_option maxHeartbeats 1000000 in
theorem give_bump (v o : Int) (g : Bool) (who : Int) (w : World) (h0 : -9223372036854775808 ≤ v) :
    Calls Try.prog 30 #[.agg #[.int .i64 v, .int .i64 o, .bool g], .int .i64 who, .func (.func 32) #[] #[]] w fun e w' => e = .returned (qv (bumpF v o g who)) ∧ Below w.heap.size w w' := by
  by_cases h1 : who < 1
  · have e : bumpF v o g who = (0, 0, false, 13) := by simp [bumpF, no, h1]
    rw [e]; clear e
    go_enter Try.func30, Try.ntmps30
    go_wp2_with fail
    refine bodyPost_ret (v := qv (0, 0, false, 13)) (by simp [results, Try.results30, go_sem]) rfl ⟨rfl, ((Below.refl _ _).alloc (Nat.le_refl _) _).alloc (by simp; try omega) _⟩
  · by_cases h2 : o = who
    · have h3 : (o != who) = false := by simp [h2]
      by_cases h4 : 1099511627776 ≤ v
      · have e : bumpF v o g who = (0, 0, false, 4) := by simp [bumpF, no, h1, h2]; omega
        rw [e]; clear e h2
        go_enter Try.func30, Try.ntmps30
        go_wp2_with fail
        refine (next_top v o g _ h4).mono ?_
        rintro e w1 ⟨rfl, rfl⟩
        go_wp2
        refine bodyPost_ret (v := qv (0, 0, false, 4)) (by simp [results, Try.results30, go_sem]) rfl ⟨rfl, ((((Below.refl _ _).alloc (Nat.le_refl _) _).alloc (by simp; try omega) _).alloc (by simp; try omega) _).alloc (by simp; try omega) _⟩
      · have e : bumpF v o g who = (v + 1, 0, g, 0) := by simp [bumpF, no, h1, h2]; omega
        rw [e]; clear e h2
        go_enter Try.func30, Try.ntmps30
        go_wp2_with fail
        refine (next_up v o g _ h0 (by omega)).mono ?_
        rintro e w1 ⟨rfl, rfl⟩
        go_wp2
        refine bodyPost_ret (v := qv (v + 1, 0, g, 0)) (by simp [results, Try.results30, go_sem]) rfl ⟨rfl, ((((Below.refl _ _).alloc (Nat.le_refl _) _).alloc (by simp; try omega) _).alloc (by simp; try omega) _).alloc (by simp; try omega) _⟩
    · have e : bumpF v o g who = (0, 0, false, 13) := by simp [bumpF, no, h2]
      have h3 : (o != who) = true := by simp [h2]
      rw [e]; clear e h2
      go_enter Try.func30, Try.ntmps30
      go_wp2_with fail
      refine bodyPost_ret (v := qv (0, 0, false, 13)) (by simp [results, Try.results30, go_sem]) rfl ⟨rfl, ((Below.refl _ _).alloc (Nat.le_refl _) _).alloc (by simp; try omega) _⟩

set_option maxHeartbeats 1000000 in
theorem give_retire (v o : Int) (g : Bool) (who : Int) (w : World) (h0 : -9223372036854775808 ≤ v) :
    Calls Try.prog 30 #[.agg #[.int .i64 v, .int .i64 o, .bool g], .int .i64 who, .func (.func 33) #[] #[]] w fun e w' => e = .returned (qv (retireF v o g who)) ∧ Below w.heap.size w w' := by
  by_cases h1 : who < 1
  · have e : retireF v o g who = (0, 0, false, 13) := by simp [retireF, no, h1]
    rw [e]; clear e
    go_enter Try.func30, Try.ntmps30
    go_wp2_with fail
    refine bodyPost_ret (v := qv (0, 0, false, 13)) (by simp [results, Try.results30, go_sem]) rfl ⟨rfl, ((Below.refl _ _).alloc (Nat.le_refl _) _).alloc (by simp; try omega) _⟩
  · by_cases h2 : o = who
    · have h3 : (o != who) = false := by simp [h2]
      by_cases h4 : 1099511627776 ≤ v
      · have e : retireF v o g who = (0, 0, false, 4) := by simp [retireF, no, h1, h2]; omega
        rw [e]; clear e h2
        go_enter Try.func30, Try.ntmps30
        go_wp2_with fail
        refine (gone_top v o g _ h4).mono ?_
        rintro e w1 ⟨rfl, rfl⟩
        go_wp2
        refine bodyPost_ret (v := qv (0, 0, false, 4)) (by simp [results, Try.results30, go_sem]) rfl ⟨rfl, ((((((Below.refl _ _).alloc (Nat.le_refl _) _).alloc (by simp; try omega) _).alloc (by simp; try omega) _).alloc (by simp; try omega) _).alloc (by simp; try omega) _).alloc (by simp; try omega) _⟩
      · have e : retireF v o g who = (v + 1, 0, true, 0) := by simp [retireF, no, h1, h2]; omega
        rw [e]; clear e h2
        go_enter Try.func30, Try.ntmps30
        go_wp2_with fail
        refine (gone_up v o g _ h0 (by omega)).mono ?_
        rintro e w1 ⟨rfl, rfl⟩
        go_wp2
        refine bodyPost_ret (v := qv (v + 1, 0, true, 0)) (by simp [results, Try.results30, go_sem]) rfl ⟨rfl, ((((((Below.refl _ _).alloc (Nat.le_refl _) _).alloc (by simp; try omega) _).alloc (by simp; try omega) _).alloc (by simp; try omega) _).alloc (by simp; try omega) _).alloc (by simp; try omega) _⟩
    · have e : retireF v o g who = (0, 0, false, 13) := by simp [retireF, no, h2]
      have h3 : (o != who) = true := by simp [h2]
      rw [e]; clear e h2
      go_enter Try.func30, Try.ntmps30
      go_wp2_with fail
      refine bodyPost_ret (v := qv (0, 0, false, 13)) (by simp [results, Try.results30, go_sem]) rfl ⟨rfl, ((Below.refl _ _).alloc (Nat.le_refl _) _).alloc (by simp; try omega) _⟩

end Go.Proofs.Ytpgiidfifhocpaa
