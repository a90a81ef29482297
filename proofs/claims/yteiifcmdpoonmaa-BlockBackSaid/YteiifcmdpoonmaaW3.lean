/- The word functions: TakeText's walk. -/
import Derived.Test.YteiifcmdpoonmaaW2
namespace Go.Proofs.Yteiifcmdpoonmaa
set_option linter.unusedSimpArgs false
open Go.RowKit
set_option linter.unusedVariables false

theorem tn_lo (s : ByteArray) : ∀ (f k : Nat) (m : Int), 0 ≤ m → 0 ≤ (tn s f k m).1
  | 0, k, m, h => by simp [tn]
  | f + 1, k, m, h => by
    have p : (0 : Int) ≤ 128 ^ k := by
      induction k with
      | zero => decide
      | succ k ih => rw [Int.pow_succ]; omega
    have q : 0 ≤ bt s k % 128 := by omega
    have r : 0 ≤ m + bt s k % 128 * 128 ^ k := by
      have := Int.mul_nonneg q p
      omega
    unfold tn
    split
    · simp
    · split
      · split
        · simp
        · exact r
      · exact tn_lo s f (k + 1) _ r
theorem tnF_lo (s : ByteArray) : 0 ≤ (tnF s).1 := tn_lo s 5 0 0 (by omega)

/-- The text that a text begins with, what stands behind it, and why there is none. -/
def ttX (N : Int) (R : ByteArray) (E most : Int) : ByteArray × ByteArray × Int :=
  if E ≠ 0 then (⟨#[]⟩, ⟨#[]⟩, E)
  else if most < N then (⟨#[]⟩, ⟨#[]⟩, 4)
  else if (R.size : Int) < N then (⟨#[]⟩, ⟨#[]⟩, 5)
  else (R.extract 0 N.toNat, R.extract N.toNat R.size, 0)
def ttF (s : ByteArray) (most : Int) : ByteArray × ByteArray × Int := ttX (tnF s).1 (tnF s).2.1 (tnF s).2.2 most
def ttV (x : ByteArray × ByteArray × Int) : Value := .tuple #[.string x.1, .string x.2.1, .int .i64 x.2.2]

set_option maxHeartbeats 2000000 in
theorem takeText_gen (s R : ByteArray) (N E most : Int) (w : World) (hl : 0 ≤ N)
    (hc : ∀ w, Calls Try.prog 35 #[.string s] w fun e w' => e = .returned (.tuple #[.int .i64 N, .string R, .int .i64 E]) ∧ Below w.heap.size w w') :
    Calls Try.prog 39 #[.string s, .int .i64 most] w fun e w' => e = .returned (ttV (ttX N R E most)) ∧ Below w.heap.size w w' := by
  by_cases c1 : E = 0
  · by_cases c2 : most < N
    · have HT : ttX N R E most = (⟨#[]⟩, ⟨#[]⟩, 4) := by simp [ttX, c1, c2]
      rw [HT]
      subst c1
      clear HT
      have HC := Lib.hid hc
      clear hc
      go_enter Try.func39, Try.ntmps39
      go_wp2_with fail
      refine (HC.out _).mono ?_
      rintro e w1 ⟨rfl, hb⟩
      go_wp2
      refine bodyPost_ret (v := ttV (⟨#[]⟩, ⟨#[]⟩, 4)) (by simp [results, Try.results39, go_sem, ttV]) rfl ⟨rfl, hb⟩
    · by_cases c3 : (R.size : Int) < N
      · have HT : ttX N R E most = (⟨#[]⟩, ⟨#[]⟩, 5) := by simp [ttX, c1, c2, c3]
        rw [HT]
        subst c1
        clear HT
        have HC := Lib.hid hc
        clear hc
        go_enter Try.func39, Try.ntmps39
        go_wp2_with fail
        refine (HC.out _).mono ?_
        rintro e w1 ⟨rfl, hb⟩
        go_wp2
        refine bodyPost_ret (v := ttV (⟨#[]⟩, ⟨#[]⟩, 5)) (by simp [results, Try.results39, go_sem, ttV]) rfl ⟨rfl, hb⟩
      · have HT : ttX N R E most = (R.extract 0 N.toNat, R.extract N.toNat R.size, 0) := by simp [ttX, c1, c2, c3]
        rw [HT]
        subst c1
        clear HT
        have HC := Lib.hid hc
        clear hc
        obtain ⟨n, rfl⟩ := Int.eq_ofNat_of_zero_le hl
        have hn : n ≤ R.size := by omega
        go_enter Try.func39, Try.ntmps39
        go_wp2_with fail
        refine (HC.out _).mono ?_
        rintro e w1 ⟨rfl, hb⟩
        go_wp2
        try go_region
        go_wp2
        refine bodyPost_ret (v := ttV (R.extract 0 n, R.extract n R.size, 0)) (by simp [results, Try.results39, go_sem, ttV]) rfl ⟨rfl, ?_⟩
        first
          | exact hb
          | exact hb.drew
  · have HT : ttX N R E most = (⟨#[]⟩, ⟨#[]⟩, E) := by simp [ttX, c1]
    rw [HT]
    clear HT
    have HC := Lib.hid hc
    clear hc
    go_enter Try.func39, Try.ntmps39
    go_wp2_with fail
    refine (HC.out _).mono ?_
    rintro e w1 ⟨rfl, hb⟩
    go_wp2
    refine bodyPost_ret (v := ttV (⟨#[]⟩, ⟨#[]⟩, E)) (by simp [results, Try.results39, go_sem, ttV]) rfl ⟨rfl, hb⟩

theorem takeText_any (s : ByteArray) (most : Int) (w : World) :
    Calls Try.prog 39 #[.string s, .int .i64 most] w fun e w' => e = .returned (ttV (ttF s most)) ∧ Below w.heap.size w w' :=
  takeText_gen s _ _ _ most w (tnF_lo s) (fun w => takeNum_any s w)
end Go.Proofs.Yteiifcmdpoonmaa
