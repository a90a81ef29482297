/- The answer package's TakeText, where its TakeNum answers as it should. -/
import Derived.Test.YteiifcmdpoonmaaW3
namespace Go.Proofs.Yteiifcmdpoonmaa
set_option linter.unusedSimpArgs false
open Go.RowKit
set_option linter.unusedVariables false

set_option maxHeartbeats 2000000 in
theorem rtakeText_gen (s R : ByteArray) (N E most : Int) (w : World) (hl : 0 ≤ N)
    (hc : ∀ w, Calls Try.prog 22 #[.string s] w fun e w' => e = .returned (.tuple #[.int .i64 N, .string R, .int .i64 E]) ∧ Below w.heap.size w w') :
    Calls Try.prog 23 #[.string s, .int .i64 most] w fun e w' => e = .returned (ttV (ttX N R E most)) ∧ Below w.heap.size w w' := by
  by_cases c1 : E = 0
  · by_cases c2 : most < N
    · have HT : ttX N R E most = (⟨#[]⟩, ⟨#[]⟩, 4) := by simp [ttX, c1, c2]
      rw [HT]
      subst c1
      clear HT
      have HC := Lib.hid hc
      clear hc
      go_enter Try.func23, Try.ntmps23
      go_wp2_with fail
      refine (HC.out _).mono ?_
      rintro e w1 ⟨rfl, hb⟩
      go_wp2
      refine bodyPost_ret (v := ttV (⟨#[]⟩, ⟨#[]⟩, 4)) (by simp [results, Try.results23, go_sem, ttV]) rfl ⟨rfl, hb⟩
    · by_cases c3 : (R.size : Int) < N
      · have HT : ttX N R E most = (⟨#[]⟩, ⟨#[]⟩, 5) := by simp [ttX, c1, c2, c3]
        rw [HT]
        subst c1
        clear HT
        have HC := Lib.hid hc
        clear hc
        go_enter Try.func23, Try.ntmps23
        go_wp2_with fail
        refine (HC.out _).mono ?_
        rintro e w1 ⟨rfl, hb⟩
        go_wp2
        refine bodyPost_ret (v := ttV (⟨#[]⟩, ⟨#[]⟩, 5)) (by simp [results, Try.results23, go_sem, ttV]) rfl ⟨rfl, hb⟩
      · have HT : ttX N R E most = (R.extract 0 N.toNat, R.extract N.toNat R.size, 0) := by simp [ttX, c1, c2, c3]
        rw [HT]
        subst c1
        clear HT
        have HC := Lib.hid hc
        clear hc
        obtain ⟨n, rfl⟩ := Int.eq_ofNat_of_zero_le hl
        have hn : n ≤ R.size := by omega
        go_enter Try.func23, Try.ntmps23
        go_wp2_with fail
        refine (HC.out _).mono ?_
        rintro e w1 ⟨rfl, hb⟩
        go_wp2
        try go_region
        go_wp2
        refine bodyPost_ret (v := ttV (R.extract 0 n, R.extract n R.size, 0)) (by simp [results, Try.results23, go_sem, ttV]) rfl ⟨rfl, ?_⟩
        first
          | exact hb
          | exact hb.drew
  · have HT : ttX N R E most = (⟨#[]⟩, ⟨#[]⟩, E) := by simp [ttX, c1]
    rw [HT]
    clear HT
    have HC := Lib.hid hc
    clear hc
    go_enter Try.func23, Try.ntmps23
    go_wp2_with fail
    refine (HC.out _).mono ?_
    rintro e w1 ⟨rfl, hb⟩
    go_wp2
    refine bodyPost_ret (v := ttV (⟨#[]⟩, ⟨#[]⟩, E)) (by simp [results, Try.results23, go_sem, ttV]) rfl ⟨rfl, hb⟩
end Go.Proofs.Yteiifcmdpoonmaa
