/- Share, of any numbers. -/
import Derived.Test.YtniffjjkjgfacaaW3
namespace Go.Proofs.Ytniffjjkjgfacaa
set_option linter.unusedSimpArgs false
set_option linter.unusedVariables false
open Go.RowKit Go.Maps Go.Shelf
theorem div_any (hi lo y : Nat) (h1 : hi < y) (hlo : lo < 18446744073709551616) (hy : y < 9223372036854775808) (Q : Nat) (hQ : Q = (hi * 18446744073709551616 + lo) / y) (w : World) :
    Calls Try.prog 15 #[.int .u64 hi, .int .u64 lo, .int .u64 y] w fun e w' => (∃ r, e = .returned (.tuple #[.int .u64 (Q : Int), .int .u64 r])) ∧ Below w.heap.size w w' := by
  by_cases h0 : hi = 0
  · subst h0
    rw [Nat.zero_mul, Nat.zero_add] at hQ
    refine (div_lo lo y hlo (by omega) (by omega) w).mono fun e w' ⟨h2, h3⟩ => ⟨⟨((lo % y : Nat) : Int), by rw [h2, hQ]⟩, h3⟩
  · obtain ⟨s, a1, a2, a3, a4, a5⟩ := lz_at y (by omega) hy
    obtain ⟨Y, a, b, H, L, u, X, n, m, D⟩ := dw_of hi lo y s h1 hlo a2 a3 a4
    exact (div_w hi lo y s Y a b H L u X n m (by omega) h1 hlo a1 a2 D (Lib.hid a5) Q (Lib.hid hQ) w).mono fun e w' ⟨h2, h3⟩ => ⟨h2, by rw [h3]; exact Below.refl _ _⟩
/-- The share of numbers from 0 and from 1 on. -/
theorem share_pos (p q : Nat) (hp : p < 9223372036854775808) (hq : 0 < q) (hq2 : q < 9223372036854775808) (w : World) :
    Calls Try.prog 6 #[.int .i64 p, .int .i64 q] w fun e w' => e = .returned (.int .i64 (shr p q)) ∧ Below w.heap.size w w' := by
  have a1 : ¬ (q : Int) < 1 := by omega
  have a2 : ¬ (p : Int) < 0 := by omega
  have a3 : IntKind.u64.wrap (p : Int) = (p : Int) := u64_in _ (by omega) (by omega)
  have a4 : IntKind.u64.wrap (q : Int) = (q : Int) := u64_in _ (by omega) (by omega)
  have a5 : ¬ (q : Int) ≤ 0 := by omega
  have M0 := fun W => mul_at 1000 p (by omega) (by omega) W
  obtain ⟨h, hh⟩ : ∃ h, h = 1000 * p / 18446744073709551616 := ⟨_, rfl⟩
  obtain ⟨l, hl⟩ : ∃ l, l = 1000 * p % 18446744073709551616 := ⟨_, rfl⟩
  rw [← hh, ← hl] at M0
  have M : Hid (∀ W, Calls Try.prog 14 #[.int .u64 1000, .int .u64 p] W fun e w' => e = .returned (.tuple #[.int .u64 h, .int .u64 l]) ∧ w' = W) := Lib.hid M0
  have hll : l < 18446744073709551616 := by omega
  have hsum : h * 18446744073709551616 + l = 1000 * p := by omega
  clear M0
  by_cases hc : q ≤ h
  · have k1 : (q : Int) ≤ (h : Int) := by omega
    have HS : Hid (shr p q = 1000000) := Lib.hid (by
      unfold shr
      apply Nat.min_eq_right
      rw [Nat.le_div_iff_mul_le hq]
      omega)
    clear hh hl hsum
    go_enter Try.func6, Try.ntmps6
    go_wp2_with (first
      | (go_at_call 14; ((with_reducible refine (M.out _).mono ?_); rintro e w1 ⟨rfl, rfl⟩))
      | fail)
    go_ret
    exact ⟨by rw [HS.out]; rfl, Below.refl _ _⟩
  · have k1 : ¬ (q : Int) ≤ (h : Int) := by omega
    obtain ⟨d, hd⟩ : ∃ d, d = (h * 18446744073709551616 + l) / q := ⟨_, rfl⟩
    have D := Lib.hid (fun W => div_any h l q (by omega) hll hq2 d hd W)
    have hdl : d < 18446744073709551616 := by
      rw [hd, Nat.div_lt_iff_lt_mul hq]
      have h6 : (h + 1) * 18446744073709551616 ≤ q * 18446744073709551616 := Nat.mul_le_mul_right _ (by omega)
      omega
    have HS : Hid (shr p q = min d 1000000) := Lib.hid (by rw [shr, hd, hsum])
    clear hh hl hsum hd
    go_enter Try.func6, Try.ntmps6
    go_wp2_with (first
      | (go_at_call 14; ((with_reducible refine (M.out _).mono ?_); rintro e w1 ⟨rfl, rfl⟩))
      | (go_at_call 15; ((with_reducible refine (D.out _).mono ?_); rintro e w2 ⟨⟨r, rfl⟩, b2⟩; have B2 := Lib.hid b2; clear b2))
      | fail)
    go_ret
    exact ⟨by rw [HS.out, show ((min d 1000000 : Nat) : Int) = min (d : Int) 1000000 by omega]; rfl, B2.out⟩
theorem share_neg (a b : Int) (h : a < 0 ∨ b < 1) (w : World) : Calls Try.prog 6 #[.int .i64 a, .int .i64 b] w fun e w' => e = .returned (.int .i64 0) ∧ Below w.heap.size w w' := by
  by_cases h1 : b < 1
  · go_enter Try.func6, Try.ntmps6
    go_wp2
    go_ret
    exact ⟨rfl, Below.refl _ _⟩
  · have h2 : a < 0 := by omega
    go_enter Try.func6, Try.ntmps6
    go_wp2
    go_ret
    exact ⟨rfl, Below.refl _ _⟩
theorem rshare_neg (a b : Int) (h : a < 0 ∨ b < 1) (w : World) : Calls Try.prog 7 #[.int .i64 a, .int .i64 b] w fun e w' => e = .returned (.int .i64 0) ∧ w = w' := by
  by_cases h1 : a < 0
  · go_enter Try.func7, Try.ntmps7
    go_wp2
    go_ret
    exact ⟨rfl, rfl⟩
  · have h2 : b < 1 := by omega
    go_enter Try.func7, Try.ntmps7
    go_wp2
    go_ret
    exact ⟨rfl, rfl⟩
set_option maxRecDepth 10000 in
theorem rshare_pos (p q : Nat) (hp : p < 1125899906842624) (hq : 0 < q) (hq2 : q < 1125899906842624) (w : World) :
    Calls Try.prog 7 #[.int .i64 p, .int .i64 q] w fun e w' => e = .returned (.int .i64 (shr p q)) ∧ w = w' := by
  have a1 : ¬ (q : Int) < 1 := by omega
  have a2 : ¬ (p : Int) < 0 := by omega
  have a5 : ¬ (q : Int) = 0 := by omega
  obtain ⟨d, hd⟩ : ∃ d, d = 1000 * p / q := ⟨_, rfl⟩
  have hdl : d ≤ 1152921504606846976 := by rw [hd]; have := Nat.div_le_self (1000 * p) q; omega
  have a6 : (p : Int) * 1000 / (q : Int) = (d : Int) := by rw [hd]; rw [Int.mul_comm]; simp
  have a7 : ((p : Int) * 1000).tdiv (q : Int) = (d : Int) := by rw [Int.tdiv_eq_ediv_of_nonneg (by omega)]; exact a6
  have HS : Hid (shr p q = min d 1000000) := Lib.hid (by rw [shr, ← hd])
  clear hd
  by_cases hg : 1000000 < d
  · have hgI : (1000000 : Int) < (d : Int) := by omega
    go_enter Try.func7, Try.ntmps7
    go_wp2
    go_ret
    exact ⟨by rw [HS.out, Nat.min_eq_right (by omega)]; rfl, rfl⟩
  · have hgI : ¬ (1000000 : Int) < (d : Int) := by omega
    go_enter Try.func7, Try.ntmps7
    go_wp2
    go_ret
    exact ⟨by rw [HS.out, Nat.min_eq_left (by omega)]; rfl, rfl⟩
end Go.Proofs.Ytniffjjkjgfacaa
