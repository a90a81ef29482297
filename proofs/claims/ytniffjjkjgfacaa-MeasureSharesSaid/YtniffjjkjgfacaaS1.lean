/- One number in another one, in thousandths: both sides, for small numbers. -/
import Derived.Test.YtniffjjkjgfacaaS0
namespace Go.Proofs.Ytniffjjkjgfacaa
set_option linter.unusedSimpArgs false
open Go.RowKit Go.Maps
set_option linter.unusedVariables false
theorem u64_in (x : Int) (h0 : 0 ≤ x) (h1 : x < 18446744073709551616) : IntKind.u64.wrap x = x := by rw [IntKind.wrap_u64]; omega
set_option maxRecDepth 10000 in
set_option maxHeartbeats 2000000 in
theorem div_lo (r q : Nat) (hr : r < 18446744073709551616) (hq : 0 < q) (hq2 : q < 18446744073709551616) (w : World) :
    Calls Try.prog 15 #[.int .u64 0, .int .u64 r, .int .u64 q] w fun e w' => e = .returned (.tuple #[.int .u64 ((r / q : Nat) : Int), .int .u64 ((r % q : Nat) : Int)]) ∧ Below w.heap.size w w' := by
  have a1 : ¬ (q : Int) = 0 := by omega
  have a2 : ¬ (q : Int) ≤ 0 := by omega
  have a3 : IntKind.u64.wrap ((r : Int) / (q : Int)) = (r : Int) / (q : Int) := by
    have h : (r : Int) / (q : Int) = ((r / q : Nat) : Int) := by simp
    rw [h]
    obtain ⟨d, hd⟩ : ∃ d, d = r / q := ⟨_, rfl⟩
    have := Nat.div_le_self r q
    rw [← hd] at this ⊢
    exact u64_in _ (by omega) (by omega)
  have A3 := Lib.hid a3
  clear a3
  go_enter Try.func15, Try.ntmps15
  go_wp2_with fail
  go_quiet (fail)
  all_goals
    have a3 := A3.out
    go_wp2
    exact bodyPost_ret (v := .tuple #[.int .u64 ((r / q : Nat) : Int), .int .u64 ((r % q : Nat) : Int)]) (by simp [results, Try.results15, go_sem, a3]) rfl ⟨rfl, bel_drewN (Below.refl _ _) _⟩
/-- The share of small numbers. -/
def shr (p q : Nat) : Nat := min (1000 * p / q) 1000000
set_option maxRecDepth 10000 in
set_option maxHeartbeats 2000000 in
theorem share_small (p q : Nat) (hp : p ≤ 1000000) (hq : 0 < q) (hq2 : q ≤ 1000000) (w : World) :
    Calls Try.prog 6 #[.int .i64 p, .int .i64 q] w fun e w' => e = .returned (.int .i64 (shr p q)) ∧ Below w.heap.size w w' := by
  have a1 : ¬ (q : Int) < 1 := by omega
  have a2 : ¬ (p : Int) < 0 := by omega
  have a3 : IntKind.u64.wrap (p : Int) = (p : Int) := u64_in _ (by omega) (by omega)
  have a4 : IntKind.u64.wrap (q : Int) = (q : Int) := u64_in _ (by omega) (by omega)
  have a5 : ¬ (q : Int) ≤ 0 := by omega
  have M : Hid (∀ W, Calls Try.prog 14 #[.int .u64 1000, .int .u64 p] W fun e w' => e = .returned (.tuple #[.int .u64 0, .int .u64 ((1000 * p : Nat) : Int)]) ∧ w' = W) := Lib.hid (fun W => by
    have h := mul_at 1000 p (by omega) (by omega) W
    rw [show 1000 * p / 18446744073709551616 = 0 by omega, show 1000 * p % 18446744073709551616 = 1000 * p by omega] at h
    exact h)
  obtain ⟨r, hr⟩ : ∃ r, r = 1000 * p := ⟨_, rfl⟩
  rw [← hr] at M
  have D : Hid (∀ W, Calls Try.prog 15 #[.int .u64 0, .int .u64 r, .int .u64 q] W fun e w' => e = .returned (.tuple #[.int .u64 ((r / q : Nat) : Int), .int .u64 ((r % q : Nat) : Int)]) ∧ Below W.heap.size W w') := Lib.hid (fun W => div_lo r q (by omega) hq (by omega) W)
  obtain ⟨d, hd⟩ : ∃ d, d = r / q := ⟨_, rfl⟩
  obtain ⟨m, hm⟩ : ∃ m, m = r % q := ⟨_, rfl⟩
  rw [← hd, ← hm] at D
  have hdl : d ≤ 1000000000 := by rw [hd]; have := Nat.div_le_self r q; omega
  have HS : Hid (shr p q = min d 1000000) := Lib.hid (by rw [shr, ← hr, ← hd])
  clear hr hd hm
  go_enter Try.func6, Try.ntmps6
  go_wp2_with (first
    | (go_at_call 14; ((with_reducible refine (M.out _).mono ?_); rintro e w1 ⟨rfl, rfl⟩))
    | (go_at_call 15; ((with_reducible refine (D.out _).mono ?_); rintro e w2 ⟨rfl, b2⟩; have B2 := Lib.hid b2; clear b2))
    | fail)
  · go_ret
    exact ⟨by rw [HS.out, Nat.min_eq_right (by omega)]; rfl, B2.out⟩
  · go_ret
    exact ⟨by rw [HS.out, Nat.min_eq_left (by omega)]; rfl, B2.out⟩
set_option maxHeartbeats 1000000 in
theorem share_zero (p : Int) (w : World) : Calls Try.prog 6 #[.int .i64 p, .int .i64 0] w fun e w' => e = .returned (.int .i64 0) ∧ Below w.heap.size w w' := by
  go_enter Try.func6, Try.ntmps6
  go_wp2
  go_ret
  exact ⟨rfl, Below.refl _ _⟩
theorem share_any (p q : Nat) (hp : p ≤ 1000000) (hq2 : q ≤ 1000000) (w : World) :
    Calls Try.prog 6 #[.int .i64 p, .int .i64 q] w fun e w' => e = .returned (.int .i64 (shr p q)) ∧ Below w.heap.size w w' := by
  by_cases h : 0 < q
  · exact share_small p q hp h hq2 w
  · obtain rfl : q = 0 := by omega
    have e : shr p 0 = 0 := by simp [shr]
    rw [e]
    exact share_zero p w
set_option maxRecDepth 10000 in
set_option maxHeartbeats 1000000 in
theorem rshare_small (p q : Nat) (hp : p ≤ 1000000) (hq : 0 < q) (hq2 : q ≤ 1000000) (w : World) :
    Calls Try.prog 7 #[.int .i64 p, .int .i64 q] w fun e w' => e = .returned (.int .i64 (shr p q)) ∧ w = w' := by
  have a1 : ¬ (q : Int) < 1 := by omega
  have a2 : ¬ (p : Int) < 0 := by omega
  have a5 : ¬ (q : Int) = 0 := by omega
  obtain ⟨d, hd⟩ : ∃ d, d = 1000 * p / q := ⟨_, rfl⟩
  have hdl : d ≤ 1000000000 := by rw [hd]; have := Nat.div_le_self (1000 * p) q; omega
  have a6 : (p : Int) * 1000 / (q : Int) = (d : Int) := by rw [hd]; rw [Int.mul_comm]; simp
  have a7 : ((p : Int) * 1000).tdiv (q : Int) = (d : Int) := by rw [Int.tdiv_eq_ediv_of_nonneg (by omega)]; exact a6
  have HS : Hid (shr p q = min d 1000000) := Lib.hid (by rw [shr, ← hd])
  clear hd
  go_enter Try.func7, Try.ntmps7
  go_wp2
  · go_ret
    exact ⟨by rw [HS.out, Nat.min_eq_right (by omega)]; rfl, rfl⟩
  · go_ret
    exact ⟨by rw [HS.out, Nat.min_eq_left (by omega)]; rfl, rfl⟩
set_option maxHeartbeats 1000000 in
theorem rshare_zero (p : Int) (w : World) : Calls Try.prog 7 #[.int .i64 p, .int .i64 0] w fun e w' => e = .returned (.int .i64 0) ∧ w = w' := by
  go_enter Try.func7, Try.ntmps7
  go_wp2
  all_goals
    go_ret
    exact ⟨rfl, rfl⟩
theorem rshare_any (p q : Nat) (hp : p ≤ 1000000) (hq2 : q ≤ 1000000) (w : World) :
    Calls Try.prog 7 #[.int .i64 p, .int .i64 q] w fun e w' => e = .returned (.int .i64 (shr p q)) ∧ w = w' := by
  by_cases h : 0 < q
  · exact rshare_small p q hp h hq2 w
  · obtain rfl : q = 0 := by omega
    have e : shr p 0 = 0 := by simp [shr]
    rw [e]
    exact rshare_zero p w
/-- How many moves did one of all these. -/
def nall (xs : List MV) : Nat := cnt isA xs + cnt isB xs + cnt isC xs
set_option maxHeartbeats 1000000 in
theorem busy_any (A : Option Addr) (n cap : Nat) (xs : List MV) (w : World) (hl : xs.length = n) (hn : n ≤ 1000) (hA : EM.Rd w A xs) :
    Calls Try.prog 13 #[.slice A n cap] w fun e w' => e = .returned (.int .i64 (shr (nall xs) n)) ∧ Below w.heap.size w w' := by
  have C := Lib.hid (cost_any A n cap xs w hl hn hA)
  rw [numA, numB, numC] at C
  have ja := cnt_take isA xs n
  have jb := cnt_take isB xs n
  have jc := cnt_take isC xs n
  rw [List.take_of_length_le (by omega)] at ja jb jc
  obtain ⟨a, ha⟩ : ∃ a, a = cnt isA xs := ⟨_, rfl⟩
  obtain ⟨b, hb⟩ : ∃ b, b = cnt isB xs := ⟨_, rfl⟩
  obtain ⟨c, hc⟩ : ∃ c, c = cnt isC xs := ⟨_, rfl⟩
  have HN : Hid (nall xs = a + b + c) := Lib.hid (by rw [ha, hb, hc]; rfl)
  rw [← ha, ← hb, ← hc] at C
  rw [← ha] at ja; rw [← hb] at jb; rw [← hc] at jc
  have S : Hid (∀ W, Calls Try.prog 6 #[.int .i64 ((a : Int) + (b : Int) + (c : Int)), .int .i64 n] W fun e w' => e = .returned (.int .i64 (shr (nall xs) n)) ∧ Below W.heap.size W w') := Lib.hid (fun W => by
    rw [HN.out]
    have h := share_any (a + b + c) n (by omega) (by omega) W
    rw [Int.natCast_add, Int.natCast_add] at h
    exact h)
  clear ha hb hc hA hl
  go_enter Try.func13, Try.ntmps13
  go_wp2_with (first
    | (go_at_call 11; ((with_reducible refine C.out.mono ?_); rintro e w1 ⟨rfl, b1⟩; have B1 := Lib.hid b1; clear b1))
    | (go_at_call 6; ((with_reducible refine (S.out _).mono ?_); rintro e w2 ⟨rfl, b2⟩; have B2 := Lib.hid (bel_trans B1.out b2); clear b2))
    | fail)
  go_ret
  exact ⟨rfl, B2.out⟩
end Go.Proofs.Ytniffjjkjgfacaa
