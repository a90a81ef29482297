/- The law MeasureShares. -/
import Derived.Test.YtniffjjkjgfacaaW4
import Derived.Test.YtniffjjkjgfacaaZ8
namespace Go.Proofs.Ytniffjjkjgfacaa
set_option linter.unusedSimpArgs false
set_option linter.unusedVariables false
open Go.RowKit Go.Maps Go.Shelf
theorem shr_le (p q : Nat) : shr p q ≤ 1000000 := Nat.min_le_right _ _
theorem shr_up (p q d : Nat) : shr p q ≤ shr (p + d) q := by
  unfold shr
  have h : 1000 * p / q ≤ 1000 * (p + d) / q := Nat.div_le_div_right (by omega)
  omega
theorem shr_dn (p q d : Nat) (hq : 0 < q) : shr p (q + d) ≤ shr p q := by
  unfold shr
  have h : 1000 * p / (q + d) ≤ 1000 * p / q := Nat.div_le_div_left (by omega) hq
  omega
theorem shr_one (p : Nat) (hp : 0 < p) : shr p p = 1000 := by
  unfold shr
  rw [Nat.mul_div_cancel _ hp]
  rfl
set_option maxRecDepth 100000 in
set_option maxHeartbeats 8000000 in
theorem shares_core (a b p q x y z : Int) (w : World) (X : Hid (∀ W, Calls Try.prog 6 #[.int .i64 a, .int .i64 b] W fun e w' => e = .returned (.int .i64 x) ∧ Below W.heap.size W w'))
    (R : Hid (a < 1125899906842624 → b < 1125899906842624 → ∀ W, Calls Try.prog 7 #[.int .i64 a, .int .i64 b] W fun e w' => e = .returned (.int .i64 x) ∧ W = w'))
    (Y : Hid (¬ a < 0 → ¬ b < 1 → a < 2305843009213693952 → b < 2305843009213693952 → ∀ W, Calls Try.prog 6 #[.int .i64 (a + p), .int .i64 b] W fun e w' => e = .returned (.int .i64 y) ∧ Below W.heap.size W w'))
    (Z : Hid (¬ a < 0 → ¬ b < 1 → a < 2305843009213693952 → b < 2305843009213693952 → ∀ W, Calls Try.prog 6 #[.int .i64 a, .int .i64 (b + q)] W fun e w' => e = .returned (.int .i64 z) ∧ Below W.heap.size W w'))
    (p0 : 0 ≤ p) (p1 : p ≤ 65535) (q0 : 0 ≤ q) (q1 : q ≤ 65535) (hx0 : 0 ≤ x) (hx1 : x ≤ 1000000) (hneg : a < 0 → x = 0) (hxy : x ≤ y) (hzx : z ≤ x) (hab : ¬ a < 0 → ¬ b < 1 → (a == b) = true → (x == 1000) = true) (hax : -9223372036854775808 ≤ a) (hbx : -9223372036854775808 ≤ b) :
    Calls Try.prog 3 #[.int .i64 a, .int .i64 b, .int .u16 p, .int .u16 q] w fun e w' => e = .returned (.bool true) ∧ Below w.heap.size w w' := by
  have g1 : ¬ x < 0 := by omega
  have g2 : ¬ 1000000 < x := by omega
  have HN := Lib.hid hneg
  have HAB := Lib.hid hab
  clear hneg hab
  by_cases h3 : a < 0
  · obtain rfl : x = 0 := HN.out h3
    have h5 : ¬ 2305843009213693952 ≤ a := by omega
    by_cases h6 : 2305843009213693952 ≤ b
    · have h7 : ¬ b < 1 := by omega
      have h1 : a < 1125899906842624 := by omega
      have h2 : ¬ b < 1125899906842624 := by omega
      go_enter Try.func3, Try.ntmps3
      go_wp2_with (first
        | (go_at_call 6; ((with_reducible refine (X.out _).mono ?_); rintro e w1 ⟨rfl, b1⟩; have B1 := Lib.hid b1; clear b1))
        | (go_at_call 8; ((with_reducible refine (live_true _).mono ?_); rintro e w3 ⟨rfl, b3⟩; have B3 := Lib.hid (bel_trans B1.out b3); clear b3))
        | fail)
      all_goals (go_ret; exact ⟨rfl, B3.out⟩)
    · by_cases h7 : b < 1
      · have h8 : b < 1 := h7
        have h1 : a < 1125899906842624 := by omega
        have h2 : b < 1125899906842624 := by omega
        have R1 := Lib.hid (R.out h1 h2)
        go_enter Try.func3, Try.ntmps3
        go_wp2_with (first
          | (go_at_call 6; ((with_reducible refine (X.out _).mono ?_); rintro e w1 ⟨rfl, b1⟩; have B1 := Lib.hid b1; clear b1))
          | (go_at_call 7; ((with_reducible refine (R1.out _).mono ?_); rintro e w2 ⟨rfl, rfl⟩))
          | (go_at_call 8; ((with_reducible refine (live_true _).mono ?_); rintro e w3 ⟨rfl, b3⟩; have B3 := Lib.hid (bel_trans B1.out b3); clear b3))
          | fail)
        all_goals (go_ret; exact ⟨rfl, B3.out⟩)
      · have h8 : ¬ b < 1 := h7
        have h1 : a < 1125899906842624 := by omega
        by_cases h2 : b < 1125899906842624
        · have R1 := Lib.hid (R.out h1 h2)
          go_enter Try.func3, Try.ntmps3
          go_wp2_with (first
            | (go_at_call 6; ((with_reducible refine (X.out _).mono ?_); rintro e w1 ⟨rfl, b1⟩; have B1 := Lib.hid b1; clear b1))
            | (go_at_call 7; ((with_reducible refine (R1.out _).mono ?_); rintro e w2 ⟨rfl, rfl⟩))
            | (go_at_call 8; ((with_reducible refine (live_true _).mono ?_); rintro e w3 ⟨rfl, b3⟩; have B3 := Lib.hid (bel_trans B1.out b3); clear b3))
            | fail)
          all_goals (go_ret; exact ⟨rfl, B3.out⟩)
        · go_enter Try.func3, Try.ntmps3
          go_wp2_with (first
            | (go_at_call 6; ((with_reducible refine (X.out _).mono ?_); rintro e w1 ⟨rfl, b1⟩; have B1 := Lib.hid b1; clear b1))
            | (go_at_call 8; ((with_reducible refine (live_true _).mono ?_); rintro e w3 ⟨rfl, b3⟩; have B3 := Lib.hid (bel_trans B1.out b3); clear b3))
            | fail)
          all_goals (go_ret; exact ⟨rfl, B3.out⟩)
  · by_cases h4 : b < 1
    · have h6 : ¬ 2305843009213693952 ≤ b := by omega
      by_cases h5 : 2305843009213693952 ≤ a
      · have h7 : 0 ≤ a := by omega
        have h1 : ¬ a < 1125899906842624 := by omega
        have h2 : b < 1125899906842624 := by omega
        go_enter Try.func3, Try.ntmps3
        go_wp2_with (first
          | (go_at_call 6; ((with_reducible refine (X.out _).mono ?_); rintro e w1 ⟨rfl, b1⟩; have B1 := Lib.hid b1; clear b1))
          | (go_at_call 8; ((with_reducible refine (live_true _).mono ?_); rintro e w3 ⟨rfl, b3⟩; have B3 := Lib.hid (bel_trans B1.out b3); clear b3))
          | fail)
        all_goals (go_ret; exact ⟨rfl, B3.out⟩)
      · have h7 : 0 ≤ a := by omega
        by_cases h1 : a < 1125899906842624
        · have h2 : b < 1125899906842624 := by omega
          have R1 := Lib.hid (R.out h1 h2)
          go_enter Try.func3, Try.ntmps3
          go_wp2_with (first
            | (go_at_call 6; ((with_reducible refine (X.out _).mono ?_); rintro e w1 ⟨rfl, b1⟩; have B1 := Lib.hid b1; clear b1))
            | (go_at_call 7; ((with_reducible refine (R1.out _).mono ?_); rintro e w2 ⟨rfl, rfl⟩))
            | (go_at_call 8; ((with_reducible refine (live_true _).mono ?_); rintro e w3 ⟨rfl, b3⟩; have B3 := Lib.hid (bel_trans B1.out b3); clear b3))
            | fail)
          all_goals (go_ret; exact ⟨rfl, B3.out⟩)
        · have h2 : b < 1125899906842624 := by omega
          go_enter Try.func3, Try.ntmps3
          go_wp2_with (first
            | (go_at_call 6; ((with_reducible refine (X.out _).mono ?_); rintro e w1 ⟨rfl, b1⟩; have B1 := Lib.hid b1; clear b1))
            | (go_at_call 8; ((with_reducible refine (live_true _).mono ?_); rintro e w3 ⟨rfl, b3⟩; have B3 := Lib.hid (bel_trans B1.out b3); clear b3))
            | fail)
          all_goals (go_ret; exact ⟨rfl, B3.out⟩)
    · by_cases h5 : 2305843009213693952 ≤ a
      · by_cases h6 : 2305843009213693952 ≤ b
        · have h7 : 0 ≤ a := by omega
          have h1 : ¬ a < 1125899906842624 := by omega
          have h2 : ¬ b < 1125899906842624 := by omega
          go_enter Try.func3, Try.ntmps3
          go_wp2_with (first
            | (go_at_call 6; ((with_reducible refine (X.out _).mono ?_); rintro e w1 ⟨rfl, b1⟩; have B1 := Lib.hid b1; clear b1))
            | (go_at_call 8; ((with_reducible refine (live_true _).mono ?_); rintro e w3 ⟨rfl, b3⟩; have B3 := Lib.hid (bel_trans B1.out b3); clear b3))
            | fail)
          all_goals (go_ret; exact ⟨rfl, B3.out⟩)
        · have h7 : 0 ≤ a := by omega
          have h1 : ¬ a < 1125899906842624 := by omega
          by_cases h2 : b < 1125899906842624
          · go_enter Try.func3, Try.ntmps3
            go_wp2_with (first
              | (go_at_call 6; ((with_reducible refine (X.out _).mono ?_); rintro e w1 ⟨rfl, b1⟩; have B1 := Lib.hid b1; clear b1))
              | (go_at_call 8; ((with_reducible refine (live_true _).mono ?_); rintro e w3 ⟨rfl, b3⟩; have B3 := Lib.hid (bel_trans B1.out b3); clear b3))
              | fail)
            all_goals (go_ret; exact ⟨rfl, B3.out⟩)
          · go_enter Try.func3, Try.ntmps3
            go_wp2_with (first
              | (go_at_call 6; ((with_reducible refine (X.out _).mono ?_); rintro e w1 ⟨rfl, b1⟩; have B1 := Lib.hid b1; clear b1))
              | (go_at_call 8; ((with_reducible refine (live_true _).mono ?_); rintro e w3 ⟨rfl, b3⟩; have B3 := Lib.hid (bel_trans B1.out b3); clear b3))
              | fail)
            all_goals (go_ret; exact ⟨rfl, B3.out⟩)
      · by_cases h6 : 2305843009213693952 ≤ b
        · have h7 : 0 ≤ a := by omega
          by_cases h1 : a < 1125899906842624
          · have h2 : ¬ b < 1125899906842624 := by omega
            go_enter Try.func3, Try.ntmps3
            go_wp2_with (first
              | (go_at_call 6; ((with_reducible refine (X.out _).mono ?_); rintro e w1 ⟨rfl, b1⟩; have B1 := Lib.hid b1; clear b1))
              | (go_at_call 8; ((with_reducible refine (live_true _).mono ?_); rintro e w3 ⟨rfl, b3⟩; have B3 := Lib.hid (bel_trans B1.out b3); clear b3))
              | fail)
            all_goals (go_ret; exact ⟨rfl, B3.out⟩)
          · have h2 : ¬ b < 1125899906842624 := by omega
            go_enter Try.func3, Try.ntmps3
            go_wp2_with (first
              | (go_at_call 6; ((with_reducible refine (X.out _).mono ?_); rintro e w1 ⟨rfl, b1⟩; have B1 := Lib.hid b1; clear b1))
              | (go_at_call 8; ((with_reducible refine (live_true _).mono ?_); rintro e w3 ⟨rfl, b3⟩; have B3 := Lib.hid (bel_trans B1.out b3); clear b3))
              | fail)
            all_goals (go_ret; exact ⟨rfl, B3.out⟩)
        · have Y1 := Lib.hid (Y.out h3 h4 (by omega) (by omega))
          have Z1 := Lib.hid (Z.out h3 h4 (by omega) (by omega))
          have e1 : IntKind.i64.wrap (a + p) = a + p := IntWalk.i64_in _ (by omega)
          have e2 : IntKind.i64.wrap (b + q) = b + q := IntWalk.i64_in _ (by omega)
          by_cases h1 : a < 1125899906842624
          · by_cases h2 : b < 1125899906842624
            · have R1 := Lib.hid (R.out h1 h2)
              by_cases hE : a = b
              · obtain rfl : x = 1000 := by simpa using HAB.out h3 h4 (by simpa using hE)
                subst hE
                go_enter Try.func3, Try.ntmps3
                go_wp2_with (first
                  | (go_at_call 6; ((with_reducible refine (X.out _).mono ?_); rintro e w1 ⟨rfl, b1⟩; have B1 := Lib.hid b1; clear b1))
                  | (go_at_call 7; ((with_reducible refine (R1.out _).mono ?_); rintro e w2 ⟨rfl, rfl⟩))
                  | (go_at_call 8; ((with_reducible refine (live_true _).mono ?_); rintro e w3 ⟨rfl, b3⟩; have B3 := Lib.hid (bel_trans B1.out b3); clear b3))
                  | (go_at_call 6; ((with_reducible refine (Y1.out _).mono ?_); rintro e w4 ⟨rfl, b4⟩; have B4 := Lib.hid (bel_trans B3.out b4); clear b4))
                  | (go_at_call 6; ((with_reducible refine (Z1.out _).mono ?_); rintro e w5 ⟨rfl, b5⟩; have B5 := Lib.hid (bel_trans B4.out b5); clear b5))
                  | fail)
                all_goals (go_ret; exact ⟨rfl, B5.out⟩)
              · have hE2 : (a == b) = false := by simpa using hE
                go_enter Try.func3, Try.ntmps3
                go_wp2_with (first
                  | (go_at_call 6; ((with_reducible refine (X.out _).mono ?_); rintro e w1 ⟨rfl, b1⟩; have B1 := Lib.hid b1; clear b1))
                  | (go_at_call 7; ((with_reducible refine (R1.out _).mono ?_); rintro e w2 ⟨rfl, rfl⟩))
                  | (go_at_call 8; ((with_reducible refine (live_true _).mono ?_); rintro e w3 ⟨rfl, b3⟩; have B3 := Lib.hid (bel_trans B1.out b3); clear b3))
                  | (go_at_call 6; ((with_reducible refine (Y1.out _).mono ?_); rintro e w4 ⟨rfl, b4⟩; have B4 := Lib.hid (bel_trans B3.out b4); clear b4))
                  | (go_at_call 6; ((with_reducible refine (Z1.out _).mono ?_); rintro e w5 ⟨rfl, b5⟩; have B5 := Lib.hid (bel_trans B4.out b5); clear b5))
                  | fail)
                all_goals (go_ret; exact ⟨rfl, B5.out⟩)
            · by_cases hE : a = b
              · exfalso; omega
              · have hE2 : (a == b) = false := by simpa using hE
                go_enter Try.func3, Try.ntmps3
                go_wp2_with (first
                  | (go_at_call 6; ((with_reducible refine (X.out _).mono ?_); rintro e w1 ⟨rfl, b1⟩; have B1 := Lib.hid b1; clear b1))
                  | (go_at_call 8; ((with_reducible refine (live_true _).mono ?_); rintro e w3 ⟨rfl, b3⟩; have B3 := Lib.hid (bel_trans B1.out b3); clear b3))
                  | (go_at_call 6; ((with_reducible refine (Y1.out _).mono ?_); rintro e w4 ⟨rfl, b4⟩; have B4 := Lib.hid (bel_trans B3.out b4); clear b4))
                  | (go_at_call 6; ((with_reducible refine (Z1.out _).mono ?_); rintro e w5 ⟨rfl, b5⟩; have B5 := Lib.hid (bel_trans B4.out b5); clear b5))
                  | fail)
                all_goals (go_ret; exact ⟨rfl, B5.out⟩)
          · by_cases h2 : b < 1125899906842624
            · by_cases hE : a = b
              · exfalso; omega
              · have hE2 : (a == b) = false := by simpa using hE
                go_enter Try.func3, Try.ntmps3
                go_wp2_with (first
                  | (go_at_call 6; ((with_reducible refine (X.out _).mono ?_); rintro e w1 ⟨rfl, b1⟩; have B1 := Lib.hid b1; clear b1))
                  | (go_at_call 8; ((with_reducible refine (live_true _).mono ?_); rintro e w3 ⟨rfl, b3⟩; have B3 := Lib.hid (bel_trans B1.out b3); clear b3))
                  | (go_at_call 6; ((with_reducible refine (Y1.out _).mono ?_); rintro e w4 ⟨rfl, b4⟩; have B4 := Lib.hid (bel_trans B3.out b4); clear b4))
                  | (go_at_call 6; ((with_reducible refine (Z1.out _).mono ?_); rintro e w5 ⟨rfl, b5⟩; have B5 := Lib.hid (bel_trans B4.out b5); clear b5))
                  | fail)
                all_goals (go_ret; exact ⟨rfl, B5.out⟩)
            · by_cases hE : a = b
              · obtain rfl : x = 1000 := by simpa using HAB.out h3 h4 (by simpa using hE)
                subst hE
                go_enter Try.func3, Try.ntmps3
                go_wp2_with (first
                  | (go_at_call 6; ((with_reducible refine (X.out _).mono ?_); rintro e w1 ⟨rfl, b1⟩; have B1 := Lib.hid b1; clear b1))
                  | (go_at_call 8; ((with_reducible refine (live_true _).mono ?_); rintro e w3 ⟨rfl, b3⟩; have B3 := Lib.hid (bel_trans B1.out b3); clear b3))
                  | (go_at_call 6; ((with_reducible refine (Y1.out _).mono ?_); rintro e w4 ⟨rfl, b4⟩; have B4 := Lib.hid (bel_trans B3.out b4); clear b4))
                  | (go_at_call 6; ((with_reducible refine (Z1.out _).mono ?_); rintro e w5 ⟨rfl, b5⟩; have B5 := Lib.hid (bel_trans B4.out b5); clear b5))
                  | fail)
                all_goals (go_ret; exact ⟨rfl, B5.out⟩)
              · have hE2 : (a == b) = false := by simpa using hE
                go_enter Try.func3, Try.ntmps3
                go_wp2_with (first
                  | (go_at_call 6; ((with_reducible refine (X.out _).mono ?_); rintro e w1 ⟨rfl, b1⟩; have B1 := Lib.hid b1; clear b1))
                  | (go_at_call 8; ((with_reducible refine (live_true _).mono ?_); rintro e w3 ⟨rfl, b3⟩; have B3 := Lib.hid (bel_trans B1.out b3); clear b3))
                  | (go_at_call 6; ((with_reducible refine (Y1.out _).mono ?_); rintro e w4 ⟨rfl, b4⟩; have B4 := Lib.hid (bel_trans B3.out b4); clear b4))
                  | (go_at_call 6; ((with_reducible refine (Z1.out _).mono ?_); rintro e w5 ⟨rfl, b5⟩; have B5 := Lib.hid (bel_trans B4.out b5); clear b5))
                  | fail)
                all_goals (go_ret; exact ⟨rfl, B5.out⟩)
theorem u16_in {a : Int} (h : (Lit.int .u16 a).wf = true) : 0 ≤ a ∧ a ≤ 65535 := by
  simp [Lit.wf, IntKind.min, IntKind.max, IntKind.signed, IntKind.bits] at h
  omega
theorem i64_bd {a : Int} (h : (Lit.int .i64 a).wf = true) : -9223372036854775808 ≤ a ∧ a ≤ 9223372036854775807 := by
  simp [Lit.wf, IntKind.min, IntKind.max, IntKind.signed, IntKind.bits] at h
  omega
theorem shares_law (a b p q : Int) (w : World) (ha : (Lit.int .i64 a).wf = true) (hb : (Lit.int .i64 b).wf = true) (hp : (Lit.int .u16 p).wf = true) (hq : (Lit.int .u16 q).wf = true) :
    Calls Try.prog 3 #[.int .i64 a, .int .i64 b, .int .u16 p, .int .u16 q] w fun e w' => e = .returned (.bool true) ∧ Below w.heap.size w w' := by
  obtain ⟨a0, a1⟩ := i64_bd ha
  obtain ⟨b0, b1⟩ := i64_bd hb
  obtain ⟨p0, p1⟩ := u16_in hp
  obtain ⟨q0, q1⟩ := u16_in hq
  by_cases hn : a < 0 ∨ b < 1
  · refine shares_core a b p q 0 0 0 w (Lib.hid (fun W => share_neg a b hn W)) (Lib.hid (fun _ _ W => rshare_neg a b hn W)) (Lib.hid (fun h1 h2 _ _ => by omega)) (Lib.hid (fun h1 h2 _ _ => by omega)) p0 p1 q0 q1 (by omega) (by omega) (fun _ => rfl) (by omega) (by omega) (fun h1 h2 _ => by omega) a0 b0
  · obtain ⟨x, hx⟩ : ∃ x : Nat, a = x := ⟨a.toNat, by omega⟩
    obtain ⟨y, hy⟩ : ∃ y : Nat, b = y := ⟨b.toNat, by omega⟩
    obtain ⟨u, hu⟩ : ∃ u : Nat, p = u := ⟨p.toNat, by omega⟩
    obtain ⟨v, hv⟩ : ∃ v : Nat, q = v := ⟨q.toNat, by omega⟩
    subst hx hy hu hv
    have s1 := shr_up x y u
    have s2 := shr_dn x y v (by omega)
    have s3 := shr_le x y
    refine shares_core x y u v (shr x y : Nat) (shr (x + u) y : Nat) (shr x (y + v) : Nat) w (Lib.hid (fun W => share_pos x y (by omega) (by omega) (by omega) W)) (Lib.hid (fun h1 h2 W => rshare_pos x y (by omega) (by omega) (by omega) W))
      (Lib.hid (fun h1 h2 h5 h6 W => ?_)) (Lib.hid (fun h1 h2 h5 h6 W => ?_)) p0 p1 q0 q1 (by omega) (by omega) (fun h => by omega) (by omega) (by omega) (fun h1 h2 h => ?_) a0 b0
    · rw [show (x : Int) + (u : Int) = ((x + u : Nat) : Int) by omega]
      exact share_pos (x + u) y (by omega) (by omega) (by omega) W
    · rw [show (y : Int) + (v : Int) = ((y + v : Nat) : Int) by omega]
      exact share_pos x (y + v) (by omega) (by omega) (by omega) W
    · have e : x = y := by simp at h; omega
      subst e
      rw [shr_one x (by omega)]
      rfl
end Go.Proofs.Ytniffjjkjgfacaa
