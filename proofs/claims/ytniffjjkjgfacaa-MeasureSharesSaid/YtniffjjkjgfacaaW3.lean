/- The library's division of two words by one, where the high word is below the divisor and not nought. -/
import Derived.Test.YtniffjjkjgfacaaW2
import Derived.IntWalk
import Derived.Laws.Bits64b
namespace Go.Proofs.Ytniffjjkjgfacaa
set_option linter.unusedSimpArgs false
set_option linter.unusedVariables false
open Go.RowKit Go.Maps Go.Shelf
/-- What the words of the division are. -/
structure Dw (hi lo y s Y a b H L u X n m : Nat) : Prop where
  y1 : Y = y * 2 ^ s
  y2 : 9223372036854775808 ≤ Y
  y3 : Y < 18446744073709551616
  a1 : a = Y / 4294967296
  b1 : b = Y % 4294967296
  h1 : H = hi * 2 ^ s
  l1 : L = lo / 2 ^ (64 - s)
  l2 : L < 2 ^ s
  u1 : u = H + L
  x1 : X = lo * 2 ^ s % 18446744073709551616
  n1 : n = X / 4294967296
  m1 : m = X % 4294967296
  uy : u < Y
  all : (hi * 18446744073709551616 + lo) * 2 ^ s = (u * 4294967296 + n) * 4294967296 + m
theorem dw_of (hi lo y s : Nat) (h1 : hi < y) (hlo : lo < 18446744073709551616) (hs2 : s ≤ 63) (hY1 : 9223372036854775808 ≤ y * 2 ^ s) (hY2 : y * 2 ^ s < 18446744073709551616) :
    ∃ Y a b H L u X n m, Dw hi lo y s Y a b H L u X n m := by
  obtain ⟨E, hE⟩ : ∃ E, E = 2 ^ s := ⟨_, rfl⟩
  obtain ⟨F, hF⟩ : ∃ F, F = 2 ^ (64 - s) := ⟨_, rfl⟩
  have hEF : F * E = 18446744073709551616 := by rw [hE, hF, ← Nat.pow_add, show 64 - s + s = 64 by omega]
  have hE0 : 0 < E := by rw [hE]; exact Nat.pow_pos (by omega)
  have hF0 : 0 < F := by rw [hF]; exact Nat.pow_pos (by omega)
  have hL : lo / F < E := by rw [Nat.div_lt_iff_lt_mul hF0, Nat.mul_comm, hEF]; exact hlo
  have hX : lo * E = (lo / F) * 18446744073709551616 + lo * E % 18446744073709551616 := by
    have h := Nat.div_add_mod (lo * E) 18446744073709551616
    have e : lo * E / 18446744073709551616 = lo / F := by rw [← hEF]; exact Nat.mul_div_mul_right _ _ hE0
    rw [e] at h
    omega
  rw [← hE] at hY1 hY2
  have hall : (hi * 18446744073709551616 + lo) * E = (hi * E + lo / F) * 18446744073709551616 + lo * E % 18446744073709551616 := by
    rw [Nat.add_mul, Nat.add_mul, Nat.mul_right_comm]
    omega
  have huy : hi * E + lo / F < y * E := by
    have h2 : (hi + 1) * E ≤ y * E := Nat.mul_le_mul_right _ h1
    rw [Nat.succ_mul] at h2
    omega
  refine ⟨y * E, _, _, hi * E, lo / F, hi * E + lo / F, lo * E % 18446744073709551616, _, _, ⟨by rw [hE], hY1, hY2, rfl, rfl, by rw [hE], by rw [hF], by rw [← hE]; exact hL, rfl, by rw [hE], rfl, rfl, huy, ?_⟩⟩
  rw [← hE, hall]
  obtain ⟨X, hXx⟩ : ∃ X, X = lo * E % 18446744073709551616 := ⟨_, rfl⟩
  obtain ⟨u, hu⟩ : ∃ u, u = hi * E + lo / F := ⟨_, rfl⟩
  rw [← hXx, ← hu]
  omega
theorem ret_q {Q A R : Int} (h : Q = A) : Ending.returned (.tuple #[.int .u64 A, .int .u64 R]) = .returned (.tuple #[.int .u64 Q, .int .u64 R]) := by rw [h]
theorem pow_int (s : Nat) : (2 : Int) ^ s = ((2 ^ s : Nat) : Int) := by simp
set_option maxRecDepth 10000 in
set_option maxHeartbeats 8000000 in
theorem div_w (hi lo y s Y a b H L u X n m : Nat) (h0 : 0 < hi) (h1 : hi < y) (hlo : lo < 18446744073709551616) (hs : 1 ≤ s) (hs2 : s ≤ 63) (D : Dw hi lo y s Y a b H L u X n m) (LZ : Hid (∀ w, Calls Try.prog 21 #[.int .u64 y] w fun e w' => e = .returned (.int .i64 s) ∧ w' = w)) (Q : Nat) (HQ : Hid (Q = (hi * 18446744073709551616 + lo) / y)) (w : World) :
    Calls Try.prog 15 #[.int .u64 hi, .int .u64 lo, .int .u64 y] w fun e w' => (∃ r, e = .returned (.tuple #[.int .u64 (Q : Int), .int .u64 r])) ∧ w' = w := by
  have y3 := D.y3
  have y2 := D.y2
  have uy := D.uy
  have ha := D.a1
  have hb := D.b1
  have hn := D.n1
  have hm := D.m1
  have hX := D.x1
  have hul : u < 18446744073709551616 := by omega
  have hXl : X < 18446744073709551616 := by rw [hX]; exact Nat.mod_lt _ (by omega)
  have a1l : a < 4294967296 := by omega
  have a2l : 4294967296 ≤ 2 * a := by omega
  have bl : b < 4294967296 := by omega
  have nl : n < 4294967296 := by omega
  have ml : m < 4294967296 := by omega
  have HD1 : Hid (Kd 4294967296 Y a b u n) := Lib.hid ⟨by omega, bl, a2l, a1l, uy, nl, by omega⟩
  have HD2 : Hid (∀ v, v < Y → Kd 4294967296 Y a b v m) := Lib.hid (fun v hv => ⟨by omega, bl, a2l, a1l, hv, ml, by omega⟩)
  have HFIN : Hid (∀ z x, z = (u * 4294967296 + n) / Y → x = ((u * 4294967296 + n) % Y * 4294967296 + m) / Y → (Q : Int) = (z : Int) * 4294967296 + (x : Int)) := Lib.hid (fun z x hz hx => by
    have e := two_digits (by omega) hz hx
    have e2 : (hi * 18446744073709551616 + lo) / y = (hi * 18446744073709551616 + lo) * 2 ^ s / Y := by rw [D.y1]; exact (Nat.mul_div_mul_right _ _ (Nat.pow_pos (by omega))).symm
    rw [HQ.out, e2, D.all, ← e]
    omega)
  have c0 : ¬ (y : Int) = 0 := by omega
  have c1 : ¬ (y : Int) ≤ (hi : Int) := by omega
  have c2 : ¬ (hi : Int) = 0 := by omega
  have c3 : ¬ y = 0 := by omega
  have c4 : ¬ y ≤ hi := by omega
  have c5 : ¬ hi = 0 := by omega
  have c6 : ¬ (a : Int) = 0 := by omega
  have c7 : ¬ a = 0 := by omega
  have f0 : IntKind.u64.wrap (s : Int) = (s : Int) := u64_in _ (by omega) (by omega)
  have f1 : IntKind.u64.wrap ((y : Int) * 2 ^ s) = (Y : Int) := by rw [pow_int, Mul64.mulN, ← D.y1]; exact u64_in _ (by omega) (by omega)
  have f2 : (Y : Int) / 4294967296 = (a : Int) := by omega
  have f3 : bits BinOp.and IntKind.u64 (Y : Int) 4294967295 = (b : Int) := by rw [Mul64.maskN _ y3, ← hb]
  have hHl : H < 18446744073709551616 := by have := D.u1; omega
  have f4 : IntKind.u64.wrap ((hi : Int) * 2 ^ s) = (H : Int) := by rw [pow_int, Mul64.mulN, ← D.h1]; exact u64_in _ (by omega) (by omega)
  have f5 : (lo : Int) / 2 ^ (64 - s) = (L : Int) := by rw [pow_int, ← Int.natCast_ediv, ← D.l1]
  have f6 : bits BinOp.or IntKind.u64 (H : Int) (L : Int) = (u : Int) := by
    rw [bits_or_u64_nat H L hHl (by have := D.u1; omega), D.u1, D.h1, Nat.mul_comm hi, ← Nat.two_pow_add_eq_or_of_lt D.l2]
  have f7 : IntKind.u64.wrap ((lo : Int) * 2 ^ s) = (X : Int) := by rw [pow_int, Mul64.mulN, Mul64.wrapM, ← hX]
  have f8 : (X : Int) / 4294967296 = (n : Int) := by omega
  have f9 : bits BinOp.and IntKind.u64 (X : Int) 4294967295 = (m : Int) := by rw [Mul64.maskN _ hXl, ← hm]
  obtain ⟨q0, hq0⟩ : ∃ q, q = u / a := ⟨_, rfl⟩
  obtain ⟨r0, hr0⟩ : ∃ r, r = u % a := ⟨_, rfl⟩
  have HK0 : Hid (Kn 4294967296 Y a u n q0 r0) := Lib.hid (by rw [hq0, hr0]; exact Kn.start HD1.out)
  have hr0l : r0 < 4294967296 := by rw [hr0]; exact Nat.lt_trans (Nat.mod_lt _ (by omega)) a1l
  have hq0l := HK0.out.le
  have hq0e := HK0.out.e
  obtain ⟨p0, hp0⟩ : ∃ p, p = q0 * a := ⟨_, rfl⟩
  rw [← hp0] at hq0e
  have f10 : (u : Int).tdiv (a : Int) = (q0 : Int) := by rw [Int.tdiv_eq_ediv_of_nonneg (by omega), ← Int.natCast_ediv, ← hq0]
  have f11 : (u : Int) / (a : Int) = (q0 : Int) := by rw [← Int.natCast_ediv, ← hq0]
  have f12 : IntKind.u64.wrap (q0 : Int) = (q0 : Int) := u64_in _ (by omega) (by omega)
  have f13 : IntKind.u64.wrap ((q0 : Int) * (a : Int)) = (p0 : Int) := by rw [Mul64.mulN, ← hp0]; exact u64_in _ (by omega) (by omega)
  have f14 : IntKind.u64.wrap ((u : Int) - (p0 : Int)) = (r0 : Int) := by rw [show (u : Int) - (p0 : Int) = (r0 : Int) by omega]; exact u64_in _ (by omega) (by omega)
  clear D ha hb hn hm hX hq0 hr0 hp0 hq0e
  go_enter Try.func15, Try.ntmps15
  go_wp2_with (first
    | (go_at_call 21; ((with_reducible refine (LZ.out _).mono ?_); rintro e w1 ⟨rfl, rfl⟩))
    | fail)
  clear f0 f1 f2 f3 f4 f5 f6 f7 f8 f9 f10 f11 f12 f13 f14 c0 c1 c2 c3 c4 c5
  go_loop [15, 16] (fun v1 v2 => ∃ q r : Nat, v1 = .int .u64 q ∧ v2 = .int .u64 r ∧ Kn 4294967296 Y a u n q r ∧ r < 4294967296) (fun v1 _ => (intOf v1).toNat)
  case atStart => exact ⟨_, _, rfl, rfl, HK0.out, hr0l⟩
  case round =>
    obtain ⟨q1, r1, rfl, rfl, hkn, hr⟩ := hrel
    have HK1 := Lib.hid hkn
    have hql := hkn.le
    have hqb := hkn.small HD1.out
    clear hkn
    by_cases hq : 4294967296 ≤ q1
    · have hqI : (4294967296 : Int) ≤ (q1 : Int) := by omega
      clear hqb
      have st := HK1.out.step HD1.out (.inl hq)
      obtain ⟨p1, hp⟩ : ∃ p, p = q1 - 1 := ⟨_, rfl⟩
      obtain ⟨t1, ht⟩ : ∃ t, t = r1 + a := ⟨_, rfl⟩
      rw [← hp, ← ht] at st
      have s1 : IntKind.u64.wrap ((q1 : Int) - 1) = (p1 : Int) := by rw [show (q1 : Int) - 1 = (p1 : Int) by omega]; exact u64_in _ (by omega) (by omega)
      have s2 : IntKind.u64.wrap ((r1 : Int) + (a : Int)) = (t1 : Int) := by rw [show (r1 : Int) + (a : Int) = (t1 : Int) by omega]; exact u64_in _ (by omega) (by omega)
      have HST := Lib.hid st
      have HP : Hid (p1 < q1) := Lib.hid (by omega)
      have hpl : p1 ≤ 4294967296 := st.2.1
      clear st hp ht
      by_cases hf : 4294967296 ≤ t1
      · have hfI : (4294967296 : Int) ≤ (t1 : Int) := by omega
        have HZ1 : Hid (p1 = (u * 4294967296 + n) / Y) := Lib.hid (HST.out.2.2.far HD1.out hpl hf)
        clear HK1 HST
        have hzl : p1 < 4294967296 := by rw [HZ1.out]; exact HD1.out.top
        obtain ⟨u2, hu2⟩ : ∃ u2, u2 = (u * 4294967296 + n) % Y := ⟨_, rfl⟩
        have hu2l : u2 < Y := by rw [hu2]; exact Nat.mod_lt _ (by omega)
        have hdm := Nat.div_add_mod (u * 4294967296 + n) Y
        rw [← HZ1.out, ← hu2] at hdm
        obtain ⟨v3, hv3⟩ : ∃ v, v = p1 * Y := ⟨_, rfl⟩
        rw [Nat.mul_comm, ← hv3] at hdm
        obtain ⟨v1, hv1⟩ : ∃ v, v = u * 4294967296 % 18446744073709551616 := ⟨_, rfl⟩
        obtain ⟨v2, hv2⟩ : ∃ v, v = (v1 + n) % 18446744073709551616 := ⟨_, rfl⟩
        obtain ⟨v4, hv4⟩ : ∃ v, v = v3 % 18446744073709551616 := ⟨_, rfl⟩
        have g1 : IntKind.u64.wrap ((u : Int) * 4294967296) = (v1 : Int) := by rw [IntKind.wrap_u64]; omega
        have g2 : IntKind.u64.wrap ((v1 : Int) + (n : Int)) = (v2 : Int) := by rw [IntKind.wrap_u64]; omega
        have g3 : IntKind.u64.wrap ((p1 : Int) * (Y : Int)) = (v4 : Int) := by rw [Mul64.mulN, ← hv3, Mul64.wrapM, ← hv4]
        have g4 : IntKind.u64.wrap ((v2 : Int) - (v4 : Int)) = (u2 : Int) := by rw [IntKind.wrap_u64]; omega
        have HU2 : Hid ((u * 4294967296 + n) % Y = u2 ∧ u2 < Y) := Lib.hid ⟨hu2.symm, hu2l⟩
        have HDD := Lib.hid (HD2.out u2 hu2l)
        clear hu2 hv3 hv1 hv2 hv4 hdm
        obtain ⟨q0, hq0⟩ : ∃ q, q = u2 / a := ⟨_, rfl⟩
        obtain ⟨r0, hr0⟩ : ∃ r, r = u2 % a := ⟨_, rfl⟩
        have HK0 : Hid (Kn 4294967296 Y a u2 m q0 r0) := Lib.hid (by rw [hq0, hr0]; exact Kn.start HDD.out)
        have hr0l : r0 < 4294967296 := by rw [hr0]; exact Nat.lt_trans (Nat.mod_lt _ (by omega)) a1l
        have hq0l := HK0.out.le
        have hq0e := HK0.out.e
        obtain ⟨p0, hp0⟩ : ∃ p, p = q0 * a := ⟨_, rfl⟩
        rw [← hp0] at hq0e
        have f10 : (u2 : Int).tdiv (a : Int) = (q0 : Int) := by rw [Int.tdiv_eq_ediv_of_nonneg (by omega), ← Int.natCast_ediv, ← hq0]
        have f11 : (u2 : Int) / (a : Int) = (q0 : Int) := by rw [← Int.natCast_ediv, ← hq0]
        have f12 : IntKind.u64.wrap (q0 : Int) = (q0 : Int) := u64_in _ (by omega) (by omega)
        have f13 : IntKind.u64.wrap ((q0 : Int) * (a : Int)) = (p0 : Int) := by rw [Mul64.mulN, ← hp0]; exact u64_in _ (by omega) (by omega)
        have f14 : IntKind.u64.wrap ((u2 : Int) - (p0 : Int)) = (r0 : Int) := by rw [show (u2 : Int) - (p0 : Int) = (r0 : Int) by omega]; exact u64_in _ (by omega) (by omega)
        clear hq0 hr0 hp0 hq0e
        go_wp2
        clear g1 g2 g3 g4 f10 f11 f12 f13 f14
        go_loop [18, 16] (fun v1 v2 => ∃ q r : Nat, v1 = .int .u64 q ∧ v2 = .int .u64 r ∧ Kn 4294967296 Y a u2 m q r ∧ r < 4294967296) (fun v1 _ => (intOf v1).toNat)
        case atStart => exact ⟨_, _, rfl, rfl, HK0.out, hr0l⟩
        case round =>
          obtain ⟨q2, r2, rfl, rfl, hkn, hr⟩ := hrel
          have HK2 := Lib.hid hkn
          have hql := hkn.le
          have hqb := hkn.small HDD.out
          clear hkn
          by_cases hq : 4294967296 ≤ q2
          · have hqI : (4294967296 : Int) ≤ (q2 : Int) := by omega
            clear hqb
            have st := HK2.out.step HDD.out (.inl hq)
            obtain ⟨p2, hp⟩ : ∃ p, p = q2 - 1 := ⟨_, rfl⟩
            obtain ⟨t2, ht⟩ : ∃ t, t = r2 + a := ⟨_, rfl⟩
            rw [← hp, ← ht] at st
            have s1 : IntKind.u64.wrap ((q2 : Int) - 1) = (p2 : Int) := by rw [show (q2 : Int) - 1 = (p2 : Int) by omega]; exact u64_in _ (by omega) (by omega)
            have s2 : IntKind.u64.wrap ((r2 : Int) + (a : Int)) = (t2 : Int) := by rw [show (r2 : Int) + (a : Int) = (t2 : Int) by omega]; exact u64_in _ (by omega) (by omega)
            have HST := Lib.hid st
            have HP : Hid (p2 < q2) := Lib.hid (by omega)
            have hpl : p2 ≤ 4294967296 := st.2.1
            clear st hp ht
            by_cases hf : 4294967296 ≤ t2
            · have hfI : (4294967296 : Int) ≤ (t2 : Int) := by omega
              have HZ2 : Hid (p2 = (u2 * 4294967296 + m) / Y) := Lib.hid (HST.out.2.2.far HDD.out hpl hf)
              clear HK2 HST
              have hxl : p2 < 4294967296 := by rw [HZ2.out]; exact (HD2.out u2 HU2.out.2).top
              have i1 : IntKind.u64.wrap ((p1 : Int) * 4294967296) = (p1 : Int) * 4294967296 := u64_in _ (by omega) (by omega)
              have i2 : IntKind.u64.wrap ((p1 : Int) * 4294967296 + (p2 : Int)) = (p1 : Int) * 4294967296 + (p2 : Int) := u64_in _ (by omega) (by omega)
              clear hxl
              go_wp2
              go_ret2
              exact ⟨⟨_, ret_q (HFIN.out p1 p2 HZ1.out (by rw [HU2.out.1]; exact HZ2.out))⟩, rfl⟩
            · have hfI : ¬ (4294967296 : Int) ≤ (t2 : Int) := by omega
              go_wp2
              go_round
              case rel => exact ⟨p2, t2, rfl, rfl, HST.out.2.2, by omega⟩
              case measure => simp [intOf]; exact HP.out
          · have hqI : ¬ (4294967296 : Int) ≤ (q2 : Int) := by omega
            obtain ⟨x1, hx1⟩ : ∃ x, x = q2 * b := ⟨_, rfl⟩
            obtain ⟨x2, hx2⟩ : ∃ x, x = 4294967296 * r2 := ⟨_, rfl⟩
            obtain ⟨x3, hx3⟩ : ∃ x, x = x2 + m := ⟨_, rfl⟩
            rw [← hx1] at hqb
            have w1 : IntKind.u64.wrap ((q2 : Int) * (b : Int)) = (x1 : Int) := by rw [Mul64.mulN, ← hx1]; exact u64_in _ (by omega) (by omega)
            have w2 : IntKind.u64.wrap (4294967296 * (r2 : Int)) = (x2 : Int) := by rw [show 4294967296 * (r2 : Int) = (x2 : Int) by omega]; exact u64_in _ (by omega) (by omega)
            have w3 : IntKind.u64.wrap ((x2 : Int) + (m : Int)) = (x3 : Int) := by rw [show (x2 : Int) + (m : Int) = (x3 : Int) by omega]; exact u64_in _ (by omega) (by omega)
            have HX : Hid (x1 = q2 * b ∧ x3 = 4294967296 * r2 + m) := Lib.hid ⟨hx1, by omega⟩
            clear hx1 hx2 hx3 hqb
            by_cases hc : x3 < x1
            · have hcI : (x3 : Int) < (x1 : Int) := by omega
              have st := HK2.out.step HDD.out (.inr (by rw [← HX.out.1, ← HX.out.2]; exact hc))
              obtain ⟨p2, hp⟩ : ∃ p, p = q2 - 1 := ⟨_, rfl⟩
              obtain ⟨t2, ht⟩ : ∃ t, t = r2 + a := ⟨_, rfl⟩
              rw [← hp, ← ht] at st
              have s1 : IntKind.u64.wrap ((q2 : Int) - 1) = (p2 : Int) := by rw [show (q2 : Int) - 1 = (p2 : Int) by omega]; exact u64_in _ (by omega) (by omega)
              have s2 : IntKind.u64.wrap ((r2 : Int) + (a : Int)) = (t2 : Int) := by rw [show (r2 : Int) + (a : Int) = (t2 : Int) by omega]; exact u64_in _ (by omega) (by omega)
              have HST := Lib.hid st
              have HP : Hid (p2 < q2) := Lib.hid (by omega)
              have hpl : p2 ≤ 4294967296 := st.2.1
              clear st hp ht
              by_cases hf : 4294967296 ≤ t2
              · have hfI : (4294967296 : Int) ≤ (t2 : Int) := by omega
                have HZ2 : Hid (p2 = (u2 * 4294967296 + m) / Y) := Lib.hid (HST.out.2.2.far HDD.out hpl hf)
                clear HK2 HST
                have hxl : p2 < 4294967296 := by rw [HZ2.out]; exact (HD2.out u2 HU2.out.2).top
                have i1 : IntKind.u64.wrap ((p1 : Int) * 4294967296) = (p1 : Int) * 4294967296 := u64_in _ (by omega) (by omega)
                have i2 : IntKind.u64.wrap ((p1 : Int) * 4294967296 + (p2 : Int)) = (p1 : Int) * 4294967296 + (p2 : Int) := u64_in _ (by omega) (by omega)
                clear hxl
                go_wp2
                go_ret2
                exact ⟨⟨_, ret_q (HFIN.out p1 p2 HZ1.out (by rw [HU2.out.1]; exact HZ2.out))⟩, rfl⟩
              · have hfI : ¬ (4294967296 : Int) ≤ (t2 : Int) := by omega
                go_wp2
                go_round
                case rel => exact ⟨p2, t2, rfl, rfl, HST.out.2.2, by omega⟩
                case measure => simp [intOf]; exact HP.out
            · have hcI : ¬ (x3 : Int) < (x1 : Int) := by omega
              have HZ2 : Hid (q2 = (u2 * 4294967296 + m) / Y) := Lib.hid (HK2.out.fits HDD.out (by rw [← HX.out.1, ← HX.out.2]; omega))
              clear HK2
              have hxl : q2 < 4294967296 := by rw [HZ2.out]; exact (HD2.out u2 HU2.out.2).top
              have i1 : IntKind.u64.wrap ((p1 : Int) * 4294967296) = (p1 : Int) * 4294967296 := u64_in _ (by omega) (by omega)
              have i2 : IntKind.u64.wrap ((p1 : Int) * 4294967296 + (q2 : Int)) = (p1 : Int) * 4294967296 + (q2 : Int) := u64_in _ (by omega) (by omega)
              clear hxl
              go_wp2
              go_ret2
              exact ⟨⟨_, ret_q (HFIN.out p1 q2 HZ1.out (by rw [HU2.out.1]; exact HZ2.out))⟩, rfl⟩
      · have hfI : ¬ (4294967296 : Int) ≤ (t1 : Int) := by omega
        go_wp2
        go_round
        case rel => exact ⟨p1, t1, rfl, rfl, HST.out.2.2, by omega⟩
        case measure => simp [intOf]; exact HP.out
    · have hqI : ¬ (4294967296 : Int) ≤ (q1 : Int) := by omega
      obtain ⟨x1, hx1⟩ : ∃ x, x = q1 * b := ⟨_, rfl⟩
      obtain ⟨x2, hx2⟩ : ∃ x, x = 4294967296 * r1 := ⟨_, rfl⟩
      obtain ⟨x3, hx3⟩ : ∃ x, x = x2 + n := ⟨_, rfl⟩
      rw [← hx1] at hqb
      have w1 : IntKind.u64.wrap ((q1 : Int) * (b : Int)) = (x1 : Int) := by rw [Mul64.mulN, ← hx1]; exact u64_in _ (by omega) (by omega)
      have w2 : IntKind.u64.wrap (4294967296 * (r1 : Int)) = (x2 : Int) := by rw [show 4294967296 * (r1 : Int) = (x2 : Int) by omega]; exact u64_in _ (by omega) (by omega)
      have w3 : IntKind.u64.wrap ((x2 : Int) + (n : Int)) = (x3 : Int) := by rw [show (x2 : Int) + (n : Int) = (x3 : Int) by omega]; exact u64_in _ (by omega) (by omega)
      have HX : Hid (x1 = q1 * b ∧ x3 = 4294967296 * r1 + n) := Lib.hid ⟨hx1, by omega⟩
      clear hx1 hx2 hx3 hqb
      by_cases hc : x3 < x1
      · have hcI : (x3 : Int) < (x1 : Int) := by omega
        have st := HK1.out.step HD1.out (.inr (by rw [← HX.out.1, ← HX.out.2]; exact hc))
        obtain ⟨p1, hp⟩ : ∃ p, p = q1 - 1 := ⟨_, rfl⟩
        obtain ⟨t1, ht⟩ : ∃ t, t = r1 + a := ⟨_, rfl⟩
        rw [← hp, ← ht] at st
        have s1 : IntKind.u64.wrap ((q1 : Int) - 1) = (p1 : Int) := by rw [show (q1 : Int) - 1 = (p1 : Int) by omega]; exact u64_in _ (by omega) (by omega)
        have s2 : IntKind.u64.wrap ((r1 : Int) + (a : Int)) = (t1 : Int) := by rw [show (r1 : Int) + (a : Int) = (t1 : Int) by omega]; exact u64_in _ (by omega) (by omega)
        have HST := Lib.hid st
        have HP : Hid (p1 < q1) := Lib.hid (by omega)
        have hpl : p1 ≤ 4294967296 := st.2.1
        clear st hp ht
        by_cases hf : 4294967296 ≤ t1
        · have hfI : (4294967296 : Int) ≤ (t1 : Int) := by omega
          have HZ1 : Hid (p1 = (u * 4294967296 + n) / Y) := Lib.hid (HST.out.2.2.far HD1.out hpl hf)
          clear HK1 HST
          have hzl : p1 < 4294967296 := by rw [HZ1.out]; exact HD1.out.top
          obtain ⟨u2, hu2⟩ : ∃ u2, u2 = (u * 4294967296 + n) % Y := ⟨_, rfl⟩
          have hu2l : u2 < Y := by rw [hu2]; exact Nat.mod_lt _ (by omega)
          have hdm := Nat.div_add_mod (u * 4294967296 + n) Y
          rw [← HZ1.out, ← hu2] at hdm
          obtain ⟨v3, hv3⟩ : ∃ v, v = p1 * Y := ⟨_, rfl⟩
          rw [Nat.mul_comm, ← hv3] at hdm
          obtain ⟨v1, hv1⟩ : ∃ v, v = u * 4294967296 % 18446744073709551616 := ⟨_, rfl⟩
          obtain ⟨v2, hv2⟩ : ∃ v, v = (v1 + n) % 18446744073709551616 := ⟨_, rfl⟩
          obtain ⟨v4, hv4⟩ : ∃ v, v = v3 % 18446744073709551616 := ⟨_, rfl⟩
          have g1 : IntKind.u64.wrap ((u : Int) * 4294967296) = (v1 : Int) := by rw [IntKind.wrap_u64]; omega
          have g2 : IntKind.u64.wrap ((v1 : Int) + (n : Int)) = (v2 : Int) := by rw [IntKind.wrap_u64]; omega
          have g3 : IntKind.u64.wrap ((p1 : Int) * (Y : Int)) = (v4 : Int) := by rw [Mul64.mulN, ← hv3, Mul64.wrapM, ← hv4]
          have g4 : IntKind.u64.wrap ((v2 : Int) - (v4 : Int)) = (u2 : Int) := by rw [IntKind.wrap_u64]; omega
          have HU2 : Hid ((u * 4294967296 + n) % Y = u2 ∧ u2 < Y) := Lib.hid ⟨hu2.symm, hu2l⟩
          have HDD := Lib.hid (HD2.out u2 hu2l)
          clear hu2 hv3 hv1 hv2 hv4 hdm
          obtain ⟨q0, hq0⟩ : ∃ q, q = u2 / a := ⟨_, rfl⟩
          obtain ⟨r0, hr0⟩ : ∃ r, r = u2 % a := ⟨_, rfl⟩
          have HK0 : Hid (Kn 4294967296 Y a u2 m q0 r0) := Lib.hid (by rw [hq0, hr0]; exact Kn.start HDD.out)
          have hr0l : r0 < 4294967296 := by rw [hr0]; exact Nat.lt_trans (Nat.mod_lt _ (by omega)) a1l
          have hq0l := HK0.out.le
          have hq0e := HK0.out.e
          obtain ⟨p0, hp0⟩ : ∃ p, p = q0 * a := ⟨_, rfl⟩
          rw [← hp0] at hq0e
          have f10 : (u2 : Int).tdiv (a : Int) = (q0 : Int) := by rw [Int.tdiv_eq_ediv_of_nonneg (by omega), ← Int.natCast_ediv, ← hq0]
          have f11 : (u2 : Int) / (a : Int) = (q0 : Int) := by rw [← Int.natCast_ediv, ← hq0]
          have f12 : IntKind.u64.wrap (q0 : Int) = (q0 : Int) := u64_in _ (by omega) (by omega)
          have f13 : IntKind.u64.wrap ((q0 : Int) * (a : Int)) = (p0 : Int) := by rw [Mul64.mulN, ← hp0]; exact u64_in _ (by omega) (by omega)
          have f14 : IntKind.u64.wrap ((u2 : Int) - (p0 : Int)) = (r0 : Int) := by rw [show (u2 : Int) - (p0 : Int) = (r0 : Int) by omega]; exact u64_in _ (by omega) (by omega)
          clear hq0 hr0 hp0 hq0e
          go_wp2
          clear g1 g2 g3 g4 f10 f11 f12 f13 f14
          go_loop [18, 16] (fun v1 v2 => ∃ q r : Nat, v1 = .int .u64 q ∧ v2 = .int .u64 r ∧ Kn 4294967296 Y a u2 m q r ∧ r < 4294967296) (fun v1 _ => (intOf v1).toNat)
          case atStart => exact ⟨_, _, rfl, rfl, HK0.out, hr0l⟩
          case round =>
            obtain ⟨q2, r2, rfl, rfl, hkn, hr⟩ := hrel
            have HK2 := Lib.hid hkn
            have hql := hkn.le
            have hqb := hkn.small HDD.out
            clear hkn
            by_cases hq : 4294967296 ≤ q2
            · have hqI : (4294967296 : Int) ≤ (q2 : Int) := by omega
              clear hqb
              have st := HK2.out.step HDD.out (.inl hq)
              obtain ⟨p2, hp⟩ : ∃ p, p = q2 - 1 := ⟨_, rfl⟩
              obtain ⟨t2, ht⟩ : ∃ t, t = r2 + a := ⟨_, rfl⟩
              rw [← hp, ← ht] at st
              have s1 : IntKind.u64.wrap ((q2 : Int) - 1) = (p2 : Int) := by rw [show (q2 : Int) - 1 = (p2 : Int) by omega]; exact u64_in _ (by omega) (by omega)
              have s2 : IntKind.u64.wrap ((r2 : Int) + (a : Int)) = (t2 : Int) := by rw [show (r2 : Int) + (a : Int) = (t2 : Int) by omega]; exact u64_in _ (by omega) (by omega)
              have HST := Lib.hid st
              have HP : Hid (p2 < q2) := Lib.hid (by omega)
              have hpl : p2 ≤ 4294967296 := st.2.1
              clear st hp ht
              by_cases hf : 4294967296 ≤ t2
              · have hfI : (4294967296 : Int) ≤ (t2 : Int) := by omega
                have HZ2 : Hid (p2 = (u2 * 4294967296 + m) / Y) := Lib.hid (HST.out.2.2.far HDD.out hpl hf)
                clear HK2 HST
                have hxl : p2 < 4294967296 := by rw [HZ2.out]; exact (HD2.out u2 HU2.out.2).top
                have i1 : IntKind.u64.wrap ((p1 : Int) * 4294967296) = (p1 : Int) * 4294967296 := u64_in _ (by omega) (by omega)
                have i2 : IntKind.u64.wrap ((p1 : Int) * 4294967296 + (p2 : Int)) = (p1 : Int) * 4294967296 + (p2 : Int) := u64_in _ (by omega) (by omega)
                clear hxl
                go_wp2
                go_ret2
                exact ⟨⟨_, ret_q (HFIN.out p1 p2 HZ1.out (by rw [HU2.out.1]; exact HZ2.out))⟩, rfl⟩
              · have hfI : ¬ (4294967296 : Int) ≤ (t2 : Int) := by omega
                go_wp2
                go_round
                case rel => exact ⟨p2, t2, rfl, rfl, HST.out.2.2, by omega⟩
                case measure => simp [intOf]; exact HP.out
            · have hqI : ¬ (4294967296 : Int) ≤ (q2 : Int) := by omega
              obtain ⟨x1, hx1⟩ : ∃ x, x = q2 * b := ⟨_, rfl⟩
              obtain ⟨x2, hx2⟩ : ∃ x, x = 4294967296 * r2 := ⟨_, rfl⟩
              obtain ⟨x3, hx3⟩ : ∃ x, x = x2 + m := ⟨_, rfl⟩
              rw [← hx1] at hqb
              have w1 : IntKind.u64.wrap ((q2 : Int) * (b : Int)) = (x1 : Int) := by rw [Mul64.mulN, ← hx1]; exact u64_in _ (by omega) (by omega)
              have w2 : IntKind.u64.wrap (4294967296 * (r2 : Int)) = (x2 : Int) := by rw [show 4294967296 * (r2 : Int) = (x2 : Int) by omega]; exact u64_in _ (by omega) (by omega)
              have w3 : IntKind.u64.wrap ((x2 : Int) + (m : Int)) = (x3 : Int) := by rw [show (x2 : Int) + (m : Int) = (x3 : Int) by omega]; exact u64_in _ (by omega) (by omega)
              have HX : Hid (x1 = q2 * b ∧ x3 = 4294967296 * r2 + m) := Lib.hid ⟨hx1, by omega⟩
              clear hx1 hx2 hx3 hqb
              by_cases hc : x3 < x1
              · have hcI : (x3 : Int) < (x1 : Int) := by omega
                have st := HK2.out.step HDD.out (.inr (by rw [← HX.out.1, ← HX.out.2]; exact hc))
                obtain ⟨p2, hp⟩ : ∃ p, p = q2 - 1 := ⟨_, rfl⟩
                obtain ⟨t2, ht⟩ : ∃ t, t = r2 + a := ⟨_, rfl⟩
                rw [← hp, ← ht] at st
                have s1 : IntKind.u64.wrap ((q2 : Int) - 1) = (p2 : Int) := by rw [show (q2 : Int) - 1 = (p2 : Int) by omega]; exact u64_in _ (by omega) (by omega)
                have s2 : IntKind.u64.wrap ((r2 : Int) + (a : Int)) = (t2 : Int) := by rw [show (r2 : Int) + (a : Int) = (t2 : Int) by omega]; exact u64_in _ (by omega) (by omega)
                have HST := Lib.hid st
                have HP : Hid (p2 < q2) := Lib.hid (by omega)
                have hpl : p2 ≤ 4294967296 := st.2.1
                clear st hp ht
                by_cases hf : 4294967296 ≤ t2
                · have hfI : (4294967296 : Int) ≤ (t2 : Int) := by omega
                  have HZ2 : Hid (p2 = (u2 * 4294967296 + m) / Y) := Lib.hid (HST.out.2.2.far HDD.out hpl hf)
                  clear HK2 HST
                  have hxl : p2 < 4294967296 := by rw [HZ2.out]; exact (HD2.out u2 HU2.out.2).top
                  have i1 : IntKind.u64.wrap ((p1 : Int) * 4294967296) = (p1 : Int) * 4294967296 := u64_in _ (by omega) (by omega)
                  have i2 : IntKind.u64.wrap ((p1 : Int) * 4294967296 + (p2 : Int)) = (p1 : Int) * 4294967296 + (p2 : Int) := u64_in _ (by omega) (by omega)
                  clear hxl
                  go_wp2
                  go_ret2
                  exact ⟨⟨_, ret_q (HFIN.out p1 p2 HZ1.out (by rw [HU2.out.1]; exact HZ2.out))⟩, rfl⟩
                · have hfI : ¬ (4294967296 : Int) ≤ (t2 : Int) := by omega
                  go_wp2
                  go_round
                  case rel => exact ⟨p2, t2, rfl, rfl, HST.out.2.2, by omega⟩
                  case measure => simp [intOf]; exact HP.out
              · have hcI : ¬ (x3 : Int) < (x1 : Int) := by omega
                have HZ2 : Hid (q2 = (u2 * 4294967296 + m) / Y) := Lib.hid (HK2.out.fits HDD.out (by rw [← HX.out.1, ← HX.out.2]; omega))
                clear HK2
                have hxl : q2 < 4294967296 := by rw [HZ2.out]; exact (HD2.out u2 HU2.out.2).top
                have i1 : IntKind.u64.wrap ((p1 : Int) * 4294967296) = (p1 : Int) * 4294967296 := u64_in _ (by omega) (by omega)
                have i2 : IntKind.u64.wrap ((p1 : Int) * 4294967296 + (q2 : Int)) = (p1 : Int) * 4294967296 + (q2 : Int) := u64_in _ (by omega) (by omega)
                clear hxl
                go_wp2
                go_ret2
                exact ⟨⟨_, ret_q (HFIN.out p1 q2 HZ1.out (by rw [HU2.out.1]; exact HZ2.out))⟩, rfl⟩
        · have hfI : ¬ (4294967296 : Int) ≤ (t1 : Int) := by omega
          go_wp2
          go_round
          case rel => exact ⟨p1, t1, rfl, rfl, HST.out.2.2, by omega⟩
          case measure => simp [intOf]; exact HP.out
      · have hcI : ¬ (x3 : Int) < (x1 : Int) := by omega
        have HZ1 : Hid (q1 = (u * 4294967296 + n) / Y) := Lib.hid (HK1.out.fits HD1.out (by rw [← HX.out.1, ← HX.out.2]; omega))
        clear HK1
        have hzl : q1 < 4294967296 := by rw [HZ1.out]; exact HD1.out.top
        obtain ⟨u2, hu2⟩ : ∃ u2, u2 = (u * 4294967296 + n) % Y := ⟨_, rfl⟩
        have hu2l : u2 < Y := by rw [hu2]; exact Nat.mod_lt _ (by omega)
        have hdm := Nat.div_add_mod (u * 4294967296 + n) Y
        rw [← HZ1.out, ← hu2] at hdm
        obtain ⟨v3, hv3⟩ : ∃ v, v = q1 * Y := ⟨_, rfl⟩
        rw [Nat.mul_comm, ← hv3] at hdm
        obtain ⟨v1, hv1⟩ : ∃ v, v = u * 4294967296 % 18446744073709551616 := ⟨_, rfl⟩
        obtain ⟨v2, hv2⟩ : ∃ v, v = (v1 + n) % 18446744073709551616 := ⟨_, rfl⟩
        obtain ⟨v4, hv4⟩ : ∃ v, v = v3 % 18446744073709551616 := ⟨_, rfl⟩
        have g1 : IntKind.u64.wrap ((u : Int) * 4294967296) = (v1 : Int) := by rw [IntKind.wrap_u64]; omega
        have g2 : IntKind.u64.wrap ((v1 : Int) + (n : Int)) = (v2 : Int) := by rw [IntKind.wrap_u64]; omega
        have g3 : IntKind.u64.wrap ((q1 : Int) * (Y : Int)) = (v4 : Int) := by rw [Mul64.mulN, ← hv3, Mul64.wrapM, ← hv4]
        have g4 : IntKind.u64.wrap ((v2 : Int) - (v4 : Int)) = (u2 : Int) := by rw [IntKind.wrap_u64]; omega
        have HU2 : Hid ((u * 4294967296 + n) % Y = u2 ∧ u2 < Y) := Lib.hid ⟨hu2.symm, hu2l⟩
        have HDD := Lib.hid (HD2.out u2 hu2l)
        clear hu2 hv3 hv1 hv2 hv4 hdm
        obtain ⟨q0, hq0⟩ : ∃ q, q = u2 / a := ⟨_, rfl⟩
        obtain ⟨r0, hr0⟩ : ∃ r, r = u2 % a := ⟨_, rfl⟩
        have HK0 : Hid (Kn 4294967296 Y a u2 m q0 r0) := Lib.hid (by rw [hq0, hr0]; exact Kn.start HDD.out)
        have hr0l : r0 < 4294967296 := by rw [hr0]; exact Nat.lt_trans (Nat.mod_lt _ (by omega)) a1l
        have hq0l := HK0.out.le
        have hq0e := HK0.out.e
        obtain ⟨p0, hp0⟩ : ∃ p, p = q0 * a := ⟨_, rfl⟩
        rw [← hp0] at hq0e
        have f10 : (u2 : Int).tdiv (a : Int) = (q0 : Int) := by rw [Int.tdiv_eq_ediv_of_nonneg (by omega), ← Int.natCast_ediv, ← hq0]
        have f11 : (u2 : Int) / (a : Int) = (q0 : Int) := by rw [← Int.natCast_ediv, ← hq0]
        have f12 : IntKind.u64.wrap (q0 : Int) = (q0 : Int) := u64_in _ (by omega) (by omega)
        have f13 : IntKind.u64.wrap ((q0 : Int) * (a : Int)) = (p0 : Int) := by rw [Mul64.mulN, ← hp0]; exact u64_in _ (by omega) (by omega)
        have f14 : IntKind.u64.wrap ((u2 : Int) - (p0 : Int)) = (r0 : Int) := by rw [show (u2 : Int) - (p0 : Int) = (r0 : Int) by omega]; exact u64_in _ (by omega) (by omega)
        clear hq0 hr0 hp0 hq0e
        go_wp2
        clear g1 g2 g3 g4 f10 f11 f12 f13 f14
        go_loop [18, 16] (fun v1 v2 => ∃ q r : Nat, v1 = .int .u64 q ∧ v2 = .int .u64 r ∧ Kn 4294967296 Y a u2 m q r ∧ r < 4294967296) (fun v1 _ => (intOf v1).toNat)
        case atStart => exact ⟨_, _, rfl, rfl, HK0.out, hr0l⟩
        case round =>
          obtain ⟨q2, r2, rfl, rfl, hkn, hr⟩ := hrel
          have HK2 := Lib.hid hkn
          have hql := hkn.le
          have hqb := hkn.small HDD.out
          clear hkn
          by_cases hq : 4294967296 ≤ q2
          · have hqI : (4294967296 : Int) ≤ (q2 : Int) := by omega
            clear hqb
            have st := HK2.out.step HDD.out (.inl hq)
            obtain ⟨p2, hp⟩ : ∃ p, p = q2 - 1 := ⟨_, rfl⟩
            obtain ⟨t2, ht⟩ : ∃ t, t = r2 + a := ⟨_, rfl⟩
            rw [← hp, ← ht] at st
            have s1 : IntKind.u64.wrap ((q2 : Int) - 1) = (p2 : Int) := by rw [show (q2 : Int) - 1 = (p2 : Int) by omega]; exact u64_in _ (by omega) (by omega)
            have s2 : IntKind.u64.wrap ((r2 : Int) + (a : Int)) = (t2 : Int) := by rw [show (r2 : Int) + (a : Int) = (t2 : Int) by omega]; exact u64_in _ (by omega) (by omega)
            have HST := Lib.hid st
            have HP : Hid (p2 < q2) := Lib.hid (by omega)
            have hpl : p2 ≤ 4294967296 := st.2.1
            clear st hp ht
            by_cases hf : 4294967296 ≤ t2
            · have hfI : (4294967296 : Int) ≤ (t2 : Int) := by omega
              have HZ2 : Hid (p2 = (u2 * 4294967296 + m) / Y) := Lib.hid (HST.out.2.2.far HDD.out hpl hf)
              clear HK2 HST
              have hxl : p2 < 4294967296 := by rw [HZ2.out]; exact (HD2.out u2 HU2.out.2).top
              have i1 : IntKind.u64.wrap ((q1 : Int) * 4294967296) = (q1 : Int) * 4294967296 := u64_in _ (by omega) (by omega)
              have i2 : IntKind.u64.wrap ((q1 : Int) * 4294967296 + (p2 : Int)) = (q1 : Int) * 4294967296 + (p2 : Int) := u64_in _ (by omega) (by omega)
              clear hxl
              go_wp2
              go_ret2
              exact ⟨⟨_, ret_q (HFIN.out q1 p2 HZ1.out (by rw [HU2.out.1]; exact HZ2.out))⟩, rfl⟩
            · have hfI : ¬ (4294967296 : Int) ≤ (t2 : Int) := by omega
              go_wp2
              go_round
              case rel => exact ⟨p2, t2, rfl, rfl, HST.out.2.2, by omega⟩
              case measure => simp [intOf]; exact HP.out
          · have hqI : ¬ (4294967296 : Int) ≤ (q2 : Int) := by omega
            obtain ⟨x1, hx1⟩ : ∃ x, x = q2 * b := ⟨_, rfl⟩
            obtain ⟨x2, hx2⟩ : ∃ x, x = 4294967296 * r2 := ⟨_, rfl⟩
            obtain ⟨x3, hx3⟩ : ∃ x, x = x2 + m := ⟨_, rfl⟩
            rw [← hx1] at hqb
            have w1 : IntKind.u64.wrap ((q2 : Int) * (b : Int)) = (x1 : Int) := by rw [Mul64.mulN, ← hx1]; exact u64_in _ (by omega) (by omega)
            have w2 : IntKind.u64.wrap (4294967296 * (r2 : Int)) = (x2 : Int) := by rw [show 4294967296 * (r2 : Int) = (x2 : Int) by omega]; exact u64_in _ (by omega) (by omega)
            have w3 : IntKind.u64.wrap ((x2 : Int) + (m : Int)) = (x3 : Int) := by rw [show (x2 : Int) + (m : Int) = (x3 : Int) by omega]; exact u64_in _ (by omega) (by omega)
            have HX : Hid (x1 = q2 * b ∧ x3 = 4294967296 * r2 + m) := Lib.hid ⟨hx1, by omega⟩
            clear hx1 hx2 hx3 hqb
            by_cases hc : x3 < x1
            · have hcI : (x3 : Int) < (x1 : Int) := by omega
              have st := HK2.out.step HDD.out (.inr (by rw [← HX.out.1, ← HX.out.2]; exact hc))
              obtain ⟨p2, hp⟩ : ∃ p, p = q2 - 1 := ⟨_, rfl⟩
              obtain ⟨t2, ht⟩ : ∃ t, t = r2 + a := ⟨_, rfl⟩
              rw [← hp, ← ht] at st
              have s1 : IntKind.u64.wrap ((q2 : Int) - 1) = (p2 : Int) := by rw [show (q2 : Int) - 1 = (p2 : Int) by omega]; exact u64_in _ (by omega) (by omega)
              have s2 : IntKind.u64.wrap ((r2 : Int) + (a : Int)) = (t2 : Int) := by rw [show (r2 : Int) + (a : Int) = (t2 : Int) by omega]; exact u64_in _ (by omega) (by omega)
              have HST := Lib.hid st
              have HP : Hid (p2 < q2) := Lib.hid (by omega)
              have hpl : p2 ≤ 4294967296 := st.2.1
              clear st hp ht
              by_cases hf : 4294967296 ≤ t2
              · have hfI : (4294967296 : Int) ≤ (t2 : Int) := by omega
                have HZ2 : Hid (p2 = (u2 * 4294967296 + m) / Y) := Lib.hid (HST.out.2.2.far HDD.out hpl hf)
                clear HK2 HST
                have hxl : p2 < 4294967296 := by rw [HZ2.out]; exact (HD2.out u2 HU2.out.2).top
                have i1 : IntKind.u64.wrap ((q1 : Int) * 4294967296) = (q1 : Int) * 4294967296 := u64_in _ (by omega) (by omega)
                have i2 : IntKind.u64.wrap ((q1 : Int) * 4294967296 + (p2 : Int)) = (q1 : Int) * 4294967296 + (p2 : Int) := u64_in _ (by omega) (by omega)
                clear hxl
                go_wp2
                go_ret2
                exact ⟨⟨_, ret_q (HFIN.out q1 p2 HZ1.out (by rw [HU2.out.1]; exact HZ2.out))⟩, rfl⟩
              · have hfI : ¬ (4294967296 : Int) ≤ (t2 : Int) := by omega
                go_wp2
                go_round
                case rel => exact ⟨p2, t2, rfl, rfl, HST.out.2.2, by omega⟩
                case measure => simp [intOf]; exact HP.out
            · have hcI : ¬ (x3 : Int) < (x1 : Int) := by omega
              have HZ2 : Hid (q2 = (u2 * 4294967296 + m) / Y) := Lib.hid (HK2.out.fits HDD.out (by rw [← HX.out.1, ← HX.out.2]; omega))
              clear HK2
              have hxl : q2 < 4294967296 := by rw [HZ2.out]; exact (HD2.out u2 HU2.out.2).top
              have i1 : IntKind.u64.wrap ((q1 : Int) * 4294967296) = (q1 : Int) * 4294967296 := u64_in _ (by omega) (by omega)
              have i2 : IntKind.u64.wrap ((q1 : Int) * 4294967296 + (q2 : Int)) = (q1 : Int) * 4294967296 + (q2 : Int) := u64_in _ (by omega) (by omega)
              clear hxl
              go_wp2
              go_ret2
              exact ⟨⟨_, ret_q (HFIN.out q1 q2 HZ1.out (by rw [HU2.out.1]; exact HZ2.out))⟩, rfl⟩
end Go.Proofs.Ytniffjjkjgfacaa
