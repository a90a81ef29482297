/- Plain mathematics: a digit of a long division, guessed and made right. -/
import Derived.Test.YtniffjjkjgfacaaS1
namespace Go.Proofs.Ytniffjjkjgfacaa
set_option linter.unusedVariables false
/-- What is known of the divisor Y = a * B + b, of u below it and of the next digit n. -/
structure Kd (B Y a b u n : Nat) : Prop where
  y : a * B + b = Y
  b : b < B
  a2 : B ≤ 2 * a
  a1 : a < B
  u : u < Y
  n : n < B
  bp : 0 < B
/-- A guess q, with its rest r. -/
structure Kn (B Y a u n q r : Nat) : Prop where
  e : q * a + r = u
  ge : (u * B + n) / Y ≤ q
  le : q ≤ B + 1
variable {B Y a b u n q r : Nat}
theorem Kd.yp (d : Kd B Y a b u n) : 0 < Y := by have := d.u; omega
theorem Kd.ap (d : Kd B Y a b u n) : 0 < a := by have := d.a2; have := d.bp; omega
theorem Kd.top (d : Kd B Y a b u n) : (u * B + n) / Y < B := by
  rw [Nat.div_lt_iff_lt_mul d.yp]
  have h1 : (u + 1) * B ≤ Y * B := Nat.mul_le_mul_right _ d.u
  rw [Nat.succ_mul] at h1
  have := d.n
  rw [Nat.mul_comm B Y]
  omega
theorem Kn.start (d : Kd B Y a b u n) : Kn B Y a u n (u / a) (u % a) := by
  refine ⟨by rw [Nat.mul_comm]; exact Nat.div_add_mod u a, ?_, ?_⟩
  · have h1 : a * B ≤ Y := by have := d.y; omega
    have h2 : 0 < a * B := Nat.mul_pos d.ap d.bp
    calc (u * B + n) / Y ≤ (u * B + n) / (a * B) := Nat.div_le_div_left h1 h2
      _ = (u * B + n) / B / a := by rw [Nat.mul_comm a B, Nat.div_div_eq_div_mul]
      _ = u / a := by
        congr 1
        rw [Nat.mul_comm, Nat.mul_add_div d.bp, Nat.div_eq_of_lt d.n, Nat.add_zero]
  · have h : u / a < B + 2 := by
      rw [Nat.div_lt_iff_lt_mul d.ap]
      have h1 := d.u
      have h2 := d.y
      have h3 := d.b
      have h4 := d.a2
      have h5 : (B + 2) * a = a * B + 2 * a := by rw [Nat.add_mul, Nat.mul_comm B a]
      omega
    omega
theorem Kn.big (d : Kd B Y a b u n) (k : Kn B Y a u n q r) (h : B ≤ q ∨ B * r + n < q * b) : (u * B + n) / Y < q := by
  rcases h with h | h
  · exact Nat.lt_of_lt_of_le d.top h
  · rw [Nat.div_lt_iff_lt_mul d.yp, ← d.y, ← k.e]
    have e1 : (q * a + r) * B + n = q * (a * B) + (B * r + n) := by rw [Nat.add_mul, Nat.mul_assoc, Nat.mul_comm r B]; omega
    have e2 : q * (a * B + b) = q * (a * B) + q * b := Nat.mul_add _ _ _
    rw [e1, e2]
    omega
theorem Kn.step (d : Kd B Y a b u n) (k : Kn B Y a u n q r) (h : B ≤ q ∨ B * r + n < q * b) : 0 < q ∧ q - 1 ≤ B ∧ Kn B Y a u n (q - 1) (r + a) := by
  have hb := k.big d h
  have hl := k.le
  have hq0 : 0 < q := Nat.lt_of_le_of_lt (Nat.zero_le _) hb
  obtain ⟨p, rfl⟩ : ∃ p, q = p + 1 := ⟨q - 1, by omega⟩
  refine ⟨by omega, by omega, ?_, Nat.le_of_lt_succ hb, by omega⟩
  have e := k.e
  rw [Nat.succ_mul] at e
  simp only [Nat.add_sub_cancel]
  omega
theorem Kn.fits (d : Kd B Y a b u n) (k : Kn B Y a u n q r) (h : q * b ≤ B * r + n) : q = (u * B + n) / Y := by
  apply Nat.le_antisymm _ k.ge
  rw [Nat.le_div_iff_mul_le d.yp, ← d.y, ← k.e]
  have e1 : (q * a + r) * B + n = q * (a * B) + (B * r + n) := by rw [Nat.add_mul, Nat.mul_assoc, Nat.mul_comm r B]; omega
  have e2 : q * (a * B + b) = q * (a * B) + q * b := Nat.mul_add _ _ _
  rw [e1, e2]
  omega
theorem Kn.far (d : Kd B Y a b u n) (k : Kn B Y a u n q r) (hq : q ≤ B) (h : B ≤ r) : q = (u * B + n) / Y := by
  refine k.fits d ?_
  have h1 : q * b ≤ B * B := Nat.mul_le_mul hq (Nat.le_of_lt d.b)
  have h2 : B * B ≤ B * r := Nat.mul_le_mul_left _ h
  omega
theorem Kn.small (d : Kd B Y a b u n) (k : Kn B Y a u n q r) : q * b < B * B := by
  have h1 : q * b ≤ (B + 1) * b := Nat.mul_le_mul_right _ k.le
  have h2 : (B + 1) * b ≤ (B + 1) * (B - 1) := Nat.mul_le_mul_left _ (by have := d.b; omega)
  have h3 : (B + 1) * (B - 1) < B * B := by
    obtain ⟨c, hc⟩ : ∃ c, B = c + 1 := ⟨B - 1, by have := d.bp; omega⟩
    subst hc
    simp only [Nat.add_sub_cancel, Nat.add_mul, Nat.mul_add]
    omega
  omega
/-- Both digits together. -/
theorem two_digits {B Y u n m q p : Nat} (hY : 0 < Y) (hq : q = (u * B + n) / Y) (hp : p = ((u * B + n) % Y * B + m) / Y) : q * B + p = ((u * B + n) * B + m) / Y := by
  have e := Nat.div_add_mod (u * B + n) Y
  rw [← hq] at e
  obtain ⟨x, hx⟩ : ∃ x, x = u * B + n := ⟨_, rfl⟩
  rw [← hx] at hp e ⊢
  have e2 : x * B + m = Y * (q * B) + (x % Y * B + m) := by
    have e3 : x * B = (Y * q + x % Y) * B := by rw [e]
    rw [Nat.add_mul, Nat.mul_assoc] at e3
    omega
  rw [e2, Nat.mul_add_div hY, ← hp]
end Go.Proofs.Ytniffjjkjgfacaa
