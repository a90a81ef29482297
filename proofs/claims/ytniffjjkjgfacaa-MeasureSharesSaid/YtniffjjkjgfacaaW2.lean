/- Leading noughts, as they lie in this program. -/
import Derived.Shelf.Small.Bits
import Derived.Lib.ItoaNum
import Derived.Test.YtniffjjkjgfacaaW1
namespace Go.Proofs.Ytniffjjkjgfacaa
set_option linter.unusedSimpArgs false
set_option linter.unusedVariables false
open Go.Shelf
def LlzA_ren : Go.Shelf.Ren := ⟨fun | 129 => 33 | 134 => 21 | n => n, fun | 3 => 3 | 4 => 4 | 5 => 5 | 9 => 9 | 46 => 58 | 53 => 34 | n => n, fun n => n⟩
theorem LlzA : Go.Proofs.Lays.n134 Try.prog LlzA_ren := {
  mixed := by kernel_rfl
  f129 := Try.func33.trans (congrArg some (by kernel_rfl))
  f134 := Try.func21.trans (congrArg some (by kernel_rfl))
  t3 := Try.underlying3
  a3 := Try.isAgg3
  z3 := Try.sizeOf3
  v3 := Try.zeroValue3
  t4 := Try.underlying4
  a4 := Try.isAgg4
  z4 := Try.sizeOf4
  v4 := Try.zeroValue4
  t5 := Try.underlying5
  a5 := Try.isAgg5
  z5 := Try.sizeOf5
  v5 := Try.zeroValue5
  t9 := Try.underlying9
  a9 := Try.isAgg9
  z9 := Try.sizeOf9
  v9 := Try.zeroValue9
  t46 := Try.underlying58
  a46 := Try.isAgg58
  z46 := Try.sizeOf58
  v46 := Try.zeroValue58
  t53 := Try.underlying34
  a53 := Try.isAgg34
  z53 := Try.sizeOf34
  v53 := Try.zeroValue34 }
theorem lz_at (y : Nat) (h0 : 0 < y) (h1 : y < 9223372036854775808) : ∃ s : Nat, 1 ≤ s ∧ s ≤ 63 ∧ 9223372036854775808 ≤ y * 2 ^ s ∧ y * 2 ^ s < 18446744073709551616 ∧
    ∀ w, Calls Try.prog 21 #[.int .u64 y] w fun e w' => e = .returned (.int .i64 s) ∧ w' = w := by
  obtain ⟨b1, b2, b3⟩ := Lib.bitLenAux_bounds 64 y (Nat.lt_trans h1 (by decide)) (by omega)
  have b4 : Lib.bitLen y ≤ 63 := Lib.bitLen_le y 63 (by omega) h1
  obtain ⟨l, hl⟩ : ∃ l, l = Lib.bitLen y := ⟨_, rfl⟩
  rw [show Lib.bitLenAux 64 y = l from hl.symm] at b1 b2 b3
  rw [← hl] at b4
  refine ⟨64 - l, by omega, by omega, ?_, ?_, fun w => ?_⟩
  · have e : 2 ^ (l - 1) * 2 ^ (64 - l) = 9223372036854775808 := by rw [← Nat.pow_add, show l - 1 + (64 - l) = 63 by omega]
    rw [← e]
    exact Nat.mul_le_mul_right _ b2
  · have e : 2 ^ l * 2 ^ (64 - l) = 18446744073709551616 := by rw [← Nat.pow_add, show l + (64 - l) = 64 by omega]
    rw [← e]
    exact Nat.mul_lt_mul_of_pos_right b3 (Nat.pow_pos (by omega))
  · have h := Any.bits_LeadingZeros64 LlzA (y : Int) w (by omega) (by omega)
    have e : 64 - (Lib.bitLen (y : Int).toNat : Int) = ((64 - l : Nat) : Int) := by rw [Int.toNat_natCast, ← hl]; omega
    rw [e] at h
    exact h
end Go.Proofs.Ytniffjjkjgfacaa
