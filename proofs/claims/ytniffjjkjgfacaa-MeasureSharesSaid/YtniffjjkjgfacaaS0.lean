/- The library's multiplication, as it lies in this program; division where the high word is nought. -/
import Derived.Shelf.Bits.Mul64
import Derived.Test.YtniffjjkjgfacaaH3
namespace Go.Proofs.Ytniffjjkjgfacaa
set_option linter.unusedSimpArgs false
set_option linter.unusedVariables false
open Go.Shelf
def LmulA_ren : Go.Shelf.Ren := ⟨fun | 264 => 14 | n => n, fun | 46 => 58 | 53 => 34 | n => n, fun n => n⟩
theorem LmulA : Go.Proofs.Lays.n264 Try.prog LmulA_ren := {
  mixed := by kernel_rfl
  f264 := Try.func14.trans (congrArg some (by kernel_rfl))
  t46 := Try.underlying58
  a46 := Try.isAgg58
  z46 := Try.sizeOf58
  v46 := Try.zeroValue58
  t53 := Try.underlying34
  a53 := Try.isAgg34
  z53 := Try.sizeOf34
  v53 := Try.zeroValue34 }
theorem mul_at (x y : Nat) (hx : x < 18446744073709551616) (hy : y < 18446744073709551616) (w : World) :
    Calls Try.prog 14 #[.int .u64 x, .int .u64 y] w fun e w' => e = .returned (.tuple #[.int .u64 ((x * y / 18446744073709551616 : Nat) : Int), .int .u64 ((x * y % 18446744073709551616 : Nat) : Int)]) ∧ w' = w :=
  Any.bits_Mul64 LmulA x y hx hy w
end Go.Proofs.Ytniffjjkjgfacaa
