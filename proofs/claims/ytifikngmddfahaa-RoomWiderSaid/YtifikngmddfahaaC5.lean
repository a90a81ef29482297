/- The law RoomWider: its walk, whatever is given. -/
import Derived.Test.YtifikngmddfahaaC4
namespace Go.Proofs.Ytifikngmddfahaa
open Go.RowKit
set_option linter.unusedVariables false

theorem wider_any (k n a0 a1 a2 a3 a4 a5 a6 a7 a8 x y z : Int) (key too : ByteArray) (B : Option Addr) (len cap : Nat) (l : List M) (w : World) (hl : l.length = len) (hA : MsL w w.heap.size B l)
    (lo0 : -9223372036854775808 ≤ a0) (lo1 : -9223372036854775808 ≤ a1) (lo8 : -9223372036854775808 ≤ a8) (hx : 0 ≤ x ∧ x ≤ 255) (hy : 0 ≤ y ∧ y ≤ 255) (hz : 0 ≤ z ∧ z ≤ 255) :
    Calls Try.prog 5 #[cfg a0 a1 a2 a3 a4 a5 a6 a7 a8, .agg #[.int .u8 k, .string key, .string too, .int .i64 n, .slice B len cap], .int .u8 x, .int .u8 y, .int .u8 z] w fun e w' => e = .returned (.bool true) ∧ Below w.heap.size w w' := by
  by_cases u0 : 256 < a0
  · exact wider_a k n a0 a1 a2 a3 a4 a5 a6 a7 a8 x y z key too B len cap w u0
  by_cases u1 : 4096 < a1
  · exact wider_b k n a0 a1 a2 a3 a4 a5 a6 a7 a8 x y z key too B len cap w u0 u1
  by_cases u8 : 1024 < a8
  · exact wider_c k n a0 a1 a2 a3 a4 a5 a6 a7 a8 x y z key too B len cap w u0 u1 u8
  · exact wider_in k n a0 a1 a2 a3 a4 a5 a6 a7 a8 x y z key too B len cap l w hl hA lo0 lo1 lo8 hx hy hz u0 u1 u8
end Go.Proofs.Ytifikngmddfahaa
