/- The word functions: the number that a text begins with. -/
import Derived.Test.YteiifcmdpoonmaaL0
import Derived.Test.YteiifcmdpoonmaaRows
import Derived.Lib.EndianBits
import Derived.Laws.IdiomStrings
namespace Go.Proofs.Yteiifcmdpoonmaa
set_option linter.unusedSimpArgs false
open Go.RowKit
set_option linter.unusedVariables false

/-- The byte at a place. -/
def bt (s : ByteArray) (k : Nat) : Int := ((s.data.getD k 0).toNat : Int)
theorem bt_lo (s : ByteArray) (k : Nat) : 0 ≤ bt s k := by unfold bt; omega
theorem bt_hi (s : ByteArray) (k : Nat) : bt s k < 256 := by
  have := (s.data.getD k 0).toNat_lt
  unfold bt; omega
theorem bt_get (s : ByteArray) (k : Nat) (h : k < s.size) : ((s[k].toNat : Nat) : Int) = bt s k := by
  have h' : k < s.data.size := h
  unfold bt
  simp only [Array.getD]
  rw [dif_pos h']
  rfl

/-- What a text begins with, from a place on, so many bytes left, and the number so far. -/
def tn (s : ByteArray) : Nat → Nat → Int → Int × ByteArray × Int
  | 0, k, n => (0, ⟨#[]⟩, 3)
  | f + 1, k, n =>
    if s.size ≤ k then (0, ⟨#[]⟩, 5)
    else if bt s k < 128 then
      (if 2147483647 < n + bt s k % 128 * 128 ^ k ∨ (bt s k = 0 ∧ 0 < k) then (0, ⟨#[]⟩, 3) else (n + bt s k % 128 * 128 ^ k, s.extract (k + 1) s.size, 0))
    else tn s f (k + 1) (n + bt s k % 128 * 128 ^ k)
def tnV (x : Int × ByteArray × Int) : Value := .tuple #[.int .i64 x.1, .string x.2.1, .int .i64 x.2.2]

theorem pow5 (k : Nat) (h : k < 5) : (128 : Int) ^ k ≤ 268435456 := by
  rcases (by omega : k = 0 ∨ k = 1 ∨ k = 2 ∨ k = 3 ∨ k = 4) with rfl | rfl | rfl | rfl | rfl <;> decide
theorem and127 (b : Int) (h0 : 0 ≤ b) (h1 : b < 256) : bits BinOp.and IntKind.u8 b 127 = b % 128 := by
  have : ∀ c : Fin 256, bits BinOp.and IntKind.u8 (c.val : Int) 127 = (c.val : Int) % 128 := by decide +kernel
  have h := this ⟨b.toNat, by omega⟩
  simpa [Int.toNat_of_nonneg h0] using h
theorem or_step (n b : Int) (k : Nat) (hk : k < 5) (n0 : 0 ≤ n) (n1 : n < 128 ^ k) (b0 : 0 ≤ b) (b1 : b < 128) : bits BinOp.or IntKind.i64 n (b * 128 ^ k) = n + b * 128 ^ k := by
  rcases (by omega : k = 0 ∨ k = 1 ∨ k = 2 ∨ k = 3 ∨ k = 4) with rfl | rfl | rfl | rfl | rfl
  all_goals simp only [Int.reducePow] at *
  · exact bits_join_low .i64 63 (by decide) (fun n h0 h1 => by simp [IntKind.wrap, IntKind.bits, IntKind.signed]; omega) 0 _ _ (by omega) (by omega) (by omega) (by omega) (by omega) (by omega)
  · exact bits_join_low .i64 63 (by decide) (fun n h0 h1 => by simp [IntKind.wrap, IntKind.bits, IntKind.signed]; omega) 7 _ _ (by omega) (by omega) (by omega) (by omega) (by omega) (by omega)
  · exact bits_join_low .i64 63 (by decide) (fun n h0 h1 => by simp [IntKind.wrap, IntKind.bits, IntKind.signed]; omega) 14 _ _ (by omega) (by omega) (by omega) (by omega) (by omega) (by omega)
  · exact bits_join_low .i64 63 (by decide) (fun n h0 h1 => by simp [IntKind.wrap, IntKind.bits, IntKind.signed]; omega) 21 _ _ (by omega) (by omega) (by omega) (by omega) (by omega) (by omega)
  · exact bits_join_low .i64 63 (by decide) (fun n h0 h1 => by simp [IntKind.wrap, IntKind.bits, IntKind.signed]; omega) 28 _ _ (by omega) (by omega) (by omega) (by omega) (by omega) (by omega)
end Go.Proofs.Yteiifcmdpoonmaa
