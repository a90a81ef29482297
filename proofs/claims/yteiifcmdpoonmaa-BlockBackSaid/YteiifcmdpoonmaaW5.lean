/- The word functions: Num's walk. -/
import Derived.Test.YteiifcmdpoonmaaW4
namespace Go.Proofs.Yteiifcmdpoonmaa
set_option linter.unusedSimpArgs false
open Go.RowKit
set_option linter.unusedVariables false

theorem or128 (b : Int) (h0 : 0 ≤ b) (h1 : b < 256) : bits BinOp.or IntKind.u8 b 128 = b % 128 + 128 := by
  have : ∀ c : Fin 256, bits BinOp.or IntKind.u8 (c.val : Int) 128 = (c.val : Int) % 128 + 128 := by decide +kernel
  have h := this ⟨b.toNat, by omega⟩
  simpa [Int.toNat_of_nonneg h0] using h

/-- A digit of a number that is not its last one, as it is written. -/
def nd (n : Int) (j : Nat) : Int := n / 128 ^ j % 128 + 128
def ndb (n : Int) (j : Nat) : UInt8 := UInt8.ofNat (nd n j).toNat
theorem nd_rng (n : Int) (j : Nat) : 128 ≤ nd n j ∧ nd n j < 256 := by unfold nd; omega
theorem ndb_nat (n : Int) (j : Nat) : ((ndb n j).toNat : Int) = nd n j := by
  have := nd_rng n j
  unfold ndb
  rw [UInt8.toNat_ofNat']
  omega
/-- A number's bytes, if so many digits stand ahead of the last one. -/
def numS (n : Int) (i : Nat) : ByteArray := ⟨((List.range i).map (ndb n) ++ [UInt8.ofNat (n / 128 ^ i).toNat]).toArray⟩
/-- How many digits stand ahead of the last one. -/
def numI (n : Int) : Nat := if n < 128 then 0 else if n < 16384 then 1 else if n < 2097152 then 2 else if n < 268435456 then 3 else 4
theorem numI_eq (n : Int) (i : Nat) (h0 : 0 ≤ n) (h1 : n ≤ 2147483647) (hi : i ≤ 4) (a : n / 128 ^ i < 128) (b : ∀ j, j < i → 128 ≤ n / 128 ^ j) : numI n = i := by
  unfold numI
  rcases (by omega : i = 0 ∨ i = 1 ∨ i = 2 ∨ i = 3 ∨ i = 4) with rfl | rfl | rfl | rfl | rfl
  · simp at a; simp [a]
  · have := b 0 (by omega); simp only [Int.reducePow] at *; repeat (first | rfl | (rw [if_neg (by omega)]) | (rw [if_pos (by omega)]))
  · have := b 1 (by omega); simp only [Int.reducePow] at *; repeat (first | rfl | (rw [if_neg (by omega)]) | (rw [if_pos (by omega)]))
  · have := b 2 (by omega); simp only [Int.reducePow] at *; repeat (first | rfl | (rw [if_neg (by omega)]) | (rw [if_pos (by omega)]))
  · have := b 3 (by omega); simp only [Int.reducePow] at *; repeat (first | rfl | (rw [if_neg (by omega)]) | (rw [if_pos (by omega)]))

set_option maxHeartbeats 1000000 in
theorem num_off (n : Int) (w : World) (h : n < 0 ∨ 2147483647 < n) :
    Calls Try.prog 27 #[.int .i64 n] w fun e w' => e = .returned (.string ⟨#[]⟩) ∧ Below w.heap.size w w' := by
  by_cases a : n < 0
  · go_enter Try.func27, Try.ntmps27
    go_wp2
    go_ret
    exact ⟨rfl, Below.refl _ _⟩
  · have b : 2147483647 < n := by omega
    go_enter Try.func27, Try.ntmps27
    go_wp2
    go_ret
    exact ⟨rfl, Below.refl _ _⟩
end Go.Proofs.Yteiifcmdpoonmaa
