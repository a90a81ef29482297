/- The word functions: the number that eight bytes are. -/
import Derived.Test.YtkmhnfalnigifaaA1
namespace Go.Proofs.Ytkmhnfalnigifaa
set_option linter.unusedSimpArgs false
open Go.RowKit
set_option linter.unusedVariables false

set_option maxHeartbeats 1000000 in
theorem take_no (s : ByteArray) (w : World) (h : s.size ≠ 8) :
    Calls Try.prog 8 #[.string s] w fun e w' => e = .returned (.tuple #[.int .u64 0, .bool false]) ∧ w = w' := by
  have h' : ¬ ((s.size : Int) = 8) := by omega
  go_enter Try.func8, Try.ntmps8
  go_wp2
  refine bodyPost_ret (v := .tuple #[.int .u64 0, .bool false]) (by simp [results, Try.results8, go_sem]) rfl ⟨rfl, rfl⟩

def tk (s : ByteArray) : Nat → Int
  | 0 => 0
  | k + 1 => tk s k * 256 + ((s.data.getD k 0).toNat : Int)
theorem tk_lo (s : ByteArray) : ∀ k, 0 ≤ tk s k
  | 0 => by simp [tk]
  | k + 1 => by have := tk_lo s k; simp only [tk]; omega
theorem tk_hi (s : ByteArray) : ∀ k, tk s k < 256 ^ k
  | 0 => by simp [tk]
  | k + 1 => by
    have := tk_hi s k
    have := (s.data.getD k 0).toNat_lt
    simp only [tk, Int.pow_succ]
    omega

theorem pow7 (k : Nat) (h : k < 8) : (256 : Int) ^ k ≤ 72057594037927936 := by
  rcases (by omega : k = 0 ∨ k = 1 ∨ k = 2 ∨ k = 3 ∨ k = 4 ∨ k = 5 ∨ k = 6 ∨ k = 7) with rfl | rfl | rfl | rfl | rfl | rfl | rfl | rfl <;> decide
theorem tk_step (s : ByteArray) (k : Nat) (hk : k < 8) (h : k < s.size) : bits BinOp.or IntKind.u64 (IntKind.u64.wrap (tk s k * 256)) (IntKind.u64.wrap ((s[k].toNat : Nat) : Int)) = tk s (k + 1) := by
  have a := tk_lo s k
  have b := tk_hi s k
  have c := pow7 k hk
  have d := s[k].toNat_lt
  have e : s.data.getD k 0 = s[k] := by
    have h' : k < s.data.size := h
    simp only [Array.getD]
    rw [dif_pos h']
    rfl
  rw [IntKind.wrap_u64, IntKind.wrap_u64, Int.emod_eq_of_lt (by omega) (by omega), Int.emod_eq_of_lt (by omega) (by omega)]
  have f : bits BinOp.or IntKind.u64 (tk s k * 256) ((s[k].toNat : Nat) : Int) = bits BinOp.or IntKind.u64 ((s[k].toNat : Nat) : Int) (tk s k * 256) := by simp only [bits, BitVec.or_comm]
  rw [f, u64_or8 _ _ (by omega) (by omega) (by omega) (by omega) (by omega)]
  simp only [tk, e]
  omega

set_option maxHeartbeats 1000000 in
theorem take_yes (s : ByteArray) (w : World) (h : s.size = 8) :
    Calls Try.prog 8 #[.string s] w fun e w' => e = .returned (.tuple #[.int .u64 (tk s 8), .bool true]) ∧ Below w.heap.size w w' := by
  have h' : ((s.size : Int) = 8) := by omega
  go_enter Try.func8, Try.ntmps8
  go_wp2
  go_loopw [4, 11] (fun n i wr => ∃ k : Nat, k ≤ 8 ∧ i = .int .i64 k ∧ n = .int .u64 (tk s k) ∧ Below w.heap.size w wr) (fun _ i _ => 8 - (intOf i).toNat)
  case atStart => exact ⟨0, by omega, rfl, rfl, Below.refl _ _⟩
  case round =>
    obtain ⟨k, hk, rfl, rfl, hB⟩ := hrel
    by_cases h8 : k = 8
    · subst h8
      go_wp2
      refine bodyPost_ret (v := .tuple #[.int .u64 (tk s 8), .bool true]) (by simp [results, Try.results8, go_sem]) rfl ⟨rfl, hB⟩
    · have hk8 : (k : Int) < 8 := by omega
      have hks : k < s.size := by omega
      have hks' : (k : Int) < (s.size : Int) := by omega
      have e := tk_lo s k
      have e2 := tk_hi s k
      go_wp2
      exact ⟨⟨k + 1, by omega, by simp, congrArg _ (tk_step s k (by omega) hks), hB⟩, by simp [intOf]; omega⟩

/-- The number that a number's bytes are is that number. -/
theorem tk_put (n : Int) (h0 : 0 ≤ n) (h1 : n < 18446744073709551616) : tk (put8 n) 8 = n := by
  have e : tk (put8 n) 8 = (((((((dg n 0 * 256 + dg n 1) * 256 + dg n 2) * 256 + dg n 3) * 256 + dg n 4) * 256 + dg n 5) * 256 + dg n 6) * 256 + dg n 7) := by
    simp [tk, put8, dgb_nat]
  rw [e]
  simp only [dg]
  simp only [Nat.reduceMul, Nat.reduceSub, Int.reducePow]
  omega
theorem put_size (n : Int) : (put8 n).size = 8 := rfl
end Go.Proofs.Ytkmhnfalnigifaa
