/- The answer package's word functions: the number that eight bytes are, and a number's eight bytes. -/
import Derived.Test.YtkmhnfalnigifaaA5
namespace Go.Proofs.Ytkmhnfalnigifaa
set_option linter.unusedSimpArgs false
open Go.RowKit
set_option linter.unusedVariables false

set_option maxHeartbeats 1000000 in
theorem rtake_no (s : ByteArray) (w : World) (h : s.size ≠ 8) :
    Calls Try.prog 9 #[.string s] w fun e w' => e = .returned (.tuple #[.int .u64 0, .bool false]) ∧ w = w' := by
  have h' : ¬ ((s.size : Int) = 8) := by omega
  go_enter Try.func9, Try.ntmps9
  go_wp2
  refine bodyPost_ret (v := .tuple #[.int .u64 0, .bool false]) (by simp [results, Try.results9, go_sem]) rfl ⟨rfl, rfl⟩

theorem rtk_step (s : ByteArray) (k : Nat) (hk : k < 8) (h : k < s.size) : IntKind.u64.wrap (IntKind.u64.wrap (tk s k * 256) + IntKind.u64.wrap ((s[k].toNat : Nat) : Int)) = tk s (k + 1) := by
  have a := tk_lo s k
  have b := tk_hi s k
  have c := pow7 k hk
  have d := s[k].toNat_lt
  have e : s.data.getD k 0 = s[k] := by
    have h' : k < s.data.size := h
    simp only [Array.getD]
    rw [dif_pos h']
    rfl
  simp only [IntKind.wrap_u64]
  simp only [tk, e]
  omega

set_option maxHeartbeats 1000000 in
theorem rtake_yes (s : ByteArray) (w : World) (h : s.size = 8) :
    Calls Try.prog 9 #[.string s] w fun e w' => e = .returned (.tuple #[.int .u64 (tk s 8), .bool true]) ∧ Below w.heap.size w w' := by
  have h' : ((s.size : Int) = 8) := by omega
  go_enter Try.func9, Try.ntmps9
  go_wp2
  go_loopw [4, 5] (fun n i wr => ∃ k : Nat, k ≤ 8 ∧ i = .int .i64 k ∧ n = .int .u64 (tk s k) ∧ Below w.heap.size w wr) (fun _ i _ => 8 - (intOf i).toNat)
  case atStart => exact ⟨0, by omega, rfl, rfl, Below.refl _ _⟩
  case round =>
    obtain ⟨k, hk, rfl, rfl, hB⟩ := hrel
    by_cases h8 : k = 8
    · subst h8
      go_wp2
      refine bodyPost_ret (v := .tuple #[.int .u64 (tk s 8), .bool true]) (by simp [results, Try.results9, go_sem]) rfl ⟨rfl, hB⟩
    · have hk8 : (k : Int) < 8 := by omega
      have hks : k < s.size := by omega
      have hks' : (k : Int) < (s.size : Int) := by omega
      go_wp2
      exact ⟨⟨k + 1, by omega, by simp, congrArg _ (rtk_step s k (by omega) hks), hB⟩, by simp [intOf]; omega⟩
def outP (n : Int) : Nat → ByteArray
  | 0 => ⟨#[]⟩
  | k + 1 => ⟨#[dgb n (7 - k)]⟩ ++ outP n k
theorem outP_size (n : Int) : ∀ k, (outP n k).size = k
  | 0 => rfl
  | k + 1 => by
    have h := outP_size n k
    simp only [outP, ByteArray.size_append, h]
    have e : (⟨#[dgb n (7 - k)]⟩ : ByteArray).size = 1 := rfl
    omega

theorem outP_8 (n : Int) : outP n 8 = put8 n := by
  apply ByteArray.ext
  simp [outP, put8, ByteArray.data_append]
theorem dg_rev (n : Int) (k : Nat) (h : k < 8) : dg n (7 - k) = n / 256 ^ k % 256 := by
  rcases (by omega : k = 0 ∨ k = 1 ∨ k = 2 ∨ k = 3 ∨ k = 4 ∨ k = 5 ∨ k = 6 ∨ k = 7) with rfl | rfl | rfl | rfl | rfl | rfl | rfl | rfl <;> simp only [dg, Nat.reduceMul, Nat.reduceSub, Int.reducePow]
theorem pw0 (k : Nat) : (0 : Int) ≤ 256 ^ k := by
  induction k with
  | zero => decide
  | succ k ih => rw [Int.pow_succ]; omega
theorem quo_step (n m : Int) (k : Nat) (h0 : 0 ≤ n) (h1 : n < 18446744073709551616) (h : k < 8) (hm : m = n / 256 ^ k) (m0 : 0 ≤ m) : IntKind.u64.wrap (m.tdiv 256) = n / 256 ^ (k + 1) := by
  rw [Int.tdiv_eq_ediv_of_nonneg m0, IntKind.wrap_u64, hm]
  clear hm m0
  rcases (by omega : k = 0 ∨ k = 1 ∨ k = 2 ∨ k = 3 ∨ k = 4 ∨ k = 5 ∨ k = 6 ∨ k = 7) with rfl | rfl | rfl | rfl | rfl | rfl | rfl | rfl <;> (simp only [Nat.reduceAdd, Int.reducePow]; omega)

set_option maxHeartbeats 1000000 in
theorem rput_any (n : Int) (w : World) (h0 : 0 ≤ n) (h1 : n < 18446744073709551616) :
    Calls Try.prog 12 #[.int .u64 n] w fun e w' => e = .returned (.string (put8 n)) ∧ Below w.heap.size w w' := by
  go_enter Try.func12, Try.ntmps12
  go_wp2
  go_loopw [0, 3, 4] (fun m o i wr => ∃ k : Nat, k ≤ 8 ∧ i = .int .i64 k ∧ m = .int .u64 (n / 256 ^ k) ∧ o = .string (outP n k) ∧ Below w.heap.size w wr) (fun _ _ i _ => 8 - (intOf i).toNat)
  case atStart => exact ⟨0, by omega, rfl, by rw [Int.pow_zero, Int.ediv_one], rfl, Below.refl _ _⟩
  case round =>
    obtain ⟨k, hk, rfl, rfl, rfl, hB⟩ := hrel
    have hs := outP_size n k
    obtain ⟨o, ho⟩ : ∃ o, o = outP n k := ⟨_, rfl⟩
    obtain ⟨m, hm⟩ : ∃ m, m = n / 256 ^ k := ⟨_, rfl⟩
    rw [← ho, ← hm]
    rw [← ho] at hs
    have m0 : 0 ≤ m := by rw [hm]; exact Int.ediv_nonneg h0 (pw0 k)
    have HO := Lib.hid ho
    have HM := Lib.hid hm
    clear ho hm
    by_cases h8 : k = 8
    · subst h8
      go_wp2
      go_ret
      refine ⟨?_, hB⟩
      rw [← outP_8, ← HO.out]
      rfl
    · have hk8 : (k : Int) < 8 := by omega
      have hz : ¬ 9223372036854775807 < 1 + o.size := by omega
      have hb : ((dgb n (7 - k)).toNat : Int) = m % 256 := by rw [dgb_nat, dg_rev n k (by omega), HM.out]
      have hv : (convert 49 9 (.slice (some ⟨wr.heap.size, 0, none⟩) 1 1)).run Try.prog (wr.alloc (.cells #[.int .u8 (m % 256)] 5)) = .ok (.string ⟨#[dgb n (7 - k)]⟩) (wr.alloc (.cells #[.int .u8 (m % 256)] 5)) := by
        refine run_convert_bytes_back (P := Try.prog) _ 49 9 5 ⟨wr.heap.size, 0, none⟩ 1 [dgb n (7 - k)] Try.underlying49 Try.underlying5 Try.underlying9 (fun j hj => ?_)
        simp only [List.length_cons, List.length_nil] at hj
        obtain rfl : j = 0 := by omega
        simp [Addr.add, go_sem, hb]
      clear hb
      go_wp2
      refine ⟨⟨k + 1, by omega, by simp, congrArg _ (quo_step n m k h0 h1 (by omega) HM.out m0), ?_, hB.alloc hB.size _⟩, by simp [intOf]; omega⟩
      rw [HO.out]
      rfl
end Go.Proofs.Ytkmhnfalnigifaa
