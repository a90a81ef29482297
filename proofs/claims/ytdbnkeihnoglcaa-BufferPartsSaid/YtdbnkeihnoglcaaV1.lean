/- The word functions of the document: Put, Take, Add. -/
import Derived.Test.YtdbnkeihnoglcaaRows
import Derived.WalkKit
import Derived.WalkSpells
import Derived.WalkLawsBesides
import Derived.Below
import Derived.Laws.IdiomStrings
import Derived.Lib.Hide
namespace Go.Proofs.Ytdbnkeihnoglcaa
set_option linter.unusedSimpArgs false
open Go.RowKit
set_option linter.unusedVariables false
def dg (n : Int) (j : Nat) : Int := n / 2 ^ (56 - 8 * j) % 256

theorem dg_lo (n : Int) (j : Nat) : 0 ≤ dg n j := Int.emod_nonneg _ (by omega)
theorem dg_hi (n : Int) (j : Nat) : dg n j < 256 := Int.emod_lt_of_pos _ (by omega)
def dgb (n : Int) (j : Nat) : UInt8 := UInt8.ofNat (dg n j).toNat
theorem dgb_nat (n : Int) (j : Nat) : ((dgb n j).toNat : Int) = dg n j := by
  have h0 := dg_lo n j
  have h1 := dg_hi n j
  unfold dgb
  rw [UInt8.toNat_ofNat']
  omega
/-- A number's eight bytes, the greatest first. -/
def put8 (n : Int) : ByteArray := ⟨#[dgb n 0, dgb n 1, dgb n 2, dgb n 3, dgb n 4, dgb n 5, dgb n 6, dgb n 7]⟩

def tk (s : ByteArray) : Nat → Int
  | 0 => 0
  | k + 1 => tk s k * 256 + ((s.data.getD k 0).toNat : Int)
theorem tk_lo (s : ByteArray) : ∀ k, 0 ≤ tk s k
  | 0 => by simp [tk]
  | k + 1 => by have := tk_lo s k; simp only [tk]; omega
theorem tk_hi (s : ByteArray) : ∀ k, tk s k < 256 ^ k
  | 0 => by simp [tk]
  | k + 1 => by
    have := tk_hi s k
    have := (s.data.getD k 0).toNat_lt
    simp only [tk, Int.pow_succ]
    omega

theorem pow7 (k : Nat) (h : k < 8) : (256 : Int) ^ k ≤ 72057594037927936 := by
  rcases (by omega : k = 0 ∨ k = 1 ∨ k = 2 ∨ k = 3 ∨ k = 4 ∨ k = 5 ∨ k = 6 ∨ k = 7) with rfl | rfl | rfl | rfl | rfl | rfl | rfl | rfl <;> decide
theorem wrap_lo (n : Int) : 0 ≤ IntKind.u64.wrap n := by rw [IntKind.wrap_u64]; omega
theorem wrap_hi (n : Int) : IntKind.u64.wrap n < 18446744073709551616 := by rw [IntKind.wrap_u64]; omega

/-- What becomes of a value to which a number is added. -/
def addF (s : ByteArray) (is : Bool) (d : Int) : ByteArray :=
  if is then (if s.size = 8 then put8 (IntKind.u64.wrap (tk s 8 + d)) else s) else put8 d

set_option maxHeartbeats 1000000 in
theorem rtake_no (s : ByteArray) (w : World) (h : s.size ≠ 8) :
    Calls Try.prog 76 #[.string s] w fun e w' => e = .returned (.tuple #[.int .u64 0, .bool false]) ∧ w = w' := by
  have h' : ¬ ((s.size : Int) = 8) := by omega
  go_enter Try.func76, Try.ntmps76
  go_wp2
  refine bodyPost_ret (v := .tuple #[.int .u64 0, .bool false]) (by simp [results, Try.results76, go_sem]) rfl ⟨rfl, rfl⟩

theorem rtk_step (s : ByteArray) (k : Nat) (hk : k < 8) (h : k < s.size) : IntKind.u64.wrap (IntKind.u64.wrap (tk s k * 256) + IntKind.u64.wrap ((s[k].toNat : Nat) : Int)) = tk s (k + 1) := by
  have a := tk_lo s k
  have b := tk_hi s k
  have c := pow7 k hk
  have d := s[k].toNat_lt
  have e : s.data.getD k 0 = s[k] := by
    have h' : k < s.data.size := h
    simp only [Array.getD]
    rw [dif_pos h']
    rfl
  simp only [IntKind.wrap_u64]
  simp only [tk, e]
  omega

set_option maxHeartbeats 1000000 in
theorem rtake_yes (s : ByteArray) (w : World) (h : s.size = 8) :
    Calls Try.prog 76 #[.string s] w fun e w' => e = .returned (.tuple #[.int .u64 (tk s 8), .bool true]) ∧ Below w.heap.size w w' := by
  have h' : ((s.size : Int) = 8) := by omega
  go_enter Try.func76, Try.ntmps76
  go_wp2
  go_loopw [4, 5] (fun n i wr => ∃ k : Nat, k ≤ 8 ∧ i = .int .i64 k ∧ n = .int .u64 (tk s k) ∧ Below w.heap.size w wr) (fun _ i _ => 8 - (intOf i).toNat)
  case atStart => exact ⟨0, by omega, rfl, rfl, Below.refl _ _⟩
  case round =>
    obtain ⟨k, hk, rfl, rfl, hB⟩ := hrel
    by_cases h8 : k = 8
    · subst h8
      go_wp2
      refine bodyPost_ret (v := .tuple #[.int .u64 (tk s 8), .bool true]) (by simp [results, Try.results76, go_sem]) rfl ⟨rfl, hB⟩
    · have hk8 : (k : Int) < 8 := by omega
      have hks : k < s.size := by omega
      have hks' : (k : Int) < (s.size : Int) := by omega
      go_wp2
      exact ⟨⟨k + 1, by omega, by simp, congrArg _ (rtk_step s k (by omega) hks), hB⟩, by simp [intOf]; omega⟩
def outP (n : Int) : Nat → ByteArray
  | 0 => ⟨#[]⟩
  | k + 1 => ⟨#[dgb n (7 - k)]⟩ ++ outP n k
theorem outP_size (n : Int) : ∀ k, (outP n k).size = k
  | 0 => rfl
  | k + 1 => by
    have h := outP_size n k
    simp only [outP, ByteArray.size_append, h]
    have e : (⟨#[dgb n (7 - k)]⟩ : ByteArray).size = 1 := rfl
    omega

theorem outP_8 (n : Int) : outP n 8 = put8 n := by
  apply ByteArray.ext
  simp [outP, put8, ByteArray.data_append]
theorem dg_rev (n : Int) (k : Nat) (h : k < 8) : dg n (7 - k) = n / 256 ^ k % 256 := by
  rcases (by omega : k = 0 ∨ k = 1 ∨ k = 2 ∨ k = 3 ∨ k = 4 ∨ k = 5 ∨ k = 6 ∨ k = 7) with rfl | rfl | rfl | rfl | rfl | rfl | rfl | rfl <;> simp only [dg, Nat.reduceMul, Nat.reduceSub, Int.reducePow]
theorem pw0 (k : Nat) : (0 : Int) ≤ 256 ^ k := by
  induction k with
  | zero => decide
  | succ k ih => rw [Int.pow_succ]; omega
theorem quo_step (n m : Int) (k : Nat) (h0 : 0 ≤ n) (h1 : n < 18446744073709551616) (h : k < 8) (hm : m = n / 256 ^ k) (m0 : 0 ≤ m) : IntKind.u64.wrap (m.tdiv 256) = n / 256 ^ (k + 1) := by
  rw [Int.tdiv_eq_ediv_of_nonneg m0, IntKind.wrap_u64, hm]
  clear hm m0
  rcases (by omega : k = 0 ∨ k = 1 ∨ k = 2 ∨ k = 3 ∨ k = 4 ∨ k = 5 ∨ k = 6 ∨ k = 7) with rfl | rfl | rfl | rfl | rfl | rfl | rfl | rfl <;> (simp only [Nat.reduceAdd, Int.reducePow]; omega)

set_option maxHeartbeats 1000000 in
theorem rput_any (n : Int) (w : World) (h0 : 0 ≤ n) (h1 : n < 18446744073709551616) :
    Calls Try.prog 75 #[.int .u64 n] w fun e w' => e = .returned (.string (put8 n)) ∧ Below w.heap.size w w' := by
  go_enter Try.func75, Try.ntmps75
  go_wp2
  go_loopw [0, 3, 4] (fun m o i wr => ∃ k : Nat, k ≤ 8 ∧ i = .int .i64 k ∧ m = .int .u64 (n / 256 ^ k) ∧ o = .string (outP n k) ∧ Below w.heap.size w wr) (fun _ _ i _ => 8 - (intOf i).toNat)
  case atStart => exact ⟨0, by omega, rfl, by rw [Int.pow_zero, Int.ediv_one], rfl, Below.refl _ _⟩
  case round =>
    obtain ⟨k, hk, rfl, rfl, rfl, hB⟩ := hrel
    have hs := outP_size n k
    obtain ⟨o, ho⟩ : ∃ o, o = outP n k := ⟨_, rfl⟩
    obtain ⟨m, hm⟩ : ∃ m, m = n / 256 ^ k := ⟨_, rfl⟩
    rw [← ho, ← hm]
    rw [← ho] at hs
    have m0 : 0 ≤ m := by rw [hm]; exact Int.ediv_nonneg h0 (pw0 k)
    have HO := Lib.hid ho
    have HM := Lib.hid hm
    clear ho hm
    by_cases h8 : k = 8
    · subst h8
      go_wp2
      go_ret
      refine ⟨?_, hB⟩
      rw [← outP_8, ← HO.out]
      rfl
    · have hk8 : (k : Int) < 8 := by omega
      have hz : ¬ 9223372036854775807 < 1 + o.size := by omega
      have hb : ((dgb n (7 - k)).toNat : Int) = m % 256 := by rw [dgb_nat, dg_rev n k (by omega), HM.out]
      have hv : (convert 88 9 (.slice (some ⟨wr.heap.size, 0, none⟩) 1 1)).run Try.prog (wr.alloc (.cells #[.int .u8 (m % 256)] 5)) = .ok (.string ⟨#[dgb n (7 - k)]⟩) (wr.alloc (.cells #[.int .u8 (m % 256)] 5)) := by
        refine run_convert_bytes_back (P := Try.prog) _ 88 9 5 ⟨wr.heap.size, 0, none⟩ 1 [dgb n (7 - k)] Try.underlying88 Try.underlying5 Try.underlying9 (fun j hj => ?_)
        simp only [List.length_cons, List.length_nil] at hj
        obtain rfl : j = 0 := by omega
        simp [Addr.add, go_sem, hb]
      clear hb
      go_wp2
      refine ⟨⟨k + 1, by omega, by simp, congrArg _ (quo_step n m k h0 h1 (by omega) HM.out m0), ?_, hB.alloc hB.size _⟩, by simp [intOf]; omega⟩
      rw [HO.out]
      rfl
set_option maxHeartbeats 1000000 in
theorem radd8_any (s : ByteArray) (is : Bool) (d : Int) (w : World) (h0 : 0 ≤ d) (h1 : d < 18446744073709551616) :
    Calls Try.prog 68 #[.string s, .bool is, .int .u64 d] w fun e w' => e = .returned (.string (addF s is d)) ∧ Below w.heap.size w w' := by
  cases is
  · have e : addF s false d = put8 d := by simp [addF]
    rw [e]
    clear e
    go_enter Try.func68, Try.ntmps68
    go_wp2_with fail
    refine (rput_any d _ h0 h1).mono ?_
    rintro e w1 ⟨rfl, hb⟩
    go_wp2_with fail
    go_ret
    exact ⟨rfl, hb⟩
  · by_cases h : s.size = 8
    · have e : addF s true d = put8 (IntKind.u64.wrap (tk s 8 + d)) := by simp [addF, h]
      rw [e]
      clear e
      go_enter Try.func68, Try.ntmps68
      go_wp2_with fail
      refine (rtake_yes s _ h).mono ?_
      rintro e w1 ⟨rfl, hb⟩
      go_wp2_with fail
      refine (rput_any (IntKind.u64.wrap (tk s 8 + d)) _ (wrap_lo _) (wrap_hi _)).mono ?_
      rintro e w2 ⟨rfl, hb2⟩
      go_wp2_with fail
      go_ret
      exact ⟨rfl, hb.trans (hb2.mono hb.size)⟩
    · have e : addF s true d = s := by simp [addF, h]
      rw [e]
      clear e
      go_enter Try.func68, Try.ntmps68
      go_wp2_with fail
      refine (rtake_no s _ h).mono ?_
      rintro e w1 ⟨rfl, rfl⟩
      go_wp2_with fail
      go_ret
      exact ⟨rfl, Below.refl _ _⟩

end Go.Proofs.Ytdbnkeihnoglcaa
