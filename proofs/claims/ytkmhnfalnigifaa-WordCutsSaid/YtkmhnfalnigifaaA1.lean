/- The word functions: a number's eight bytes, and the number that eight bytes are. -/
import Derived.Test.YtkmhnfalnigifaaRows
import Derived.WalkKit
import Derived.WalkSpells
import Derived.WalkLawsBesides
import Derived.Below
import Derived.Lib.EndianBits
import Derived.Laws.IdiomStrings
import Derived.Lib.Hide
namespace Go.Proofs.Ytkmhnfalnigifaa
set_option linter.unusedSimpArgs false
open Go.RowKit
set_option linter.unusedVariables false

def dg (n : Int) (j : Nat) : Int := n / 2 ^ (56 - 8 * j) % 256

theorem dg_lo (n : Int) (j : Nat) : 0 ≤ dg n j := Int.emod_nonneg _ (by omega)
theorem dg_hi (n : Int) (j : Nat) : dg n j < 256 := Int.emod_lt_of_pos _ (by omega)
def dgb (n : Int) (j : Nat) : UInt8 := UInt8.ofNat (dg n j).toNat
theorem dgb_nat (n : Int) (j : Nat) : ((dgb n j).toNat : Int) = dg n j := by
  have h0 := dg_lo n j
  have h1 := dg_hi n j
  unfold dgb
  rw [UInt8.toNat_ofNat']
  omega
/-- A number's eight bytes, the greatest first. -/
def put8 (n : Int) : ByteArray := ⟨#[dgb n 0, dgb n 1, dgb n 2, dgb n 3, dgb n 4, dgb n 5, dgb n 6, dgb n 7]⟩

set_option maxHeartbeats 2000000 in
theorem put_any (n : Int) (w : World) (h0 : 0 ≤ n) (h1 : n < 18446744073709551616) :
    Calls Try.prog 11 #[.int .u64 n] w fun e w' => e = .returned (.string (put8 n)) ∧ Below w.heap.size w w' := by
  go_enter Try.func11, Try.ntmps11
  go_wp2
  go_loopw [5] (fun i wr => ∃ k : Nat, k ≤ 8 ∧ i = .int .i64 k ∧ (∀ j, j < 8 → wr.cell? ⟨w.heap.size, j, none⟩ = some (.int .u8 (if j < k then dg n j else 0))) ∧ (∀ j, j < 8 → wr.frozen? ⟨w.heap.size, j, none⟩ = false) ∧ Below w.heap.size w wr) (fun i _ => 8 - (intOf i).toNat)
  case atStart =>
    refine ⟨0, by omega, rfl, fun j hj => ?_, fun j hj => ?_, (Below.refl _ _).alloc (Nat.le_refl _) _⟩
    · rcases (by omega : j = 0 ∨ j = 1 ∨ j = 2 ∨ j = 3 ∨ j = 4 ∨ j = 5 ∨ j = 6 ∨ j = 7) with rfl | rfl | rfl | rfl | rfl | rfl | rfl | rfl <;> simp [go_sem]
    · simp [go_sem]
  case round =>
    obtain ⟨k, hk, rfl, hc, hf, hB⟩ := hrel
    by_cases h8 : k = 8
    · subst h8
      have hv : (convert 49 9 (.slice (some ⟨w.heap.size, 0, none⟩) 8 8)).run Try.prog wr = .ok (.string (put8 n)) wr := by
        refine run_convert_bytes_back (P := Try.prog) wr 49 9 5 ⟨w.heap.size, 0, none⟩ 8 [dgb n 0, dgb n 1, dgb n 2, dgb n 3, dgb n 4, dgb n 5, dgb n 6, dgb n 7] Try.underlying49 Try.underlying5 Try.underlying9 (fun j hj => ?_)
        simp only [List.length_cons, List.length_nil] at hj
        have h := hc j (by omega)
        rw [if_pos (by omega)] at h
        rcases (by omega : j = 0 ∨ j = 1 ∨ j = 2 ∨ j = 3 ∨ j = 4 ∨ j = 5 ∨ j = 6 ∨ j = 7) with rfl | rfl | rfl | rfl | rfl | rfl | rfl | rfl <;> simpa [Addr.add, dgb_nat] using h
      clear hc hf
      go_wp2
      go_ret
      exact ⟨rfl, hB⟩
    · have c := hc k (by omega)
      have f := hf k (by omega)
      simp only [Nat.lt_irrefl, if_false] at c
      have HC := Lib.hid hc
      have HF := Lib.hid hf
      clear hc hf
      have hk8 : (k : Int) < 8 := by omega
      have hs : ¬ 56 - 8 * (k : Int) < 0 := by omega
      go_wp2
      refine ⟨⟨k + 1, by omega, by simp, fun j hj => ?_, fun j hj => ?_, hB.setCell (Nat.le_refl _) _⟩, by simp [intOf]; omega⟩
      · have h := HC.out j hj
        by_cases e : j = k
        · subst e
          simp [go_sem, c, dg]
        · have e' : (j < k + 1) = (j < k) := by simp; omega
          have e2 : k ≠ j := fun h => e h.symm
          simp only [e']
          simp [go_sem, e, e2, h]
      · have h := HF.out j hj
        simp [go_sem, h]
end Go.Proofs.Ytkmhnfalnigifaa
