/- The word functions: Num and Text for everything. -/
import Derived.Test.YteiifcmdpoonmaaW6
namespace Go.Proofs.Yteiifcmdpoonmaa
set_option linter.unusedSimpArgs false
open Go.RowKit
set_option linter.unusedVariables false

/-- A number's bytes; none of a number that has none. -/
def numF (n : Int) : ByteArray := if 0 ≤ n ∧ n ≤ 2147483647 then numS n (numI n) else ⟨#[]⟩
theorem num_any (n : Int) (w : World) :
    Calls Try.prog 27 #[.int .i64 n] w fun e w' => e = .returned (.string (numF n)) ∧ Below w.heap.size w w' := by
  by_cases h : 0 ≤ n ∧ n ≤ 2147483647
  · rw [numF, if_pos h]; exact num_in n w h.1 h.2
  · rw [numF, if_neg h]; exact num_off n w (by omega)
theorem numS_size (n : Int) (i : Nat) : (numS n i).size = i + 1 := by
  have h : (numS n i).size = ((List.range i).map (ndb n) ++ [UInt8.ofNat (n / 128 ^ i).toNat]).length := rfl
  rw [h]; simp
theorem numI_le (n : Int) : numI n ≤ 4 := by unfold numI; repeat (first | omega | split)
theorem numF_size (n : Int) : (numF n).size ≤ 5 := by
  unfold numF
  split
  · rw [numS_size]; have := numI_le n; omega
  · show 0 ≤ 5; omega

/-- A text's bytes. -/
def textF (s : ByteArray) : ByteArray := if 2147483647 < s.size then ⟨#[]⟩ else numF (s.size : Int) ++ s
set_option maxHeartbeats 1000000 in
theorem text_any (s : ByteArray) (w : World) :
    Calls Try.prog 38 #[.string s] w fun e w' => e = .returned (.string (textF s)) ∧ Below w.heap.size w w' := by
  by_cases h : 2147483647 < s.size
  · have h' : (2147483647 : Int) < (s.size : Int) := by omega
    rw [textF, if_pos h]
    go_enter Try.func38, Try.ntmps38
    go_wp2_with fail
    go_ret
    exact ⟨rfl, Below.refl _ _⟩
  · have h' : ¬ (2147483647 : Int) < (s.size : Int) := by omega
    rw [textF, if_neg h]
    have z := numF_size (s.size : Int)
    obtain ⟨t, ht⟩ : ∃ t, t = numF (s.size : Int) := ⟨_, rfl⟩
    have c := num_any (s.size : Int)
    rw [← ht] at z c ⊢
    clear ht
    have C := Lib.hid c
    clear c
    have zz : ¬ 9223372036854775807 < t.size + s.size := by omega
    go_enter Try.func38, Try.ntmps38
    go_wp2_with fail
    refine (C.out _).mono ?_
    rintro e w1 ⟨rfl, hb⟩
    go_wp2_with fail
    go_ret
    exact ⟨rfl, hb⟩
end Go.Proofs.Yteiifcmdpoonmaa
