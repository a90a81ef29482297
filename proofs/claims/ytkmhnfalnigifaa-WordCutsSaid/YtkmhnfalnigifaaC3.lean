/- The law WordTakes: rows that are the same. -/
import Derived.Test.YtkmhnfalnigifaaC2
namespace Go.Proofs.Ytkmhnfalnigifaa
set_option linter.unusedSimpArgs false
open Go.RowKit
set_option linter.unusedVariables false

set_option maxRecDepth 100000 in
set_option maxHeartbeats 2000000 in
theorem same_yes (A B : Option Addr) (n c d : Nat) (l : List ByteArray) (w : World) (hl : l.length = n) (hn : n ≤ 1000000) (hA : Rd w w.heap.size A (l.map Value.string)) (hB : Rd w w.heap.size B (l.map Value.string)) :
    Calls Try.prog 21 #[.slice A n c, .slice B n d] w fun e w' => e = .returned (.bool true) ∧ Below w.heap.size w w' := by
  have HL := Lib.hid hl
  clear hl
  go_enter Try.func21, Try.ntmps21
  go_wp2
  go_loopw [5] (fun iv wr => ∃ k : Nat, k ≤ n ∧ iv = .int .i64 k ∧ Below w.heap.size w wr) (fun i _ => n - (intOf i).toNat)
  case atStart => exact ⟨0, by omega, rfl, Below.refl _ _⟩
  case round =>
    obtain ⟨k, hk, rfl, hb⟩ := hrel
    by_cases h8 : k = n
    · subst h8
      clear hA hB
      go_wp2
      go_ret
      exact ⟨rfl, hb⟩
    · have hkn : k < n := by omega
      have hk1 : (k : Int) < (n : Int) := by omega
      have hk0 : (0 : Int) ≤ (k : Int) := by omega
      have hkl : k < l.length := by rw [HL.out]; exact hkn
      have gk : (l.map Value.string)[k]? = some (.string l[k]) := by rw [List.getElem?_map, List.getElem?_eq_getElem hkl]; rfl
      obtain ⟨b, off, rfl, hlt, hc⟩ := hA.get gk
      obtain ⟨b2, off2, rfl, hlt2, hc2⟩ := hB.get gk
      have e1 := bel_later hb hc
      have e2 := bel_later hb hc2
      obtain ⟨x, hx⟩ : ∃ x, x = l[k] := ⟨_, rfl⟩
      rw [← hx] at e1 e2
      clear hA hB hc hc2 gk hx
      go_wp2
      go_quiet (fail)
      go_wp2
      exact ⟨⟨k + 1, by omega, by simp, bel_drewN hb nq⟩, by simp [intOf]; omega⟩
end Go.Proofs.Ytkmhnfalnigifaa
