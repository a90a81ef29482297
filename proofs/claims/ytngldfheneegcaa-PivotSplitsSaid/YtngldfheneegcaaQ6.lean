/- Pivots: alike: what is alike is said to be. -/
import Derived.Test.YtngldfheneegcaaQ5
namespace Go.Proofs.Ytngldfheneegcaa
set_option linter.unusedSimpArgs false
open Go.RowKit
set_option linter.unusedVariables false

set_option maxHeartbeats 1000000 in
theorem sameP_eq (A B : Option Addr) (ps : List (ByteArray × ByteArray)) (n c c' : Nat) (w : World) (hl : ps.length = n) (hn : n ≤ 100000) (hA : RdP w A ps) (hB : RdP w B ps) :
    Calls Try.prog 13 #[.slice A n c, .slice B n c'] w fun e w' => e = .returned (.bool true) ∧ Below w.heap.size w w' := by
  have HA := Lib.hid hA
  have HB := Lib.hid hB
  have HL := Lib.hid hl
  clear hA hB hl
  go_enter Try.func13, Try.ntmps13
  go_wp2
  go_loopw [5] (fun iv wr => ∃ k d : Nat, k ≤ n ∧ iv = .int .i64 k ∧ wr = w.drewN d) (fun i _ => n - (intOf i).toNat)
  case atStart => exact ⟨0, 0, by omega, rfl, rfl⟩
  case round =>
    obtain ⟨k, d, hk, rfl, hwr⟩ := hrel
    have HW := Lib.hid hwr
    clear hwr
    by_cases h8 : k < n
    · have i1 : (k : Int) < (n : Int) := by omega
      have i0 : (0 : Int) ≤ (k : Int) := by omega
      obtain ⟨x, hx⟩ : ∃ x, ps[k]? = some x := ⟨_, List.getElem?_eq_getElem (by rw [HL.out]; exact h8)⟩
      obtain ⟨b, off, rfl, hlt, f0, f1⟩ := rdp_get HA.out hx
      obtain ⟨b2, off2, rfl, hlt2, f2, f3⟩ := rdp_get HB.out hx
      have g0 : wr.cell? ⟨b, off + k * 2, none⟩ = some (.string x.1) := by rw [HW.out]; exact f0
      have g1 : wr.cell? ⟨b, off + k * 2 + 1, none⟩ = some (.string x.2) := by rw [HW.out]; exact f1
      have g2 : wr.cell? ⟨b2, off2 + k * 2, none⟩ = some (.string x.1) := by rw [HW.out]; exact f2
      have g3 : wr.cell? ⟨b2, off2 + k * 2 + 1, none⟩ = some (.string x.2) := by rw [HW.out]; exact f3
      obtain ⟨x0, x1⟩ := x
      clear f0 f1 f2 f3 hx
      go_wp2_with fail
      go_quiet (fail)
      go_wp2
      exact ⟨⟨k + 1, d + nq, by omega, by simp, by rw [HW.out, World.drewN_drewN]⟩, by simp [intOf]; omega⟩
    · have i1 : ¬ (k : Int) < (n : Int) := by omega
      go_wp2
      go_ret
      exact ⟨rfl, by rw [HW.out]; exact bel_drewN (Below.refl _ _) d⟩
set_option maxHeartbeats 1000000 in
theorem sameS_eq (A B : Option Addr) (p : List ByteArray) (n c c' : Nat) (w : World) (hl : p.length = n) (hn : n ≤ 100000) (hA : RdS w A p) (hB : RdS w B p) :
    Calls Try.prog 22 #[.slice A n c, .slice B n c'] w fun e w' => e = .returned (.bool true) ∧ Below w.heap.size w w' := by
  have HA := Lib.hid hA
  have HB := Lib.hid hB
  have HL := Lib.hid hl
  clear hA hB hl
  go_enter Try.func22, Try.ntmps22
  go_wp2
  go_loopw [5] (fun iv wr => ∃ k d : Nat, k ≤ n ∧ iv = .int .i64 k ∧ wr = w.drewN d) (fun i _ => n - (intOf i).toNat)
  case atStart => exact ⟨0, 0, by omega, rfl, rfl⟩
  case round =>
    obtain ⟨k, d, hk, rfl, hwr⟩ := hrel
    have HW := Lib.hid hwr
    clear hwr
    by_cases h8 : k < n
    · have i1 : (k : Int) < (n : Int) := by omega
      have i0 : (0 : Int) ≤ (k : Int) := by omega
      obtain ⟨b, off, rfl, hlt, f0⟩ := rds_get HA.out (k := k) (by have := HL.out; omega)
      obtain ⟨b2, off2, rfl, hlt2, f2⟩ := rds_get HB.out (k := k) (by have := HL.out; omega)
      have g0 : wr.cell? ⟨b, off + k, none⟩ = some (.string (at_ p k)) := by rw [HW.out]; exact f0
      have g2 : wr.cell? ⟨b2, off2 + k, none⟩ = some (.string (at_ p k)) := by rw [HW.out]; exact f2
      generalize at_ p k = x at g0 g2
      clear f0 f2
      go_wp2_with fail
      go_quiet (fail)
      go_wp2
      exact ⟨⟨k + 1, d + nq, by omega, by simp, by rw [HW.out, World.drewN_drewN]⟩, by simp [intOf]; omega⟩
    · have i1 : ¬ (k : Int) < (n : Int) := by omega
      go_wp2
      go_ret
      exact ⟨rfl, by rw [HW.out]; exact bel_drewN (Below.refl _ _) d⟩
end Go.Proofs.Ytngldfheneegcaa
