/- Pivots: which part is a key's? -/
import Derived.Test.YtngldfheneegcaaP1
namespace Go.Proofs.Ytngldfheneegcaa
set_option linter.unusedSimpArgs false
open Go.RowKit
set_option linter.unusedVariables false

def prtK (p : List ByteArray) (s : ByteArray) : Nat → Nat
  | 0 => 0
  | k + 1 => prtK p s k + (if lt s (at_ p k) = true then 0 else 1)
def prt (p : List ByteArray) (s : ByteArray) : Nat := prtK p s p.length
theorem prtK_le (p : List ByteArray) (s : ByteArray) : ∀ k, prtK p s k ≤ k
  | 0 => Nat.le_refl _
  | k + 1 => by have := prtK_le p s k; simp only [prtK]; split <;> omega
theorem few_any (A : Option Addr) (n c : Nat) (w : World) (h : n ≤ c) (hc : c ≤ 9223372036854775807) :
    Calls Try.prog 6 #[.slice A n c] w fun e w' => e = .returned (.slice A (min n 30) c) ∧ Below w.heap.size w w' := by
  by_cases h1 : n ≤ 30
  · have e : min n 30 = n := by omega
    have h2 : ¬ (30 : Int) < (n : Int) := by omega
    rw [e]
    go_enter Try.func6, Try.ntmps6
    go_wp2
    go_ret
    exact ⟨rfl, Below.refl _ _⟩
  · have e : min n 30 = 30 := by omega
    have h2 : (30 : Int) < (n : Int) := by omega
    rw [e]
    go_enter Try.func6, Try.ntmps6
    go_wp2
    go_ret
    exact ⟨rfl, Below.refl _ _⟩
set_option maxHeartbeats 1000000 in
theorem rpart_any (A : Option Addr) (p : List ByteArray) (n c : Nat) (s : ByteArray) (w : World) (hl : p.length = n) (hn : n ≤ 1000) (hr : RdS w A p) :
    Calls Try.prog 18 #[.slice A n c, .string s] w fun e w' => e = .returned (.int .i64 (prt p s : Nat)) ∧ Below w.heap.size w w' := by
  have HR := Lib.hid hr
  have HL := Lib.hid hl
  clear hr hl
  go_enter Try.func18, Try.ntmps18
  go_wp2
  go_loopw [5, 6] (fun nv iv wr => ∃ k d : Nat, k ≤ n ∧ iv = .int .i64 k ∧ nv = .int .i64 (prtK p s k : Nat) ∧ wr = w.drewN d) (fun _ i _ => n - (intOf i).toNat)
  case atStart => exact ⟨0, 0, by omega, rfl, rfl, rfl⟩
  case round =>
    obtain ⟨k, d, hk, rfl, rfl, hwr⟩ := hrel
    have HW := Lib.hid hwr
    clear hwr
    have HPL := Lib.hid (prtK_le p s k)
    by_cases h8 : k < n
    · have i1 : (k : Int) < (n : Int) := by omega
      have i0 : (0 : Int) ≤ (k : Int) := by omega
      obtain ⟨b, off, rfl, hlt, f0⟩ := rds_get HR.out (k := k) (by have := HL.out; omega)
      have g0 : wr.cell? ⟨b, off + k, none⟩ = some (.string (at_ p k)) := by rw [HW.out]; exact f0
      have hst : prtK p s (k + 1) = prtK p s k + (if lt s (at_ p k) = true then 0 else 1) := rfl
      obtain ⟨x, hx⟩ : ∃ x, x = at_ p k := ⟨_, rfl⟩
      rw [← hx] at g0 hst
      obtain ⟨q, hq⟩ : ∃ q, q = prtK p s k := ⟨_, rfl⟩
      have hq1 : q ≤ 1000 := by have := HPL.out; omega
      have hq2 : (0 : Int) ≤ (q : Int) := by omega
      have hq3 : (q : Int) ≤ 1000 := by omega
      rw [← hq] at hst ⊢
      have HST := Lib.hid hst
      clear hst hx f0 hq
      cases hv : lt s x
      · have hr : Hid (((prtK p s (k + 1) : Nat) : Int) = (q : Int) + 1) := Lib.hid (by rw [HST.out, hv]; simp)
        rcases le_facts s x hv with ⟨k1, k2⟩ | ⟨k1, k2⟩
        all_goals
          clear hv HST
          go_wp2
          refine ⟨⟨k + 1, d, by omega, by simp, by rw [hr.out], HW.out⟩, ?_⟩
          simp [intOf]
          omega
      · obtain ⟨k1, k2⟩ := gt_facts s x hv
        have hr : Hid (((prtK p s (k + 1) : Nat) : Int) = (q : Int)) := Lib.hid (by rw [HST.out, hv]; simp)
        clear hv HST
        go_wp2
        refine ⟨⟨k + 1, d, by omega, by simp, by rw [hr.out], HW.out⟩, ?_⟩
        simp [intOf]
        omega
    · have i1 : ¬ (k : Int) < (n : Int) := by omega
      have hr : Hid (prt p s = prtK p s k) := Lib.hid (by unfold prt; rw [HL.out]; congr 1; omega)
      go_wp2
      go_ret
      exact ⟨by rw [hr.out]; rfl, by rw [HW.out]; exact bel_drewN (Below.refl _ _) d⟩
set_option maxHeartbeats 1000000 in
theorem part_any (A : Option Addr) (p : List ByteArray) (n c : Nat) (s : ByteArray) (w : World) (hl : p.length = n) (hn : n ≤ 1000) (hr : RdS w A p) :
    Calls Try.prog 17 #[.slice A n c, .string s] w fun e w' => e = .returned (.int .i64 (prt p s : Nat)) ∧ Below w.heap.size w w' := by
  have HR := Lib.hid hr
  have HL := Lib.hid hl
  clear hr hl
  go_enter Try.func17, Try.ntmps17
  go_wp2
  go_loopw [5, 7, 10] (fun nv _ iv wr => ∃ k d : Nat, k ≤ n ∧ iv = .int .i64 k ∧ nv = .int .i64 (prtK p s k : Nat) ∧ wr = w.drewN d) (fun _ _ i _ => n - (intOf i).toNat)
  case atStart => exact ⟨0, 0, by omega, rfl, rfl, rfl⟩
  case round =>
    obtain ⟨k, d, hk, rfl, rfl, hwr⟩ := hrel
    have HW := Lib.hid hwr
    clear hwr
    have HPL := Lib.hid (prtK_le p s k)
    by_cases h8 : k < n
    · have i1 : (k : Int) < (n : Int) := by omega
      have i0 : (0 : Int) ≤ (k : Int) := by omega
      obtain ⟨b, off, rfl, hlt, f0⟩ := rds_get HR.out (k := k) (by have := HL.out; omega)
      have g0 : wr.cell? ⟨b, off + k, none⟩ = some (.string (at_ p k)) := by rw [HW.out]; exact f0
      have hst : prtK p s (k + 1) = prtK p s k + (if lt s (at_ p k) = true then 0 else 1) := rfl
      obtain ⟨x, hx⟩ : ∃ x, x = at_ p k := ⟨_, rfl⟩
      rw [← hx] at g0 hst
      obtain ⟨q, hq⟩ : ∃ q, q = prtK p s k := ⟨_, rfl⟩
      have hq1 : q ≤ 1000 := by have := HPL.out; omega
      have hq2 : (0 : Int) ≤ (q : Int) := by omega
      have hq3 : (q : Int) ≤ 1000 := by omega
      rw [← hq] at hst ⊢
      have HST := Lib.hid hst
      clear hst hx f0 hq
      cases hv : lt s x
      · have hr : Hid (((prtK p s (k + 1) : Nat) : Int) = (q : Int) + 1) := Lib.hid (by rw [HST.out, hv]; simp)
        rcases le_facts s x hv with ⟨k1, k2⟩ | ⟨k1, k2⟩
        all_goals
          clear hv HST
          go_wp2
          refine ⟨⟨k + 1, d, by omega, by simp, by rw [hr.out], HW.out⟩, ?_⟩
          simp [intOf]
          omega
      · obtain ⟨k1, k2⟩ := gt_facts s x hv
        have hr : Hid (((prtK p s (k + 1) : Nat) : Int) = (q : Int)) := Lib.hid (by rw [HST.out, hv]; simp)
        clear hv HST
        go_wp2
        refine ⟨⟨k + 1, d, by omega, by simp, by rw [hr.out], HW.out⟩, ?_⟩
        simp [intOf]
        omega
    · have i1 : ¬ (k : Int) < (n : Int) := by omega
      have hr : Hid (prt p s = prtK p s k) := Lib.hid (by unfold prt; rw [HL.out]; congr 1; omega)
      go_wp2
      go_ret
      exact ⟨by rw [hr.out]; rfl, by rw [HW.out]; exact bel_drewN (Below.refl _ _) d⟩
end Go.Proofs.Ytngldfheneegcaa
