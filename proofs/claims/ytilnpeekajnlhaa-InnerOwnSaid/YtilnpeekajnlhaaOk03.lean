/- Texts of the proof, one behind the other. -/
import Derived.Test.YtilnpeekajnlhaaOk01
import Derived.Test.YtilnpeekajnlhaaOk02
set_option linter.unusedVariables false
set_option linter.unusedSimpArgs false
namespace Go.Proofs.Ytilnpeekajnlhaa.Pv
open Go.RowKit

theorem retB_eq {a b : Bool} (h : b = a) : Ending.returned (.bool a) = Ending.returned (.bool b) := by rw [h]
/-- Texts behind a slice. -/
abbrev RdS (w : World) (A : Option Addr) (p : List ByteArray) : Prop := Rd w w.heap.size A (p.map Value.string)
def at_ (p : List ByteArray) (i : Nat) : ByteArray := p.getD i emptyS
theorem rds_get {w : World} {A : Option Addr} {p : List ByteArray} (h : RdS w A p) {k : Nat} (hk : k < p.length) : ∃ b off, A = some ⟨b, off, none⟩ ∧ b < w.heap.size ∧ w.cell? ⟨b, off + k, none⟩ = some (.string (at_ p k)) := by
  have := Rd.get h (k := k) (u := .string (at_ p k)) (by rw [List.getElem?_map, List.getElem?_eq_getElem hk, at_, List.getD_eq_getElem?_getD, List.getElem?_eq_getElem hk]; rfl)
  exact this
def riseK (p : List ByteArray) : Nat → Bool
  | 0 => true
  | k + 1 => riseK p k && (decide (k = 0) || lt (at_ p (k - 1)) (at_ p k))
def risesB (p : List ByteArray) : Bool := riseK p p.length
theorem rise_less {p : List ByteArray} {k : Nat} (h : riseK p k = false) : ∀ j, k ≤ j → riseK p j = false := by
  intro j hj
  induction j with
  | zero =>
    have e : k = 0 := by omega
    subst e; exact h
  | succ j ih =>
    by_cases e : k = j + 1
    · subst e; exact h
    · simp [riseK, ih (by omega)]
set_option maxHeartbeats 1000000 in
theorem rises_any (A : Option Addr) (p : List ByteArray) (n c : Nat) (w : World) (hl : p.length = n) (hn : n ≤ 1000) (hr : RdS w A p) :
    Calls Try.prog 78 #[.slice A n c] w fun e w' => e = .returned (.bool (risesB p)) ∧ Below w.heap.size w w' := by
  have HR := Lib.hid hr
  have HL := Lib.hid hl
  clear hr hl
  go_enter Try.func78, Try.ntmps78
  go_wp2
  go_loopw [3] (fun iv wr => ∃ k d : Nat, 1 ≤ k ∧ (k ≤ n ∨ k = 1) ∧ iv = .int .i64 k ∧ riseK p k = true ∧ wr = w.drewN d) (fun i _ => n + 1 - (intOf i).toNat)
  case atStart => exact ⟨1, 0, by omega, by omega, rfl, rfl, rfl⟩
  case round =>
    obtain ⟨k, d, hk1, hk, rfl, hh, hwr⟩ := hrel
    have HH := Lib.hid hh
    have HW := Lib.hid hwr
    clear hh hwr
    by_cases h8 : k < n
    · have i1 : (k : Int) < (n : Int) := by omega
      have i0 : (0 : Int) ≤ (k : Int) := by omega
      have i2 : (0 : Int) ≤ (k : Int) - 1 := by omega
      have i3 : (k : Int) - 1 < (n : Int) := by omega
      obtain ⟨b, off, rfl, hlt, f0⟩ := rds_get HR.out (k := k) (by have := HL.out; omega)
      obtain ⟨b2, off2, e2, _, f1⟩ := rds_get HR.out (k := k - 1) (by have := HL.out; omega)
      cases e2
      have g0 : wr.cell? ⟨b, off + k, none⟩ = some (.string (at_ p k)) := by rw [HW.out]; exact f0
      have g1 : wr.cell? ⟨b, off + (k - 1), none⟩ = some (.string (at_ p (k - 1))) := by rw [HW.out]; exact f1
      have e3 : ((k : Int) - 1).toNat = k - 1 := by omega
      have hst : riseK p (k + 1) = (riseK p k && (decide (k = 0) || lt (at_ p (k - 1)) (at_ p k))) := rfl
      have hk0 : decide (k = 0) = false := by simp; omega
      rw [HH.out, hk0, Bool.true_and, Bool.false_or] at hst
      obtain ⟨x, hx⟩ : ∃ x, x = at_ p k := ⟨_, rfl⟩
      obtain ⟨y, hy⟩ : ∃ y, y = at_ p (k - 1) := ⟨_, rfl⟩
      rw [← hx] at g0 hst
      rw [← hy] at g1 hst
      have HST := Lib.hid hst
      clear hst hx hy f0 f1 hk0
      cases hq : lt y x
      · have hr : Hid (risesB p = false) := Lib.hid (rise_less (k := k + 1) (by rw [HST.out, hq]) _ (by have := HL.out; omega))
        rcases le_facts y x hq with ⟨k1, k2⟩ | ⟨k1, k2⟩
        all_goals
          have k3 := (BEq.comm (a := y.toList) (b := x.toList)).trans k2
          have k4 : Op.bytesLess y.toList x.toList = false := hq
          clear hq
          go_wp2_with fail
          go_quiet (fail)
          go_wp2
          go_ret
          exact ⟨retB_eq hr.out, by rw [HW.out, World.drewN_drewN]; exact bel_drewN (Below.refl _ _) _⟩
      · obtain ⟨k1, k2⟩ := gt_facts y x hq
        have k3 := (BEq.comm (a := y.toList) (b := x.toList)).trans k2
        have k4 : Op.bytesLess y.toList x.toList = true := hq
        have hr : Hid (riseK p (k + 1) = true) := Lib.hid (by rw [HST.out, hq])
        clear hq
        go_wp2_with fail
        go_quiet (fail)
        go_wp2
        exact ⟨⟨k + 1, d + nq, by omega, by omega, by simp, hr.out, by rw [HW.out, World.drewN_drewN]⟩, by simp [intOf]; omega⟩
    · have i1 : ¬ (k : Int) < (n : Int) := by omega
      have hr : Hid (risesB p = true) := Lib.hid (by
        unfold risesB
        rw [HL.out]
        rcases Nat.eq_zero_or_pos n with h | h
        · rw [h]; rfl
        · have e : k = n := by omega
          rw [← e]; exact HH.out)
      go_wp2
      go_ret
      exact ⟨retB_eq hr.out, by rw [HW.out]; exact bel_drewN (Below.refl _ _) d⟩
set_option maxHeartbeats 1000000 in
theorem rrises_any (A : Option Addr) (p : List ByteArray) (n c : Nat) (w : World) (hl : p.length = n) (hn : n ≤ 1000) (hr : RdS w A p) :
    Calls Try.prog 65 #[.slice A n c] w fun e w' => e = .returned (.bool (risesB p)) ∧ Below w.heap.size w w' := by
  have HR := Lib.hid hr
  have HL := Lib.hid hl
  clear hr hl
  go_enter Try.func65, Try.ntmps65
  go_wp2
  go_loopw [3] (fun iv wr => ∃ k d : Nat, 1 ≤ k ∧ (k ≤ n ∨ k = 1) ∧ iv = .int .i64 k ∧ riseK p k = true ∧ wr = w.drewN d) (fun i _ => n + 1 - (intOf i).toNat)
  case atStart => exact ⟨1, 0, by omega, by omega, rfl, rfl, rfl⟩
  case round =>
    obtain ⟨k, d, hk1, hk, rfl, hh, hwr⟩ := hrel
    have HH := Lib.hid hh
    have HW := Lib.hid hwr
    clear hh hwr
    by_cases h8 : k < n
    · have i1 : (k : Int) < (n : Int) := by omega
      have i0 : (0 : Int) ≤ (k : Int) := by omega
      have i2 : (0 : Int) ≤ (k : Int) - 1 := by omega
      have i3 : (k : Int) - 1 < (n : Int) := by omega
      obtain ⟨b, off, rfl, hlt, f0⟩ := rds_get HR.out (k := k) (by have := HL.out; omega)
      obtain ⟨b2, off2, e2, _, f1⟩ := rds_get HR.out (k := k - 1) (by have := HL.out; omega)
      cases e2
      have g0 : wr.cell? ⟨b, off + k, none⟩ = some (.string (at_ p k)) := by rw [HW.out]; exact f0
      have g1 : wr.cell? ⟨b, off + (k - 1), none⟩ = some (.string (at_ p (k - 1))) := by rw [HW.out]; exact f1
      have e3 : ((k : Int) - 1).toNat = k - 1 := by omega
      have hst : riseK p (k + 1) = (riseK p k && (decide (k = 0) || lt (at_ p (k - 1)) (at_ p k))) := rfl
      have hk0 : decide (k = 0) = false := by simp; omega
      rw [HH.out, hk0, Bool.true_and, Bool.false_or] at hst
      obtain ⟨x, hx⟩ : ∃ x, x = at_ p k := ⟨_, rfl⟩
      obtain ⟨y, hy⟩ : ∃ y, y = at_ p (k - 1) := ⟨_, rfl⟩
      rw [← hx] at g0 hst
      rw [← hy] at g1 hst
      have HST := Lib.hid hst
      clear hst hx hy f0 f1 hk0
      cases hq : lt y x
      · have hr : Hid (risesB p = false) := Lib.hid (rise_less (k := k + 1) (by rw [HST.out, hq]) _ (by have := HL.out; omega))
        rcases le_facts y x hq with ⟨k1, k2⟩ | ⟨k1, k2⟩
        all_goals
          have k3 := (BEq.comm (a := y.toList) (b := x.toList)).trans k2
          have k4 : Op.bytesLess y.toList x.toList = false := hq
          clear hq
          go_wp2_with fail
          go_quiet (fail)
          go_wp2
          go_ret
          exact ⟨retB_eq hr.out, by rw [HW.out, World.drewN_drewN]; exact bel_drewN (Below.refl _ _) _⟩
      · obtain ⟨k1, k2⟩ := gt_facts y x hq
        have k3 := (BEq.comm (a := y.toList) (b := x.toList)).trans k2
        have k4 : Op.bytesLess y.toList x.toList = true := hq
        have hr : Hid (riseK p (k + 1) = true) := Lib.hid (by rw [HST.out, hq])
        clear hq
        go_wp2_with fail
        go_quiet (fail)
        go_wp2
        exact ⟨⟨k + 1, d + nq, by omega, by omega, by simp, hr.out, by rw [HW.out, World.drewN_drewN]⟩, by simp [intOf]; omega⟩
    · have i1 : ¬ (k : Int) < (n : Int) := by omega
      have hr : Hid (risesB p = true) := Lib.hid (by
        unfold risesB
        rw [HL.out]
        rcases Nat.eq_zero_or_pos n with h | h
        · rw [h]; rfl
        · have e : k = n := by omega
          rw [← e]; exact HH.out)
      go_wp2
      go_ret
      exact ⟨retB_eq hr.out, by rw [HW.out]; exact bel_drewN (Below.refl _ _) d⟩
end Go.Proofs.Ytilnpeekajnlhaa.Pv
namespace Go.Proofs.Ytilnpeekajnlhaa.Pv
open Go.RowKit

def prtK (p : List ByteArray) (s : ByteArray) : Nat → Nat
  | 0 => 0
  | k + 1 => prtK p s k + (if lt s (at_ p k) = true then 0 else 1)
def prt (p : List ByteArray) (s : ByteArray) : Nat := prtK p s p.length
theorem prtK_le (p : List ByteArray) (s : ByteArray) : ∀ k, prtK p s k ≤ k
  | 0 => Nat.le_refl _
  | k + 1 => by have := prtK_le p s k; simp only [prtK]; split <;> omega
set_option maxHeartbeats 1000000 in
theorem part_any (A : Option Addr) (p : List ByteArray) (n c : Nat) (s : ByteArray) (w : World) (hl : p.length = n) (hn : n ≤ 1000) (hr : RdS w A p) :
    Calls Try.prog 71 #[.slice A n c, .string s] w fun e w' => e = .returned (.int .i64 (prt p s : Nat)) ∧ Below w.heap.size w w' := by
  have HR := Lib.hid hr
  have HL := Lib.hid hl
  clear hr hl
  go_enter Try.func71, Try.ntmps71
  go_wp2
  go_loopw [5, 7, 10] (fun nv _ iv wr => ∃ k d : Nat, k ≤ n ∧ iv = .int .i64 k ∧ nv = .int .i64 (prtK p s k : Nat) ∧ wr = w.drewN d) (fun _ _ i _ => n - (intOf i).toNat)
  case atStart => exact ⟨0, 0, by omega, rfl, rfl, rfl⟩
  case round =>
    obtain ⟨k, d, hk, rfl, rfl, hwr⟩ := hrel
    have HW := Lib.hid hwr
    clear hwr
    have HPL := Lib.hid (prtK_le p s k)
    by_cases h8 : k < n
    · have i1 : (k : Int) < (n : Int) := by omega
      have i0 : (0 : Int) ≤ (k : Int) := by omega
      obtain ⟨b, off, rfl, hlt, f0⟩ := rds_get HR.out (k := k) (by have := HL.out; omega)
      have g0 : wr.cell? ⟨b, off + k, none⟩ = some (.string (at_ p k)) := by rw [HW.out]; exact f0
      have hst : prtK p s (k + 1) = prtK p s k + (if lt s (at_ p k) = true then 0 else 1) := rfl
      obtain ⟨x, hx⟩ : ∃ x, x = at_ p k := ⟨_, rfl⟩
      rw [← hx] at g0 hst
      obtain ⟨q, hq⟩ : ∃ q, q = prtK p s k := ⟨_, rfl⟩
      have hq1 : q ≤ 1000 := by have := HPL.out; omega
      have hq2 : (0 : Int) ≤ (q : Int) := by omega
      have hq3 : (q : Int) ≤ 1000 := by omega
      rw [← hq] at hst ⊢
      have HST := Lib.hid hst
      clear hst hx f0 hq
      cases hv : lt s x
      · have hr : Hid (((prtK p s (k + 1) : Nat) : Int) = (q : Int) + 1) := Lib.hid (by rw [HST.out, hv]; simp)
        rcases le_facts s x hv with ⟨k1, k2⟩ | ⟨k1, k2⟩
        all_goals
          clear hv HST
          go_wp2
          refine ⟨⟨k + 1, d, by omega, by simp, by rw [hr.out], HW.out⟩, ?_⟩
          simp [intOf]
          omega
      · obtain ⟨k1, k2⟩ := gt_facts s x hv
        have hr : Hid (((prtK p s (k + 1) : Nat) : Int) = (q : Int)) := Lib.hid (by rw [HST.out, hv]; simp)
        clear hv HST
        go_wp2
        refine ⟨⟨k + 1, d, by omega, by simp, by rw [hr.out], HW.out⟩, ?_⟩
        simp [intOf]
        omega
    · have i1 : ¬ (k : Int) < (n : Int) := by omega
      have hr : Hid (prt p s = prtK p s k) := Lib.hid (by unfold prt; rw [HL.out]; congr 1; omega)
      go_wp2
      go_ret
      exact ⟨by rw [hr.out]; rfl, by rw [HW.out]; exact bel_drewN (Below.refl _ _) d⟩

end Go.Proofs.Ytilnpeekajnlhaa.Pv
