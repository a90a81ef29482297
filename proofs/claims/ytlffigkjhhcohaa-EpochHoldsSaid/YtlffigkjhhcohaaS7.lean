/- Is something retired by deeds? -/
import Derived.Test.YtlffigkjhhcohaaS6
namespace Go.Proofs.Ytlffigkjhhcohaa
set_option linter.unusedSimpArgs false
open Go.RowKit Go.Maps
set_option linter.unusedVariables false

/-- Deeds in memory: n of them. -/
def Deeds (w : World) (A : Option Addr) (n : Nat) (d0 d1 d2 : Nat → Int) : Prop :=
  n = 0 ∨ ∃ b off, A = some ⟨b, off, none⟩ ∧ b < w.heap.size ∧ ∀ i, i < n → (w.cell? ⟨b, off + i * 3, none⟩ = some (.int .i64 (d0 i)) ∧ w.cell? ⟨b, off + i * 3 + 1, none⟩ = some (.int .i64 (d1 i)) ∧ w.cell? ⟨b, off + i * 3 + 2, none⟩ = some (.int .i64 (d2 i))) ∧ (Lit.int .i64 (d0 i)).wf = true ∧ (Lit.int .i64 (d1 i)).wf = true ∧ (Lit.int .i64 (d2 i)).wf = true
theorem Deeds.at_ {w : World} {A : Option Addr} {n : Nat} {d0 d1 d2 : Nat → Int} (h : Deeds w A n d0 d1 d2) {i : Nat} (hi : i < n) : ∃ b off, A = some ⟨b, off, none⟩ ∧ b < w.heap.size ∧ (w.cell? ⟨b, off + i * 3, none⟩ = some (.int .i64 (d0 i)) ∧ w.cell? ⟨b, off + i * 3 + 1, none⟩ = some (.int .i64 (d1 i)) ∧ w.cell? ⟨b, off + i * 3 + 2, none⟩ = some (.int .i64 (d2 i))) ∧ (Lit.int .i64 (d0 i)).wf = true ∧ (Lit.int .i64 (d1 i)).wf = true ∧ (Lit.int .i64 (d2 i)).wf = true := by
  rcases h with h | ⟨b, off, h1, h2, h3⟩
  · omega
  · exact ⟨b, off, h1, h2, h3 i hi⟩
theorem Deeds.low {w w' : World} {A : Option Addr} {n : Nat} {d0 d1 d2 : Nat → Int} (h : Deeds w A n d0 d1 d2) (hb : Below w.heap.size w w') : Deeds w' A n d0 d1 d2 := by
  rcases h with h | ⟨b, off, h1, h2, h3⟩
  · exact .inl h
  · refine .inr ⟨b, off, h1, Nat.lt_of_lt_of_le h2 hb.size, fun i hi => ?_⟩
    obtain ⟨⟨a, b', c⟩, r⟩ := h3 i hi
    exact ⟨⟨bel_later hb a, bel_later hb b', bel_later hb c⟩, r⟩
/-- Is x retired by the first k? -/
def heldB (d0 d2 : Nat → Int) (x : Int) : Nat → Bool
  | 0 => false
  | k + 1 => heldB d0 d2 x k || (decide (d0 k = 2) && decide (d2 k = x))
theorem held_more {d0 d2 : Nat → Int} {x : Int} {k : Nat} (h : heldB d0 d2 x k = true) : ∀ j, k ≤ j → heldB d0 d2 x j = true := by
  intro j hj
  induction j with
  | zero =>
    have e : k = 0 := by omega
    subst e; exact h
  | succ j ih =>
    by_cases e : k = j + 1
    · subst e; exact h
    · simp [heldB, ih (by omega)]
set_option maxHeartbeats 1000000 in
theorem held_any (A : Option Addr) (n cap : Nat) (d0 d1 d2 : Nat → Int) (x : Int) (w : World) (hD : Deeds w A n d0 d1 d2) (hn : n ≤ maxLen) :
    Calls Try.prog 17 #[.slice A n cap, .int .i64 x] w fun e w' => e = .returned (.bool (heldB d0 d2 x (min n 60))) ∧ Below w.heap.size w w' := by
  have HD := Lib.hid hD
  clear hD
  go_enter Try.func17, Try.ntmps17
  go_wp2
  go_loopw [5] (fun iv wr => ∃ k d : Nat, k ≤ min n 60 ∧ iv = .int .i64 k ∧ heldB d0 d2 x k = false ∧ wr = w.drewN d) (fun i _ => 60 - (intOf i).toNat)
  case atStart => exact ⟨0, 0, by omega, rfl, rfl, rfl⟩
  case round =>
    obtain ⟨k, d, hk, rfl, hh, hwr⟩ := hrel
    have HH := Lib.hid hh
    have HW := Lib.hid hwr
    clear hh hwr
    by_cases h8 : k < n
    · have hk1 : (k : Int) < (n : Int) := by omega
      have hk0 : (0 : Int) ≤ (k : Int) := by omega
      by_cases h9 : k < 60
      · have hk2 : (k : Int) < 60 := by omega
        obtain ⟨b, off, rfl, hlt, ⟨c0, c1, c2⟩, _⟩ := HD.out.at_ h8
        have f0 : wr.cell? ⟨b, off + k * 3, none⟩ = some (.int .i64 (d0 k)) := by rw [HW.out]; exact c0
        have f2 : wr.cell? ⟨b, off + k * 3 + 2, none⟩ = some (.int .i64 (d2 k)) := by rw [HW.out]; exact c2
        obtain ⟨y, hy⟩ : ∃ y, y = d0 k := ⟨_, rfl⟩
        obtain ⟨z, hz⟩ : ∃ z, z = d2 k := ⟨_, rfl⟩
        rw [← hy] at f0
        rw [← hz] at f2
        have hst : heldB d0 d2 x (k + 1) = (decide (y = 2) && decide (z = x)) := by simp only [heldB, HH.out, Bool.false_or, hy, hz]
        have HST := Lib.hid hst
        clear hst hy hz c0 c1 c2
        by_cases e1 : y = 2
        · subst e1
          by_cases e2 : z = x
          · subst e2
            have hr : Hid (heldB d0 d2 z (min n 60) = true) := Lib.hid (held_more (k := k + 1) (by rw [HST.out]; simp) _ (by omega))
            go_wp2_with fail
            go_ret
            exact ⟨retB_eq hr.out, by rw [HW.out]; exact bel_drewN (Below.refl _ _) d⟩
          · have hr : Hid (heldB d0 d2 x (k + 1) = false) := Lib.hid (by rw [HST.out]; simp [e2])
            clear HST
            go_wp2_with fail
            exact ⟨⟨k + 1, d, by omega, by simp, hr.out, HW.out⟩, by simp [intOf]; omega⟩
        · have hr : Hid (heldB d0 d2 x (k + 1) = false) := Lib.hid (by rw [HST.out]; simp [e1])
          clear HST
          go_wp2_with fail
          exact ⟨⟨k + 1, d, by omega, by simp, hr.out, HW.out⟩, by simp [intOf]; omega⟩
      · have hk2 : ¬ (k : Int) < 60 := by omega
        have hr : Hid (heldB d0 d2 x (min n 60) = false) := Lib.hid (by have e : min n 60 = k := by omega
                                                                        rw [e]; exact HH.out)
        go_wp2_with fail
        go_ret
        exact ⟨retB_eq hr.out, by rw [HW.out]; exact bel_drewN (Below.refl _ _) d⟩
    · have hk1 : ¬ (k : Int) < (n : Int) := by omega
      have hr : Hid (heldB d0 d2 x (min n 60) = false) := Lib.hid (by have e : min n 60 = k := by omega
                                                                      rw [e]; exact HH.out)
      go_wp2_with fail
      go_ret
      exact ⟨retB_eq hr.out, by rw [HW.out]; exact bel_drewN (Below.refl _ _) d⟩
end Go.Proofs.Ytlffigkjhhcohaa
