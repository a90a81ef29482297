/- The document's book: who is in; the least epoch. -/
import Derived.Test.YtlffigkjhhcohaaR2
namespace Go.Proofs.Ytlffigkjhhcohaa
set_option linter.unusedSimpArgs false
open Go.RowKit Go.Maps
set_option linter.unusedVariables false
variable {F : Nat → Prop}

def inR (b : RB) (who : Int) : Bool := decide (1 ≤ who) && decide (who ≤ 64) && b.inn who.toNat
set_option maxHeartbeats 1000000 in
theorem rin_any (cs : Array Value) (b : RB) (who : Int) (w : World) (hk : RBk F w cs b) :
    Calls Try.prog 27 #[.agg cs, .int .i64 who] w fun e w' => e = .returned (.bool (inR b who)) ∧ Below w.heap.size w w' := by
  by_cases h1 : 1 ≤ who ∧ who ≤ 64
  · obtain ⟨k, rfl⟩ : ∃ k : Nat, who = k := ⟨who.toNat, by omega⟩
    have hk64 : k < 65 := by omega
    have e2 : (w.alloc (.cells cs 32)).cell? ⟨w.heap.size, 2 + k, none⟩ = some (.bool (b.inn k)) := (box_cell w cs 32 (2 + k)).trans (hk.ci k hk64)
    have hr : inR b k = b.inn k := by unfold inR; rw [Int.toNat_natCast]; simp [h1.1, h1.2]
    rw [hr]
    have hk65 : (k : Int) < 65 := by omega
    have hk0 : (0 : Int) ≤ (k : Int) := by omega
    have hk1 : (1 : Int) ≤ (k : Int) := by omega
    have hk2 : (k : Int) ≤ 64 := by omega
    obtain ⟨r, hrr⟩ : ∃ r, r = b.inn k := ⟨_, rfl⟩
    rw [← hrr] at e2 ⊢
    clear hk hr h1 hrr
    go_enter Try.func27, Try.ntmps27
    go_wp2
    all_goals
      go_ret
      exact ⟨rfl, by go_grown⟩
  · have hr : inR b who = false := by unfold inR; simp; omega
    rw [hr]
    have hW : Below w.heap.size w (w.alloc (.cells cs 32)) := by go_grown
    clear hk hr
    by_cases h2 : 1 ≤ who
    · have h3 : ¬ who ≤ 64 := by omega
      clear h1
      go_enter Try.func27, Try.ntmps27
      go_wp2
      all_goals
        go_ret
        exact ⟨rfl, by go_grown⟩
    · clear h1
      go_enter Try.func27, Try.ntmps27
      go_wp2
      all_goals
        go_ret
        exact ⟨rfl, by go_grown⟩

/-- The least that was announced, of the first k - 1 sessions. -/
def leastR (b : RB) : Nat → Int
  | 0 => b.now
  | k + 1 => if b.inn (k + 1) = true ∧ b.said (k + 1) < leastR b k then b.said (k + 1) else leastR b k
set_option maxHeartbeats 1000000 in
theorem rleast_any (cs : Array Value) (b : RB) (w : World) (hk : RBk F w cs b) :
    Calls Try.prog 28 #[.agg cs] w fun e w' => e = .returned (.int .i64 (leastR b 64)) ∧ Below w.heap.size w w' := by
  have e1 : (w.alloc (.cells cs 32)).cell? ⟨w.heap.size, 1, none⟩ = some (.int .i64 b.now) := (box_cell w cs 32 1).trans hk.c1
  have HC : Hid (∀ i, i < 65 → (w.alloc (.cells cs 32)).cell? ⟨w.heap.size, 2 + i, none⟩ = some (.bool (b.inn i)) ∧ (w.alloc (.cells cs 32)).cell? ⟨w.heap.size, 67 + i, none⟩ = some (.int .i64 (b.said i))) :=
    Lib.hid (fun i hi => ⟨(box_cell w cs 32 _).trans (hk.ci i hi), (box_cell w cs 32 _).trans (hk.cs_ i hi)⟩)
  have HW : Hid (Below w.heap.size w (w.alloc (.cells cs 32))) := Lib.hid (by go_grown)
  clear hk
  go_enter Try.func28, Try.ntmps28
  go_wp2
  generalize (w.alloc (.cells cs 32)) = W at *
  go_loopw [3, 4] (fun lv iv wr => ∃ k d : Nat, k ≤ 64 ∧ iv = .int .i64 ((k + 1 : Nat) : Int) ∧ lv = .int .i64 (leastR b k) ∧ wr = W.drewN d) (fun _ i _ => 65 - (intOf i).toNat)
  case atStart => exact ⟨0, 0, by omega, rfl, rfl, rfl⟩
  case round =>
    obtain ⟨k, d, hk, rfl, rfl, hwr⟩ := hrel
    have HWR := Lib.hid hwr
    clear hwr
    by_cases h8 : k = 64
    · subst h8
      have HB : Hid (Below w.heap.size w wr) := Lib.hid (by rw [HWR.out]; exact bel_drewN HW.out d)
      go_wp2
      go_ret
      exact ⟨rfl, HB.out⟩
    · obtain ⟨c1, c2⟩ := HC.out (k + 1) (by omega)
      have hst : leastR b (k + 1) = if b.inn (k + 1) = true ∧ b.said (k + 1) < leastR b k then b.said (k + 1) else leastR b k := rfl
      have d1 : wr.cell? ⟨w.heap.size, 2 + (k + 1), none⟩ = some (.bool (b.inn (k + 1))) := by rw [HWR.out]; exact c1
      have d2 : wr.cell? ⟨w.heap.size, 67 + (k + 1), none⟩ = some (.int .i64 (b.said (k + 1))) := by rw [HWR.out]; exact c2
      obtain ⟨ll, hll⟩ : ∃ l, l = leastR b k := ⟨_, rfl⟩
      rw [← hll] at hst ⊢
      obtain ⟨x, hx⟩ : ∃ x, x = b.inn (k + 1) := ⟨_, rfl⟩
      obtain ⟨y, hy⟩ : ∃ y, y = b.said (k + 1) := ⟨_, rfl⟩
      rw [← hx] at d1 hst
      rw [← hy] at d2 hst
      have HST := Lib.hid hst
      have i1 : ((k + 1 : Nat) : Int) ≤ 64 := by omega
      have i2 : ((k + 1 : Nat) : Int) < 65 := by omega
      have i3 : (0 : Int) ≤ ((k + 1 : Nat) : Int) := by omega
      obtain ⟨j, hj⟩ : ∃ j, j = k + 1 := ⟨_, rfl⟩
      rw [← hj] at d1 d2 i1 i2 i3 HST ⊢
      have HJ := Lib.hid hj
      clear c1 c2 hst hll hx hy hj
      cases x
      · have hr : Hid (leastR b j = ll) := Lib.hid (by rw [HST.out]; simp)
        clear HST
        go_wp2_with fail
        exact ⟨⟨j, d, by omega, by simp, by rw [hr.out], HWR.out⟩, by simp [intOf]; omega⟩
      · by_cases hlt : y < ll
        · have hr : Hid (leastR b j = y) := Lib.hid (by rw [HST.out]; simp [hlt])
          clear HST
          go_wp2_with fail
          exact ⟨⟨j, d, by omega, by simp, by rw [hr.out], HWR.out⟩, by simp [intOf]; omega⟩
        · have hr : Hid (leastR b j = ll) := Lib.hid (by rw [HST.out]; simp [hlt])
          clear HST
          go_wp2_with fail
          exact ⟨⟨j, d, by omega, by simp, by rw [hr.out], HWR.out⟩, by simp [intOf]; omega⟩
end Go.Proofs.Ytlffigkjhhcohaa
