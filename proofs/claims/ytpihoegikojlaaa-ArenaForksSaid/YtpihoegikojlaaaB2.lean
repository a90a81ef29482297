/- The document's arena, by value: how many are taken; is a place taken? -/
import Derived.Test.YtpihoegikojlaaaB1
namespace Go.Proofs.Ytpihoegikojlaaa
set_option linter.unusedSimpArgs false
open Go.RowKit Go.Maps
set_option linter.unusedVariables false
variable {F : Nat → Prop}

/-- An arena. -/
structure AB where
  most : Int
  top : Nat
  tk : Nat → Bool
  vl : Nat → Int
  bk : List Int
/-- How many of the first places are taken. -/
def cnt (tk : Nat → Bool) : Nat → Nat
  | 0 => 0
  | k + 1 => if tk k = true then cnt tk k + 1 else cnt tk k
theorem cnt_le (tk : Nat → Bool) (k : Nat) : cnt tk k ≤ k := by
  induction k with
  | zero => exact Nat.le_refl _
  | succ k ih => unfold cnt; split <;> omega
/-- A row that lies outside the blocks F. -/
def RdF (F : Nat → Prop) (w : World) (A : Option Addr) (l : List Int) : Prop := RdI w A l ∧ (l = [] ∨ ∀ a, A = some a → ¬ F a.block)
theorem RdF.later {w w' : World} {A : Option Addr} {l : List Int} (h : RdF F w A l) (hb : Below w.heap.size w w') : RdF F w' A l := ⟨Rd.later h.1 hb, h.2⟩
/-- An arena's cells. -/
structure RBk (F : Nat → Prop) (w : World) (cs : Array Value) (b : AB) : Prop where
  size : cs.size = 131
  one : cs.all (·.oneCell') = true
  c0 : cs[0]? = some (.int .i64 b.most)
  c1 : cs[1]? = some (.int .i64 b.top)
  ct : ∀ i, i < 64 → cs[2 + i]? = some (.bool (b.tk i))
  cv : ∀ i, i < 64 → cs[66 + i]? = some (.int .i64 (b.vl i))
  cb : ∃ A c, cs[130]? = some (.slice A b.bk.length c) ∧ b.bk.length ≤ c ∧ RdF F w A b.bk
theorem RBk.later {w w' : World} {cs : Array Value} {b : AB} (h : RBk F w cs b) (hb : Below w.heap.size w w') : RBk F w' cs b := by
  obtain ⟨h1, h2, h3, h4, h5, h6, ⟨A, c, h7, h9, h8⟩⟩ := h
  exact ⟨h1, h2, h3, h4, h5, h6, ⟨A, c, h7, h9, h8.later hb⟩⟩
theorem box_cell (w : World) (cs : Array Value) (t : TypeId) (j : Nat) : (w.alloc (.cells cs t)).cell? ⟨w.heap.size, j, none⟩ = cs[j]? := cell_of_row _ _ _ cs t (0, 0) (heap_alloc_new w _)

set_option maxHeartbeats 1000000 in
theorem dlen_any (cs : Array Value) (b : AB) (w : World) (hk : RBk F w cs b) :
    Calls Try.prog 31 #[.agg cs] w fun e w' => e = .returned (.int .i64 (cnt b.tk 64)) ∧ Below w.heap.size w w' := by
  have HC : Hid (∀ i, i < 64 → (w.alloc (.cells cs 33)).cell? ⟨w.heap.size, 2 + i, none⟩ = some (.bool (b.tk i))) :=
    Lib.hid (fun i hi => (box_cell w cs 33 _).trans (hk.ct i hi))
  have HW : Hid (Below w.heap.size w (w.alloc (.cells cs 33))) := Lib.hid (by go_grown)
  clear hk
  go_enter Try.func31, Try.ntmps31
  go_wp2
  generalize (w.alloc (.cells cs 33)) = W at *
  go_loopw [3, 4] (fun lv iv wr => ∃ k d : Nat, k ≤ 64 ∧ iv = .int .i64 k ∧ lv = .int .i64 (cnt b.tk k) ∧ wr = W.drewN d) (fun _ i _ => 64 - (intOf i).toNat)
  case atStart => exact ⟨0, 0, by omega, rfl, rfl, rfl⟩
  case round =>
    obtain ⟨k, d, hk, rfl, rfl, hwr⟩ := hrel
    have HWR := Lib.hid hwr
    clear hwr
    by_cases h8 : k = 64
    · subst h8
      have HB : Hid (Below w.heap.size w wr) := Lib.hid (by rw [HWR.out]; exact bel_drewN HW.out d)
      go_wp2
      go_ret
      exact ⟨rfl, HB.out⟩
    · have c1 := HC.out k (by omega)
      have hst : cnt b.tk (k + 1) = if b.tk k = true then cnt b.tk k + 1 else cnt b.tk k := rfl
      have d1 : wr.cell? ⟨w.heap.size, 2 + k, none⟩ = some (.bool (b.tk k)) := by rw [HWR.out]; exact c1
      have hcl := cnt_le b.tk k
      obtain ⟨ll, hll⟩ : ∃ l, l = cnt b.tk k := ⟨_, rfl⟩
      rw [← hll] at hst hcl ⊢
      obtain ⟨x, hx⟩ : ∃ x, x = b.tk k := ⟨_, rfl⟩
      rw [← hx] at d1 hst
      have HST := Lib.hid hst
      have i2 : (k : Int) < 64 := by omega
      have i3 : (0 : Int) ≤ (k : Int) := by omega
      clear c1 hst hll hx
      cases x
      · have hr : Hid (cnt b.tk (k + 1) = ll) := Lib.hid (by rw [HST.out]; simp)
        clear HST
        go_wp2_with fail
        exact ⟨⟨k + 1, d, by omega, by simp, by rw [hr.out], HWR.out⟩, by simp [intOf]; omega⟩
      · have hr : Hid (cnt b.tk (k + 1) = ll + 1) := Lib.hid (by rw [HST.out]; simp)
        clear HST
        go_wp2_with fail
        exact ⟨⟨k + 1, d, by omega, by simp, by rw [hr.out]; simp, HWR.out⟩, by simp [intOf]; omega⟩

def thereD (b : AB) (i : Int) : Bool := decide (1 ≤ i) && decide (i < 64) && b.tk i.toNat
theorem there_in {b : AB} {i : Int} (h : thereD b i = true) : 1 ≤ i ∧ i < 64 ∧ b.tk i.toNat = true := by
  unfold thereD at h; simp at h; exact ⟨h.1.1, h.1.2, h.2⟩
theorem there_nat {b : AB} {k : Nat} (h1 : 1 ≤ k) (h2 : k < 64) : thereD b (k : Int) = b.tk k := by
  unfold thereD
  rw [decide_eq_true (by omega), decide_eq_true (by omega), Int.toNat_natCast]; rfl
set_option maxHeartbeats 1000000 in
theorem there_any (cs : Array Value) (b : AB) (who : Int) (w : World) (hk : RBk F w cs b) :
    Calls Try.prog 30 #[.agg cs, .int .i64 who] w fun e w' => e = .returned (.bool (thereD b who)) ∧ Below w.heap.size w w' := by
  by_cases h1 : 1 ≤ who ∧ who < 64
  · obtain ⟨k, rfl⟩ : ∃ k : Nat, who = k := ⟨who.toNat, by omega⟩
    have hk64 : k < 64 := by omega
    have e2 : (w.alloc (.cells cs 33)).cell? ⟨w.heap.size, 2 + k, none⟩ = some (.bool (b.tk k)) := (box_cell w cs 33 (2 + k)).trans (hk.ct k hk64)
    have hr : thereD b k = b.tk k := there_nat (by omega) hk64
    rw [hr]
    have hk65 : (k : Int) < 64 := by omega
    have hk0 : (0 : Int) ≤ (k : Int) := by omega
    have hk1 : (1 : Int) ≤ (k : Int) := by omega
    obtain ⟨r, hrr⟩ : ∃ r, r = b.tk k := ⟨_, rfl⟩
    rw [← hrr] at e2 ⊢
    clear hk hr h1 hrr
    go_enter Try.func30, Try.ntmps30
    go_wp2
    all_goals
      go_ret
      exact ⟨rfl, by go_grown⟩
  · have hr : thereD b who = false := by unfold thereD; simp; omega
    rw [hr]
    have hW : Below w.heap.size w (w.alloc (.cells cs 33)) := by go_grown
    clear hk hr
    by_cases h2 : 1 ≤ who
    · have h3 : ¬ who < 64 := by omega
      clear h1
      go_enter Try.func30, Try.ntmps30
      go_wp2
      all_goals
        go_ret
        exact ⟨rfl, by go_grown⟩
    · clear h1
      go_enter Try.func30, Try.ntmps30
      go_wp2
      all_goals
        go_ret
        exact ⟨rfl, by go_grown⟩
end Go.Proofs.Ytpihoegikojlaaa
