/- The document's book, by value: words; may it be asked? -/
import Derived.Test.YtlffigkjhhcohaaA1
namespace Go.Proofs.Ytlffigkjhhcohaa
set_option linter.unusedSimpArgs false
open Go.RowKit Go.Maps
set_option linter.unusedVariables false
variable {F : Nat → Prop}

/-- The document's book. -/
structure RB where
  ss : Int
  now : Int
  inn : Nat → Bool
  said : Nat → Int
  wl : List Int
  al : List Int
/-- A row that lies outside the blocks F. -/
def RdF (F : Nat → Prop) (w : World) (A : Option Addr) (l : List Int) : Prop := RdI w A l ∧ (l = [] ∨ ∀ a, A = some a → ¬ F a.block)
theorem RdF.later {w w' : World} {A : Option Addr} {l : List Int} (h : RdF F w A l) (hb : Below w.heap.size w w') : RdF F w' A l := ⟨Rd.later h.1 hb, h.2⟩
/-- A book's cells. -/
structure RBk (F : Nat → Prop) (w : World) (cs : Array Value) (b : RB) : Prop where
  size : cs.size = 134
  one : cs.all (·.oneCell') = true
  c0 : cs[0]? = some (.int .i64 b.ss)
  c1 : cs[1]? = some (.int .i64 b.now)
  ci : ∀ i, i < 65 → cs[2 + i]? = some (.bool (b.inn i))
  cs_ : ∀ i, i < 65 → cs[67 + i]? = some (.int .i64 (b.said i))
  cw : ∃ A c, cs[132]? = some (.slice A b.wl.length c) ∧ RdF F w A b.wl
  ca : ∃ A c, cs[133]? = some (.slice A b.al.length c) ∧ RdF F w A b.al
theorem RBk.later {w w' : World} {cs : Array Value} {b : RB} (h : RBk F w cs b) (hb : Below w.heap.size w w') : RBk F w' cs b := by
  obtain ⟨h1, h2, h3, h4, h5, h6, ⟨A, c, h7, h8⟩, ⟨A', c', h9, h10⟩⟩ := h
  exact ⟨h1, h2, h3, h4, h5, h6, ⟨A, c, h7, h8.later hb⟩, ⟨A', c', h9, h10.later hb⟩⟩
theorem box_cell (w : World) (cs : Array Value) (t : TypeId) (j : Nat) : (w.alloc (.cells cs t)).cell? ⟨w.heap.size, j, none⟩ = cs[j]? := cell_of_row _ _ _ cs t (0, 0) (heap_alloc_new w _)

def askR (b : RB) (who : Int) (f : Bool) : Int := if who < 1 then 2 else if b.ss < who then 2 else if b.inn who.toNat = f then 0 else 15

set_option maxHeartbeats 1000000 in
theorem rask_any (cs : Array Value) (b : RB) (who : Int) (f : Bool) (w : World) (hk : RBk F w cs b) (hs : b.ss ≤ 64) :
    Calls Try.prog 30 #[.agg cs, .int .i64 who, .bool f] w fun e w' => e = .returned (.int .i64 (askR b who f)) ∧ Below w.heap.size w w' := by
  have e0 : (w.alloc (.cells cs 32)).cell? ⟨w.heap.size, 0, none⟩ = some (.int .i64 b.ss) := (box_cell w cs 32 0).trans hk.c0
  have hW : Below w.heap.size w (w.alloc (.cells cs 32)) := by go_grown
  unfold askR
  by_cases h1 : who < 1
  · rw [if_pos h1]
    clear hk
    go_enter Try.func30, Try.ntmps30
    go_wp2
    all_goals
      go_ret
      exact ⟨rfl, by go_grown⟩
  · rw [if_neg h1]
    by_cases h2 : b.ss < who
    · rw [if_pos h2]
      clear hk
      go_enter Try.func30, Try.ntmps30
      go_wp2
      all_goals
        go_ret
        exact ⟨rfl, by go_grown⟩
    · rw [if_neg h2]
      obtain ⟨k, rfl⟩ : ∃ k : Nat, who = k := ⟨who.toNat, by omega⟩
      have hk64 : k ≤ 64 := by omega
      have e2 : (w.alloc (.cells cs 32)).cell? ⟨w.heap.size, 2 + k, none⟩ = some (.bool (b.inn k)) := (box_cell w cs 32 (2 + k)).trans (hk.ci k (by omega))
      have hk65 : (k : Int) < 65 := by omega
      have hk0 : (0 : Int) ≤ (k : Int) := by omega
      have h1' : 1 ≤ (k : Int) := by omega
      rw [Int.toNat_natCast]
      clear hk
      by_cases h3 : b.inn k = f
      · rw [if_pos h3]
        rw [h3] at e2
        cases f
        all_goals
          go_enter Try.func30, Try.ntmps30
          go_wp2
          go_ret
          exact ⟨rfl, by go_grown⟩
      · rw [if_neg h3]
        cases f
        · have h4 : b.inn k = true := by simpa using h3
          rw [h4] at e2
          go_enter Try.func30, Try.ntmps30
          go_wp2
          go_ret
          exact ⟨rfl, by go_grown⟩
        · have h4 : b.inn k = false := by simpa using h3
          rw [h4] at e2
          go_enter Try.func30, Try.ntmps30
          go_wp2
          go_ret
          exact ⟨rfl, by go_grown⟩
end Go.Proofs.Ytlffigkjhhcohaa
