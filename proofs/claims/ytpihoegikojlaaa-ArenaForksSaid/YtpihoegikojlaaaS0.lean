/- A deed on both: words. -/
import Derived.Test.YtpihoegikojlaaaM2
namespace Go.Proofs.Ytpihoegikojlaaa
set_option linter.unusedSimpArgs false
open Go.RowKit Go.Maps
set_option linter.unusedVariables false
variable {F : Nat → Prop}

theorem same_yes (A1 A2 : Option Addr) (n1 c1 n2 c2 : Nat) (l : List Int) (w : World) (hl : l.length = n1) (hm : l.length = n2) (h1 : n1 ≤ 1000000000) (hA : RdI w A1 l) (hB : RdI w A2 l) :
    Calls Try.prog 26 #[.slice A1 n1 c1, .slice A2 n2 c2] w fun e w' => e = .returned (.bool true) ∧ Below w.heap.size w w' :=
  (same_any A1 A2 n1 c1 n2 c2 l l w hl hm h1 (by omega) hA hB).mono fun e w' ⟨h1, k, h2⟩ => ⟨by rw [h1]; simp, by rw [h2]; exact bel_drewN (Below.refl _ _) k⟩
def SPost (lo N : Nat) (K : Nat → Prop) (b : AB) (w : World) (e : Ending) (w' : World) : Prop := ∃ cs', e = .returned (.tuple #[.agg cs', .bool true]) ∧ ST lo N K b b w' cs' ∧ Below lo w w' ∧ ∀ g, K g → w'.heap[g]? = w.heap[g]?
theorem res10 (tmps : Array Value) (w : World) (g : Nat) (cs : Array Value) (V : Value) (hp : tmps.getD 6 undef = .pointer (some ⟨g, 0, none⟩)) (hv : tmps.getD 7 undef = V) (hg : w.heap[g]? = some (.cells cs 33 (0, 0))) (hi : (Try.prog.info? 33).map (·.size) = some cs.size) :
    (results Try.f10 tmps).run Try.prog w = .ok (.tuple #[.agg cs, V]) w := by
  have hp' : tmps[6]?.getD undef = .pointer (some ⟨g, 0, none⟩) := by simpa using hp
  have hv' : tmps[7]?.getD undef = V := by simpa using hv
  simp [results, Try.results10, hp', hv', asAddr, run_loadVar_row w g 33 33 cs (0, 0) _ hg Try.underlying33 rfl hi]
/-- The boxes at the start. -/
abbrev V3 (w : World) (cs : Array Value) (x y z : Int) : World := ((w.alloc (.cells cs 33)).alloc (.cells #[.int .i64 x, .int .i64 y, .int .i64 z] 37)).alloc (.cells zb 33)
theorem V3.bel (w : World) (cs : Array Value) (x y z : Int) : Below w.heap.size w (V3 w cs x y z) := by unfold V3; go_grown
theorem V3.x0 (w : World) (cs : Array Value) (x y z : Int) : (V3 w cs x y z).heap[w.heap.size]? = some (.cells cs 33 (0, 0)) := (Rows_old ((w.alloc (.cells cs 33)).alloc (.cells _ 37)) _ w.heap.size (by simp; omega)).trans (heap_alloc2_old w _ _)
theorem V3.x1 (w : World) (cs : Array Value) (x y z : Int) : (V3 w cs x y z).heap[w.heap.size + 1]? = some (.cells #[.int .i64 x, .int .i64 y, .int .i64 z] 37 (0, 0)) := (Rows_old ((w.alloc (.cells cs 33)).alloc (.cells _ 37)) _ (w.heap.size + 1) (by simp)).trans (heap_alloc2_new w _ _)
theorem V3.x2 (w : World) (cs : Array Value) (x y z : Int) : (V3 w cs x y z).heap[w.heap.size + 1 + 1]? = some (.cells zb 33 (0, 0)) := by
  have h := heap_alloc_new ((w.alloc (.cells cs 33)).alloc (.cells #[.int .i64 x, .int .i64 y, .int .i64 z] 37)) (.cells zb 33)
  rw [World.size_alloc, World.size_alloc] at h
  exact h
theorem V3.size (w : World) (cs : Array Value) (x y z : Int) : (V3 w cs x y z).heap.size = w.heap.size + 3 := by simp [V3]
def K1 (w : World) (K : Nat → Prop) (g : Nat) : Prop := K g ∨ (w.heap.size ≤ g ∧ g < w.heap.size + 3)
def K2 (w : World) (K : Nat → Prop) (gy : Nat) (g : Nat) : Prop := K1 w K g ∨ g = gy
theorem K1.to {w W : World} {K : Nat → Prop} (hs : W.heap.size = w.heap.size + 3) : ∀ g, K1 w K g → K g ∨ (w.heap.size ≤ g ∧ g < W.heap.size) := by
  rintro g (h | h)
  · exact .inl h
  · exact .inr ⟨h.1, by omega⟩
theorem K2.to {w w1 W : World} {K : Nat → Prop} (hs : w1.heap.size < W.heap.size) : ∀ g, K2 w K w1.heap.size g → K1 w K g ∨ (w1.heap.size ≤ g ∧ g < W.heap.size) := by
  rintro g (h | h)
  · exact .inl h
  · exact .inr ⟨by omega, by omega⟩
end Go.Proofs.Ytpihoegikojlaaa
