/- A deed on both: words. -/
import Derived.Test.YtlffigkjhhcohaaM2
namespace Go.Proofs.Ytlffigkjhhcohaa
set_option linter.unusedSimpArgs false
open Go.RowKit Go.Maps
set_option linter.unusedVariables false

theorem ST.size {c lo N : Nat} {K : Nat → Prop} {b b' : RB} {w : World} {cs : Array Value} (h : ST c lo N K b b' w cs) : cs.size = 134 := by
  obtain ⟨M, A1, A2, k1, k2, m, S, h1, h2, h3, h4⟩ := h
  exact h2.size
theorem ST.one {c lo N : Nat} {K : Nat → Prop} {b b' : RB} {w : World} {cs : Array Value} (h : ST c lo N K b b' w cs) : cs.all (·.oneCell') = true := by
  obtain ⟨M, A1, A2, k1, k2, m, S, h1, h2, h3, h4⟩ := h
  exact h2.one
theorem ST.kept {c lo N : Nat} {K : Nat → Prop} {b b' : RB} {w : World} {cs : Array Value} (h : ST c lo N K b b' w cs) : ∀ g, K g → g < w.heap.size := by
  obtain ⟨M, A1, A2, k1, k2, m, S, h1, h2, h3, h4, hK⟩ := h
  exact fun g hg => (hK g hg).1
theorem ST.nlen {c lo N : Nat} {K : Nat → Prop} {b b' : RB} {w : World} {cs : Array Value} (h : ST c lo N K b b' w cs) : (b.wl.take (nR b)).length = nR b ∧ nR b ≤ c := by
  obtain ⟨M, A1, A2, k1, k2, m, S, h1, h2, h3, h4, hK⟩ := h
  have h5 := nR_le b
  have h6 := h3.al
  have h7 := h3.wl
  exact ⟨by simp; omega, by omega⟩
theorem same_yes (A1 A2 : Option Addr) (n1 c1 n2 c2 : Nat) (l : List Int) (w : World) (hl : l.length = n1) (hm : l.length = n2) (h1 : n1 ≤ 1000000000) (hA : RdI w A1 l) (hB : RdI w A2 l) :
    Calls Try.prog 22 #[.slice A1 n1 c1, .slice A2 n2 c2] w fun e w' => e = .returned (.bool true) ∧ Below w.heap.size w w' :=
  (same_any A1 A2 n1 c1 n2 c2 l l w hl hm h1 (by omega) hA hB).mono fun e w' ⟨h1, k, h2⟩ => ⟨by rw [h1]; simp, by rw [h2]; exact bel_drewN (Below.refl _ _) k⟩
def SPost (c lo N : Nat) (K : Nat → Prop) (b : RB) (w : World) (e : Ending) (w' : World) : Prop := ∃ cs', e = .returned (.tuple #[.agg cs', .bool true]) ∧ ST c lo N K b b w' cs' ∧ Below lo w w' ∧ ∀ g, K g → w'.heap[g]? = w.heap[g]?
theorem ex_load_row {o : Oper} {a : Act} {w : World} (x : Operand) (ho : o.op = .load 32 x) (g : Nat) (hx : a.eval x = .pointer (some ⟨g, 0, none⟩)) (cs : Array Value) (hg : w.heap[g]? = some (.cells cs 32 (0, 0))) (hs : cs.size = 134) :
    (execOp a.eval o).run Try.prog w = .ok (.value (.agg cs)) w := by
  unfold execOp
  simp only [ho, hx, Instr.loadAt, Instr.sureAddr, Sem.run_bind, Sem.run_pure, Result.andThen_ok, run_loadVar_row w g 32 32 cs (0, 0) _ hg Try.underlying32 rfl (by rw [hs]; exact info32)]
theorem res9 (tmps : Array Value) (w : World) (g : Nat) (cs : Array Value) (V : Value) (hp : tmps.getD 6 undef = .pointer (some ⟨g, 0, none⟩)) (hv : tmps.getD 7 undef = V) (hg : w.heap[g]? = some (.cells cs 32 (0, 0))) (hi : (Try.prog.info? 32).map (·.size) = some cs.size) :
    (results Try.f9 tmps).run Try.prog w = .ok (.tuple #[.agg cs, V]) w := by
  have hp' : tmps[6]?.getD undef = .pointer (some ⟨g, 0, none⟩) := by simpa using hp
  have hv' : tmps[7]?.getD undef = V := by simpa using hv
  simp [results, Try.results9, hp', hv', asAddr, run_loadVar_row w g 32 32 cs (0, 0) _ hg Try.underlying32 rfl hi]
/-- The boxes at the start. -/
abbrev W3 (w : World) (cs : Array Value) (x y z : Int) : World := ((w.alloc (.cells cs 32)).alloc (.cells #[.int .i64 x, .int .i64 y, .int .i64 z] 36)).alloc (.cells zb 32)
theorem W3.bel (w : World) (cs : Array Value) (x y z : Int) : Below w.heap.size w (W3 w cs x y z) := by unfold W3; go_grown
theorem W3.x0 (w : World) (cs : Array Value) (x y z : Int) : (W3 w cs x y z).heap[w.heap.size]? = some (.cells cs 32 (0, 0)) := (Rows_old ((w.alloc (.cells cs 32)).alloc (.cells _ 36)) _ w.heap.size (by simp; omega)).trans (heap_alloc2_old w _ _)
theorem W3.x1 (w : World) (cs : Array Value) (x y z : Int) : (W3 w cs x y z).heap[w.heap.size + 1]? = some (.cells #[.int .i64 x, .int .i64 y, .int .i64 z] 36 (0, 0)) := (Rows_old ((w.alloc (.cells cs 32)).alloc (.cells _ 36)) _ (w.heap.size + 1) (by simp)).trans (heap_alloc2_new w _ _)
theorem W3.x2 (w : World) (cs : Array Value) (x y z : Int) : (W3 w cs x y z).heap[w.heap.size + 1 + 1]? = some (.cells zb 32 (0, 0)) := by
  have h := heap_alloc_new ((w.alloc (.cells cs 32)).alloc (.cells #[.int .i64 x, .int .i64 y, .int .i64 z] 36)) (.cells zb 32)
  rw [World.size_alloc, World.size_alloc] at h
  exact h
theorem W3.size (w : World) (cs : Array Value) (x y z : Int) : (W3 w cs x y z).heap.size = w.heap.size + 3 := by simp [W3]
def K1 (w : World) (K : Nat → Prop) (g : Nat) : Prop := K g ∨ (w.heap.size ≤ g ∧ g < w.heap.size + 3)
def K2 (w : World) (K : Nat → Prop) (gy : Nat) (g : Nat) : Prop := K1 w K g ∨ g = gy
theorem K1.to {w W : World} {K : Nat → Prop} (hs : W.heap.size = w.heap.size + 3) : ∀ g, K1 w K g → K g ∨ (w.heap.size ≤ g ∧ g < W.heap.size) := by
  rintro g (h | h)
  · exact .inl h
  · exact .inr ⟨h.1, by omega⟩
theorem K2.to {w w1 W : World} {K : Nat → Prop} (hs : w1.heap.size < W.heap.size) : ∀ g, K2 w K w1.heap.size g → K1 w K g ∨ (w1.heap.size ≤ g ∧ g < W.heap.size) := by
  rintro g (h | h)
  · exact .inl h
  · exact .inr ⟨by omega, by omega⟩
/-- A new box with a book in it. -/
def W2 (w : World) (cs : Array Value) : World := (w.alloc (.cells zb 32)).setRow w.heap.size cs
theorem W2.bel (w : World) (cs : Array Value) : Below w.heap.size w (W2 w cs) := below_setRow (by go_grown) (Nat.le_refl _) _
theorem W2.x (w : World) (cs : Array Value) : (W2 w cs).heap[w.heap.size]? = some (.cells cs 32 (0, 0)) := setRow_heap _ _ _ _ _ _ (heap_alloc_new w _)
theorem W2.size (w : World) (cs : Array Value) : (W2 w cs).heap.size = w.heap.size + 1 := by simp [W2]
theorem drew_bel (w : World) : Below w.heap.size w w.drew := bel_dw (Below.refl _ _)
end Go.Proofs.Ytlffigkjhhcohaa
