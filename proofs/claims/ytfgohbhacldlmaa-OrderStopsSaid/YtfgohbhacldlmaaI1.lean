/- A range over a function whose iterator ranges over another one itself: what a round keeps is told by kinds of blocks; the loop's own record alone may turn. -/
import Derived.Test.YtfgohbhacldlmaaL0
import Derived.Test.YtfgohbhacldlmaaChecked
import Derived.RangeFuncNested
import Derived.RangeFuncBound
import Derived.RangeFuncCalls
import Derived.RangeFuncLeaves
import Derived.Shelf.Abstract
import Derived.Shelf.RegionOpen
import Derived.OwnWalkIn
import Derived.TacticsInMore
import Derived.LoopNIn
import Derived.LoopIn
namespace Go.Proofs.Ytfgohbhacldlmaa
set_option linter.unusedSimpArgs false
open Go.RowKit Go.Shelf
set_option linter.unusedVariables false

/-- Blocks that no loop body of the statements writes: all but their own variables and rows. -/
def keptT (t : TypeId) : Bool := !(t == 25 || t == 39 || t == 3)
def keptO : Obj → Bool
  | .cells _ t _ => keptT t
  | _ => true
theorem keptO_of {o : Obj} (h : o.isCells = false) : keptO o = true := by cases o <;> simp_all [Obj.isCells, keptO]
/-- What lay ahead of n0, and all such blocks, lie as they lay, but those of X. -/
def KA (n0 : Nat) (X : Nat → Prop) (W W' : World) : Prop := W.heap.size ≤ W'.heap.size ∧ ∀ (k : Nat) (o : Obj), W.heap[k]? = some o → (k < n0 ∨ keptO o = true) → ¬ X k → W'.heap[k]? = some o
/-- .. and but a loop's record. -/
abbrev andl (X : Nat → Prop) (l : Nat) : Nat → Prop := fun k => X k ∨ k = l
theorem KA.refl (n0 : Nat) (X : Nat → Prop) (W : World) : KA n0 X W W := ⟨Nat.le_refl _, fun _ _ h _ _ => h⟩
theorem KA.trans {n0 : Nat} {X : Nat → Prop} {A B C : World} (h : KA n0 X A B) (k : KA n0 X B C) : KA n0 X A C := ⟨Nat.le_trans h.1 k.1, fun i o hi ho hx => k.2 i o (h.2 i o hi ho hx) ho hx⟩
theorem KA.q {n0 : Nat} {X : Nat → Prop} {W W' : World} (h : KA n0 X W W') (l : Nat) : KA n0 (andl X l) W W' := ⟨h.1, fun k o hk ho hx => h.2 k o hk ho (fun e => hx (.inl e))⟩
theorem KA.put (n0 : Nat) (X : Nat → Prop) (l : Nat) (W : World) (o : Obj) : KA n0 (andl X l) W (W.putObj l o) := ⟨by simp, fun k o' hk _ hl => (World.putObj_heap_other (fun e => hl (.inr e))).trans hk⟩
theorem KA.of_below {n0 : Nat} {X : Nat → Prop} {W W' : World} (h : Below W.heap.size W W') : KA n0 X W W' := ⟨h.size, fun k o hk _ _ => (h.block k (Array.getElem?_eq_some_iff.1 hk).1).trans hk⟩
theorem KA.of_grown {n0 : Nat} {X : Nat → Prop} {W W' : World} {row : Option Nat} (h : W.grownBy W' row) (hr : ∀ j o, row = some j → W.heap[j]? = some o → X j ∨ (n0 ≤ j ∧ keptO o = false)) : KA n0 X W W' :=
  ⟨h.size, fun k o hk ho hx => (h.block k (Array.getElem?_eq_some_iff.1 hk).1 (fun e => by
    rcases hr k o e.symm hk with h | ⟨h1, h2⟩
    · exact hx h
    · rw [h2] at ho; rcases ho with ho | ho
      · omega
      · cases ho)).trans hk⟩

/-- What an iterator promises to every loop over it. -/
def SeqL {α : Type} (P : Program) (g : Nat) (lb : Array Value) (encs : α → Array Value) (S Sp : List α → Prop) (N n0 : Nat) (X : Nat → Prop) (w : World) : Prop :=
  ∀ (l : Nat) (J Jx : List α → World → Prop) (W : World), Below w.heap.size w W → n0 ≤ l → l < W.heap.size → (∃ r, W.heap[l]? = some (.loop r)) → OwnFrom W.heap.size J → OwnFrom W.heap.size Jx →
    (∀ m pre x W1, J pre W1 → pre.length < N → YieldAt Fence.wide m P l (encs x) W1 fun e W' =>
      (e = .returned (.bool true) ∧ J (pre ++ [x]) W' ∧ KA n0 (andl X l) W1 W') ∨ (e = .returned (.bool false) ∧ Jx (pre ++ [x]) W' ∧ KA n0 (andl X l) W1 W')) →
    J [] W →
    Calls P g (#[.func (.yield l) #[] #[]] ++ lb) W fun e W' => (∃ v, e = .returned v) ∧ ((∃ ys, S ys ∧ J ys W') ∨ (∃ pre, Sp pre ∧ Jx pre W'))

/-- How the body of a round may be left. -/
def postL {α : Type} (n0 : Nat) (X : Nat → Prop) (I : List α → World → Prop) (Ix : Code → List α → World → Prop) (xs : List α) (W : World) : Exit → Act → World → Prop
  | .normal, _, W' => KA n0 X W W' ∧ I xs W'
  | .ret, _, W' => KA n0 X W W' ∧ Ix .ret xs W'
  | .exit id, _, W' => KA n0 X W W' ∧ Ix (.exit id) xs W'
  | _, _, _ => False

/-- **The loop over such an iterator.** -/
theorem range_L {α : Type} {P : Program} {n : Nat} {g : Operand} {ps : Array Tmp} {assign body : Code} {Q : Exit → Act → World → Prop} {a : Act} {w w0 : World} {gf : Nat} {lb : Array Value}
    (hg : a.eval g = .func (.func gf) #[] lb) (eg : ∀ args w, (callFunc gf args).run P w = .ok (.enter gf args) w) {encs : α → Array Value} {S Sp : List α → Prop} {N n0 : Nat} {X : Nat → Prop}
    (hseq : SeqL P gf lb encs S Sp N n0 X w0) (hn0 : n0 ≤ w.heap.size) (hX : ∀ k, X k → k < w.heap.size) (hb0 : Below w0.heap.size w0 w) (hps : ∀ x, (encs x).size = ps.size)
    (I : List α → World → Prop) (Ix : Code → List α → World → Prop) (hI : OwnFrom w.heap.size I) (hIx : ∀ c, OwnFrom w.heap.size (Ix c)) (h0 : I [] w) (a₁ : α → Act)
    (hassign : ∀ (m l : Nat) (x : α) (W : World) (K : Act → World → Prop), K (a₁ x) W →
      assign.wpIn (Fence.wide.inRound l) m P (Exit.then K (fun _ _ _ => False)) { tmps := (ps.zip (encs x)).foldl (fun t (p, v) => t.setIfInBounds p v) a.tmps, defers := [] } W)
    (hbody : ∀ (m l : Nat) (pre : List α) (x : α) (W : World), w.heap.size ≤ l → I pre W → pre.length < N → body.wpIn (Fence.wide.inRound l) m P (postL n0 X I Ix (pre ++ [x]) W) (a₁ x) W)
    (hdone : ∀ (D : Nat) (xs : List α) (W : World), w.heap.size ≤ D → S xs → I xs W → W.heap[D]? = some (.deferred (some [])) → Q .normal { a with defers := { target := .collected D, args := #[] } :: a.defers } W)
    (hstop : ∀ (D : Nat) (c : Code) (pre : List α) (W : World), w.heap.size ≤ D → Sp pre → Ix c pre W → W.heap[D]? = some (.deferred (some [])) → c.wpIn Fence.wide n P Q { a with defers := { target := .collected D, args := #[] } :: a.defers } W) :
    (Code.rangeFunc g ps assign body).wpIn Fence.wide n P Q a w := by
  refine wpIn_rangeFunc (fun fn hfn => ?_)
  -- the record that the loop lays, whatever state it is in
  let rc : LoopState → Option Code → Obj := fun st pe => .loop { state := st, pending := pe, fn, tmps := a.tmps, params := ps, assign, body, defers := w.heap.size }
  let l := w.heap.size + 1
  let Wl := (w.alloc (.deferred (some []))).alloc (rc .ready none)
  have hsz : Wl.heap.size = w.heap.size + 2 := by simp [Wl]
  have hl : Wl.heap[l]? = some (rc .ready none) := by
    have := World.alloc_heap_new (w.alloc (.deferred (some []))) (rc .ready none)
    rw [World.size_alloc] at this; exact this
  have hd : Wl.heap[w.heap.size]? = some (.deferred (some [])) := (Below.heap_alloc _ _ _ (by simp)).trans (World.alloc_heap_new w _)
  have hB : Below w.heap.size w Wl := bel_alloc (bel_alloc (Below.refl _ _) _) _
  -- a turn of the record, or of an iterator's block, is no turn of the caller's
  have abide : ∀ {β : Type} {G : β → World → Prop}, OwnFrom w.heap.size G → OwnFrom Wl.heap.size G := fun h s A B row hs hg' hr => h s A B row hs hg' (fun r e => ⟨by have := (hr r e).1; omega, (hr r e).2⟩)
  have stay : ∀ {A B : World} {row : Option Nat} {k : Nat} {o : Obj}, k < Wl.heap.size → A.grownBy B row → (∀ r, row = some r → Wl.heap.size ≤ r ∧ ∃ o : Obj, A.heap[r]? = some o ∧ o.isCells = false) → A.heap[k]? = some o → B.heap[k]? = some o :=
    fun hk hg' hr h => (hg'.block _ (Array.getElem?_eq_some_iff.1 h).1 (fun e => by have := (hr _ e.symm).1; omega)).trans h
  refine ⟨l, [{ target := .collected w.heap.size, args := #[] }], Wl, { target := .fn (.func gf) lb, args := #[.func (.yield l) #[] #[]] }, Wl, gf, #[.func (.yield l) #[] #[]] ++ lb, Wl, run_enterLoop_outer _ _ _ _ _, by simp only [resolve, hg]; simp [go_sem, l], fun _ _ => trivial, by simp [invoke, go_sem, eg], fun h => (by cases h), ?_⟩
  refine callsIn_wide.2 ((hseq l (fun pre W => I pre W ∧ W.heap[l]? = some (rc .ready none) ∧ W.heap[w.heap.size]? = some (.deferred (some [])))
    (fun pre W => ∃ c, Ix c pre W ∧ W.heap[l]? = some (rc .done (some c)) ∧ W.heap[w.heap.size]? = some (.deferred (some []))) Wl (hb0.trans (hB.mono hb0.size)) (by simp only [l]; omega) (by omega) ⟨_, hl⟩
    (fun s A B row hs hg' hr => ⟨abide hI s A B row hs.1 hg' hr, stay (by omega) hg' hr hs.2.1, stay (by omega) hg' hr hs.2.2⟩)
    (fun s A B row hs hg' hr => by
      obtain ⟨c, h1, h2, h3⟩ := hs
      exact ⟨c, abide (hIx c) s A B row h1 hg' hr, stay (by omega) hg' hr h2, stay (by omega) hg' hr h3⟩)
    ?_ ⟨hI.alloc _ (hI.alloc _ h0), hl, hd⟩).mono ?_)
  · -- a round
    rintro m pre x W ⟨hi, hr, hk⟩ hlen
    have hlt : l < W.heap.size := (Array.getElem?_eq_some_iff.1 hr).1
    refine ⟨fn, _, assign, body, run_yield hr (hps x), roundIn_of_wpIn hfn (hassign m l x W _ ⟨_, run_beginRound hr rfl, ?_⟩)⟩
    have b2 : (W.putObj l (rc .busy none)).heap[l]? = some (rc .busy none) := World.putObj_heap_same hlt
    have k2 : (W.putObj l (rc .busy none)).heap[w.heap.size]? = some (.deferred (some [])) := (World.putObj_heap_other (by simp [l])).trans hk
    have i2 : I pre (W.putObj l (rc .busy none)) := hI.putObj _ hi (by simp [l]) hr rfl
    refine wpIn_mono (hbody m l pre x _ (by simp [l]) i2 hlen) ?_
    have nl : ¬ X l := fun h => by have := hX _ h; simp only [l] at this; omega
    have nd : ¬ X w.heap.size := fun h => by have := hX _ h; omega
    rintro e a3 W3 hp
    have back : ∀ {jump : Option Code}, KA n0 X (W.putObj l (rc .busy none)) W3 → W3.heap[l]? = some (rc .busy none) ∧ W3.heap[w.heap.size]? = some (.deferred (some [])) ∧ l < W3.heap.size :=
      fun h => ⟨h.2 _ _ b2 (.inr rfl) nl, h.2 _ _ k2 (.inr rfl) nd, (Array.getElem?_eq_some_iff.1 (h.2 _ _ b2 (.inr rfl) nl)).1⟩
    have keep : ∀ (st : LoopState) (jump : Option Code), KA n0 X (W.putObj l (rc .busy none)) W3 → KA n0 (andl X l) W (W3.putObj l (rc st jump)) := fun st jump h => ((KA.put n0 X l W _).trans (h.q l)).trans (KA.put n0 X l W3 _)
    cases e with
    | normal =>
      obtain ⟨ka, hi3⟩ := hp
      obtain ⟨l3, k3, lt3⟩ := back (jump := none) ka
      exact ⟨_, _, run_endRound none l3, .inl ⟨rfl, ⟨hI.putObj _ hi3 (by simp [l]) l3 rfl, World.putObj_heap_same lt3, (World.putObj_heap_other (by simp [l])).trans k3⟩, keep .ready none ka⟩⟩
    | ret =>
      obtain ⟨ka, hi3⟩ := hp
      obtain ⟨l3, k3, lt3⟩ := back (jump := none) ka
      exact ⟨_, _, run_endRound (some .ret) l3, .inr ⟨rfl, ⟨.ret, (hIx _).putObj _ hi3 (by simp [l]) l3 rfl, World.putObj_heap_same lt3, (World.putObj_heap_other (by simp [l])).trans k3⟩, keep .done (some .ret) ka⟩⟩
    | exit id =>
      obtain ⟨ka, hi3⟩ := hp
      obtain ⟨l3, k3, lt3⟩ := back (jump := none) ka
      exact ⟨_, _, run_endRound (some (.exit id)) l3, .inr ⟨rfl, ⟨.exit id, (hIx _).putObj _ hi3 (by simp [l]) l3 rfl, World.putObj_heap_same lt3, (World.putObj_heap_other (by simp [l])).trans k3⟩, keep .done (some (.exit id)) ka⟩⟩
    | goto t => exact hp.elim
    | panic ch => exact hp.elim
    | outgrown => exact hp.elim
  · -- behind it
    rintro e W2 ⟨⟨v, rfl⟩, (⟨xs, hS, hi, hr, hk⟩ | ⟨pre, hSp, c, hi, hr, hk⟩)⟩
    · exact ⟨none, _, run_endLoop hr (by simp), hdone _ xs _ (Nat.le_refl _) hS (hI.putObj _ hi (by simp [l]) hr rfl) ((World.putObj_heap_other (by simp [l])).trans hk)⟩
    · exact ⟨some c, _, run_endLoop hr (by simp), hstop _ c pre _ (Nat.le_refl _) hSp ((hIx c).putObj _ hi (by simp [l]) hr rfl) ((World.putObj_heap_other (by simp [l])).trans hk)⟩
end Go.Proofs.Ytfgohbhacldlmaa
