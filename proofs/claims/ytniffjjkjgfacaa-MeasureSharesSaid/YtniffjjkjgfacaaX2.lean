/- A range over a function whose loop writes blocks that lay there when the iterator was made. -/
import Derived.Test.YtniffjjkjgfacaaX1
namespace Go.Proofs.Ytniffjjkjgfacaa
set_option linter.unusedSimpArgs false
open Go.RowKit Go.Maps
set_option linter.unusedVariables false
variable {F : Nat → Prop}

open Go.Shelf
/-- What an iterator over xs promises to every loop over it: R says what its blocks F hold; the loop writes others. -/
def SeqR {α : Type} (P : Program) (g : Nat) (lb : Array Value) (encs : α → Array Value) (xs : List α) (F : Nat → Prop) (R : World → Prop) : Prop :=
  ∀ (l : Nat) (J Jx : Nat → (Nat → Prop) → World → Prop) (W : World) (D : Nat → Prop), R W → (∀ g, D g → ¬ F g) → In D W → LocB W.heap.size J → LocB W.heap.size Jx →
    (∀ m k x D W, xs[k]? = some x → J k D W → In D W → YieldAt Fence.wide m P l (encs x) W (TellPost J Jx k D W)) → J 0 D W →
    Calls P g (#[.func (.yield l) #[] #[]] ++ lb) W fun e W' => (∃ v, e = .returned v) ∧ SeqPost xs.length J Jx D W W'
set_option maxHeartbeats 1000000 in
/-- **The loop over such an iterator.** -/
theorem range_R {α : Type} {P : Program} {n : Nat} {g : Operand} {ps : Array Tmp} {assign body : Code} {Q : Exit → Act → World → Prop} {a : Act} {w : World} {gf : Nat} {lb : Array Value}
    (hg : a.eval g = .func (.func gf) #[] lb) (eg : ∀ args w, (callFunc gf args).run P w = .ok (.enter gf args) w) {encs : α → Array Value} {xs : List α}
    {F : Nat → Prop} {R : World → Prop} (hseq : SeqR P gf lb encs xs F R) (hR : R w) (hRb : ∀ W W', R W → Below W.heap.size W W' → R W') (hFw : ∀ g, F g → g < w.heap.size) (hps : ∀ x, (encs x).size = ps.size)
    (I : Nat → (Nat → Prop) → World → Prop) (Ix : Code → Nat → (Nat → Prop) → World → Prop) (hI : LocB w.heap.size I) (hIx : ∀ c, LocB w.heap.size (Ix c)) (D0 : Nat → Prop) (hD0 : ∀ g, D0 g → ¬ F g ∧ g < w.heap.size) (h0 : I 0 D0 w) (a₁ : α → World → Act) (Wa : α → World → World) (hWa : ∀ x W, Below W.heap.size W (Wa x W))
    (hassign : ∀ (m l : Nat) (x : α) (W : World) (K : Act → World → Prop), K (a₁ x W) (Wa x W) →
      assign.wpIn (Fence.wide.inRound l) m P (Exit.then K (fun _ _ _ => False)) { tmps := (ps.zip (encs x)).foldl (fun t (p, v) => t.setIfInBounds p v) a.tmps, defers := [] } W)
    (hbody : ∀ (m l k : Nat) (x : α) (D : Nat → Prop) (V W : World) (o : Obj), xs[k]? = some x → w.heap.size ≤ l → l < V.heap.size → W = (Wa x V).putObj l o → In D V → ¬ D l → Gr D0 D w W → Chg D0 w W → I k D W → body.wpIn (Fence.wide.inRound l) m P (postF I Ix k D W) (a₁ x V) W)
    (hdone : ∀ (B : Nat) (D : Nat → Prop) (W : World), w.heap.size ≤ B → ¬ D B → Gr D0 D w W → Chg D0 w W → I xs.length D W → W.heap[B]? = some (.deferred (some [])) → Q .normal { a with defers := { target := .collected B, args := #[] } :: a.defers } W)
    (hstop : ∀ (B : Nat) (c : Code) (k : Nat) (D : Nat → Prop) (W : World), w.heap.size ≤ B → ¬ D B → Gr D0 D w W → Chg D0 w W → k ≤ xs.length → Ix c k D W → W.heap[B]? = some (.deferred (some [])) → c.wpIn Fence.wide n P Q { a with defers := { target := .collected B, args := #[] } :: a.defers } W) :
    (Code.rangeFunc g ps assign body).wpIn Fence.wide n P Q a w := by
  refine wpIn_rangeFunc (fun fn hfn => ?_)
  let rc : LoopState → Option Code → Obj := fun st pe => .loop { state := st, pending := pe, fn, tmps := a.tmps, params := ps, assign, body, defers := w.heap.size }
  let l := w.heap.size + 1
  let Wl := (w.alloc (.deferred (some []))).alloc (rc .ready none)
  have hsz : Wl.heap.size = w.heap.size + 2 := by simp [Wl]
  have hl : Wl.heap[l]? = some (rc .ready none) := by
    have := World.alloc_heap_new (w.alloc (.deferred (some []))) (rc .ready none)
    rw [World.size_alloc] at this; exact this
  have hd : Wl.heap[w.heap.size]? = some (.deferred (some [])) := (Below.heap_alloc _ _ _ (by simp)).trans (World.alloc_heap_new w _)
  have hB : Below w.heap.size w Wl := ((Below.refl _ w).alloc (Nat.le_refl _) _).alloc (by simp) _
  -- what is kept between the rounds
  let C : (Nat → Prop) → World → Prop := fun D W => ¬ D l ∧ ¬ D w.heap.size ∧ In D W ∧ Gr D0 D w W ∧ Chg D0 w W ∧ W.heap[w.heap.size]? = some (.deferred (some []))
  let E : (Nat → Prop) → Nat → Prop := fun D g => D g ∨ g = l ∨ g = w.heap.size
  let J : Nat → (Nat → Prop) → World → Prop := fun k F W => ∃ D, F = E D ∧ I k D W ∧ C D W ∧ W.heap[l]? = some (rc .ready none)
  let Jx : Nat → (Nat → Prop) → World → Prop := fun k F W => ∃ D c, F = E D ∧ Ix c k D W ∧ C D W ∧ W.heap[l]? = some (rc .done (some c))
  have stepC : ∀ {D : Nat → Prop} {W W' : World}, C D W → Chg (fun g => ¬ E D g ∧ Wl.heap.size ≤ g) W W' → C D W' := by
    rintro D W W' ⟨h1, h2, h3, h4, h5, h6⟩ hc
    have hlt := (Array.getElem?_eq_some_iff.1 h6).1
    refine ⟨h1, h2, h3.more hc.size, fun g hg => ?_, h5.trans hc (fun g hg => .inr (by have := hg.2; omega)), (hc.block _ hlt (fun h => h.1 (.inr (.inr rfl)))).trans h6⟩
    rcases h4 g hg with x | x
    · exact .inl x
    · exact .inr ⟨x.1, Nat.lt_of_lt_of_le x.2 hc.size⟩
  have toI : ∀ {D : Nat → Prop} {W W' : World}, Chg (fun g => ¬ E D g ∧ Wl.heap.size ≤ g) W W' → Chg (fun g => ¬ D g ∧ w.heap.size ≤ g) W W' := fun hc => hc.more (fun g hg => .inl ⟨fun h => hg.1 (.inl h), by have := hg.2; omega⟩)
  have locJ : LocB Wl.heap.size J := by
    rintro k F W W' ⟨D, rfl, h1, h2, h3⟩ hc
    exact ⟨D, rfl, hI _ _ _ _ h1 (toI hc), stepC h2 hc, (hc.block l (Array.getElem?_eq_some_iff.1 h3).1 (fun h => h.1 (.inr (.inl rfl)))).trans h3⟩
  have locJx : LocB Wl.heap.size Jx := by
    rintro k F W W' ⟨D, c, rfl, h1, h2, h3⟩ hc
    exact ⟨D, c, rfl, hIx c _ _ _ _ h1 (toI hc), stepC h2 hc, (hc.block l (Array.getElem?_eq_some_iff.1 h3).1 (fun h => h.1 (.inr (.inl rfl)))).trans h3⟩
  have c0 : C D0 Wl := ⟨fun h => by have := (hD0 _ h).2; simp only [l] at this; omega, fun h => by have := (hD0 _ h).2; omega, fun g hg => by have := (hD0 g hg).2; omega, Gr.refl _ _ _, Chg.of_below hB, hd⟩
  refine ⟨l, [{ target := .collected w.heap.size, args := #[] }], Wl, { target := .fn (.func gf) lb, args := #[.func (.yield l) #[] #[]] }, Wl, gf, #[.func (.yield l) #[] #[]] ++ lb, Wl, run_enterLoop_outer _ _ _ _ _, by simp only [resolve, hg]; simp [go_sem, l], fun _ _ => trivial, by simp [invoke, go_sem, eg], fun h => (by cases h), ?_⟩
  refine callsIn_wide.2 ((hseq l J Jx Wl (E D0) (hRb _ _ hR hB) ?_ ?_ locJ locJx ?_ ⟨D0, rfl, hI.bel h0 hB, c0, hl⟩).mono ?_)
  · rintro g (h | rfl | rfl)
    · exact (hD0 g h).1
    · intro hf; have := hFw _ hf; simp only [l] at this; omega
    · intro hf; have := hFw _ hf; omega
  · rintro g (h | rfl | rfl)
    · have := (hD0 g h).2; omega
    · simp only [l]; omega
    · omega
  · -- a round
    rintro m k x F W hx ⟨D, rfl, hi, ⟨n1, n2, hin, hgr, hch, hdf⟩, hr⟩ hin2
    have hlt : l < W.heap.size := (Array.getElem?_eq_some_iff.1 hr).1
    refine ⟨fn, _, assign, body, run_yield hr (hps x), roundIn_of_wpIn hfn (hassign m l x W _ ⟨_, run_beginRound (((hWa x W).block l hlt).trans hr) rfl, ?_⟩)⟩
    have hWx := hWa x W
    have b2 : ((Wa x W).putObj l (rc .busy none)).heap[l]? = some (rc .busy none) := World.putObj_heap_same (Nat.lt_of_lt_of_le hlt hWx.size)
    have k2 : ((Wa x W).putObj l (rc .busy none)).heap[w.heap.size]? = some (.deferred (some [])) := (World.putObj_heap_other (by simp [l])).trans ((hWx.block _ (Array.getElem?_eq_some_iff.1 hdf).1).trans hdf)
    have s2 : ((Wa x W).putObj l (rc .busy none)).heap.size = (Wa x W).heap.size := by simp
    have sa := hWx.size
    have i2 : I k D ((Wa x W).putObj l (rc .busy none)) := hI.put (hI.bel hi hWx) n1 (by simp [l]) _
    have cx : Chg (fun g => g = l) W ((Wa x W).putObj l (rc .busy none)) := (Chg.of_below hWx).trans (Chg.put (D := fun g => g = l) (Wa x W) _ rfl) (fun g hg => .inl hg)
    have hch2 : Chg D0 w ((Wa x W).putObj l (rc .busy none)) := hch.trans cx (fun g hg => .inr (by rw [hg]; simp [l]))
    have hgr2 : Gr D0 D w ((Wa x W).putObj l (rc .busy none)) := fun g hg => by
      rcases hgr g hg with y | y
      · exact .inl y
      · exact .inr ⟨y.1, by rw [s2]; omega⟩
    refine wpIn_mono (hbody m l k x D W _ _ hx (by simp [l]) hlt rfl hin n1 hgr2 hch2 i2) ?_
    have fin : ∀ {D' : Nat → Prop} {W3 : World} (o : Obj), Gr D D' ((Wa x W).putObj l (rc .busy none)) W3 → Chg D ((Wa x W).putObj l (rc .busy none)) W3 →
        W3.heap[l]? = some (rc .busy none) ∧ l < W3.heap.size ∧ ¬ D' l ∧ Gr (E D) (E D') W (W3.putObj l o) ∧ Chg (E D) W (W3.putObj l o) ∧ C D' (W3.putObj l o) := by
      intro D' W3 o hg3 hc3
      have e1 := (hc3.block l (by rw [s2]; omega) n1).trans b2
      have lt3 : l < W3.heap.size := (Array.getElem?_eq_some_iff.1 e1).1
      have hw : w.heap.size < W.heap.size := by simp only [l] at hlt; omega
      have e2 := (hc3.block w.heap.size (by rw [s2]; omega) n2).trans k2
      have s3 : (W3.putObj l o).heap.size = W3.heap.size := by simp
      have sz := hc3.size
      have nl : ¬ D' l := fun h => by rcases hg3 l h with x | x; exact n1 x; omega
      have nw : ¬ D' w.heap.size := fun h => by rcases hg3 _ h with x | x; exact n2 x; omega
      have in3 : In D' W3 := In.gr (fun g hg => by rw [s2]; have := hin g hg; omega) hg3 sz
      refine ⟨e1, lt3, nl, ?_, ?_, nl, nw, fun g hg => by rw [s3]; exact in3 g hg, ?_, ?_, (World.putObj_heap_other (by simp [l])).trans e2⟩
      · rintro g (h | h | h)
        · rcases hg3 g h with x | x
          · exact .inl (.inl x)
          · exact .inr ⟨by omega, by rw [s3]; exact x.2⟩
        · exact .inl (.inr (.inl h))
        · exact .inl (.inr (.inr h))
      · exact ((cx.more (G := E D) (fun g hg => .inl (.inr (.inl hg)))).trans hc3 (fun g hg => .inl (.inl hg))).trans (Chg.put (D := E D) W3 o (.inr (.inl rfl))) (fun g hg => .inl hg)
      · intro g hg
        rcases hg3 g hg with x | x
        · rcases hgr g x with y | y
          · exact .inl y
          · exact .inr ⟨y.1, by rw [s3]; omega⟩
        · exact .inr ⟨by omega, by rw [s3]; exact x.2⟩
      · refine (hch2.trans hc3 (fun g hg => ?_)).trans (Chg.put (D := fun g => g = l) W3 o rfl) (fun g hg => .inr (by rw [hg]; simp [l]))
        rcases hgr g hg with y | y
        · exact .inl y
        · exact .inr y.1
    rintro e a3 W3 hp
    cases e with
    | normal =>
      obtain ⟨D', hg3, hc3, hi3⟩ := hp
      obtain ⟨l3, lt3, nl, h1, h2, h3⟩ := fin (rc .ready none) hg3 hc3
      exact ⟨_, _, run_endRound none l3, E D', h1, h2, .inl ⟨rfl, D', rfl, hI.put hi3 nl (by simp [l]) _, h3, World.putObj_heap_same lt3⟩⟩
    | ret =>
      obtain ⟨D', hg3, hc3, hi3⟩ := hp
      obtain ⟨l3, lt3, nl, h1, h2, h3⟩ := fin (rc .done (some .ret)) hg3 hc3
      exact ⟨_, _, run_endRound (some .ret) l3, E D', h1, h2, .inr ⟨rfl, D', .ret, rfl, (hIx _).put hi3 nl (by simp [l]) _, h3, World.putObj_heap_same lt3⟩⟩
    | exit id =>
      obtain ⟨D', hg3, hc3, hi3⟩ := hp
      obtain ⟨l3, lt3, nl, h1, h2, h3⟩ := fin (rc .done (some (.exit id))) hg3 hc3
      exact ⟨_, _, run_endRound (some (.exit id)) l3, E D', h1, h2, .inr ⟨rfl, D', .exit id, rfl, (hIx _).put hi3 nl (by simp [l]) _, h3, World.putObj_heap_same lt3⟩⟩
    | goto t => exact hp.elim
    | panic ch => exact hp.elim
    | outgrown => exact hp.elim
  · -- behind it
    have back : ∀ {D : Nat → Prop} {W : World} (o : Obj), C D W → Gr D0 D w (W.putObj l o) ∧ Chg D0 w (W.putObj l o) ∧ (W.putObj l o).heap[w.heap.size]? = some (.deferred (some [])) := by
      rintro D W o ⟨n1, n2, hin, hgr, hch, hdf⟩
      refine ⟨fun g hg => by rw [show (W.putObj l o).heap.size = W.heap.size by simp]; exact hgr g hg, hch.trans (Chg.put (D := fun g => g = l) W _ rfl) (fun g hg => .inr (by rw [hg]; simp [l])), (World.putObj_heap_other (by simp [l])).trans hdf⟩
    rintro e W2 ⟨⟨v, rfl⟩, F, _, _, (⟨D, rfl, hi, hc, hr⟩ | ⟨k, hk, D, c, rfl, hi, hc, hr⟩)⟩
    · obtain ⟨h1, h2, h3⟩ := back _ hc
      exact ⟨none, _, run_endLoop hr (by simp), hdone _ D _ (Nat.le_refl _) hc.2.1 h1 h2 (hI.put hi hc.1 (by simp [l]) _) h3⟩
    · obtain ⟨h1, h2, h3⟩ := back _ hc
      exact ⟨some c, _, run_endLoop hr (by simp), hstop _ c k D _ (Nat.le_refl _) hc.2.1 h1 h2 hk ((hIx c).put hi hc.1 (by simp [l]) _) h3⟩
end Go.Proofs.Ytniffjjkjgfacaa
