/- Texts of the proof, one behind the other. -/
import Derived.Test.YtilnpeekajnlhaaGreatTh16
import Derived.Test.YtilnpeekajnlhaaGreatTh14
set_option linter.unusedVariables false
set_option linter.unusedSimpArgs false
namespace Go.Proofs.YtilnpeekajnlhaaGreat
open Go.RowKit Go.Maps
variable {F : Nat → Prop}

open Go.Shelf
/-- What an iterator over xs promises to every loop over it: R says what its blocks F hold; the loop writes others. -/
def SeqR {α : Type} (P : Program) (g : Nat) (lb : Array Value) (encs : α → Array Value) (xs : List α) (F : Nat → Prop) (R : World → Prop) : Prop :=
  ∀ (l : Nat) (J Jx : Nat → (Nat → Prop) → World → Prop) (W : World) (D : Nat → Prop), R W → (∀ g, D g → ¬ F g) → In D W → LocB W.heap.size J → LocB W.heap.size Jx →
    (∀ m k x D W, xs[k]? = some x → J k D W → In D W → YieldAt Fence.wide m P l (encs x) W (TellPost J Jx k D W)) → J 0 D W →
    Calls P g (#[.func (.yield l) #[] #[]] ++ lb) W fun e W' => (∃ v, e = .returned v) ∧ SeqPost xs.length J Jx D W W'
set_option maxHeartbeats 1000000 in
/-- **The loop over such an iterator.** -/
theorem range_R {α : Type} {P : Program} {n : Nat} {g : Operand} {ps : Array Tmp} {assign body : Code} {Q : Exit → Act → World → Prop} {a : Act} {w : World} {gf : Nat} {lb : Array Value}
    (hg : a.eval g = .func (.func gf) #[] lb) (eg : ∀ args w, (callFunc gf args).run P w = .ok (.enter gf args) w) {encs : α → Array Value} {xs : List α}
    {F : Nat → Prop} {R : World → Prop} (hseq : SeqR P gf lb encs xs F R) (hR : R w) (hRb : ∀ W W', R W → Below W.heap.size W W' → R W') (hFw : ∀ g, F g → g < w.heap.size) (hps : ∀ x, (encs x).size = ps.size)
    (I : Nat → (Nat → Prop) → World → Prop) (Ix : Code → Nat → (Nat → Prop) → World → Prop) (hI : LocB w.heap.size I) (hIx : ∀ c, LocB w.heap.size (Ix c)) (D0 : Nat → Prop) (hD0 : ∀ g, D0 g → ¬ F g ∧ g < w.heap.size) (h0 : I 0 D0 w) (a₁ : α → World → Act) (Wa : α → World → World) (hWa : ∀ x W, Below W.heap.size W (Wa x W))
    (hassign : ∀ (m l : Nat) (x : α) (W : World) (K : Act → World → Prop), K (a₁ x W) (Wa x W) →
      assign.wpIn (Fence.wide.inRound l) m P (Exit.then K (fun _ _ _ => False)) { tmps := (ps.zip (encs x)).foldl (fun t (p, v) => t.setIfInBounds p v) a.tmps, defers := [] } W)
    (hbody : ∀ (m l k : Nat) (x : α) (D : Nat → Prop) (V W : World) (o : Obj), xs[k]? = some x → w.heap.size ≤ l → l < V.heap.size → W = (Wa x V).putObj l o → In D V → ¬ D l → Gr D0 D w W → Chg D0 w W → I k D W → body.wpIn (Fence.wide.inRound l) m P (postF I Ix k D W) (a₁ x V) W)
    (hdone : ∀ (B : Nat) (D : Nat → Prop) (W : World), w.heap.size ≤ B → ¬ D B → Gr D0 D w W → Chg D0 w W → I xs.length D W → W.heap[B]? = some (.deferred (some [])) → Q .normal { a with defers := { target := .collected B, args := #[] } :: a.defers } W)
    (hstop : ∀ (B : Nat) (c : Code) (k : Nat) (D : Nat → Prop) (W : World), w.heap.size ≤ B → ¬ D B → Gr D0 D w W → Chg D0 w W → k ≤ xs.length → Ix c k D W → W.heap[B]? = some (.deferred (some [])) → c.wpIn Fence.wide n P Q { a with defers := { target := .collected B, args := #[] } :: a.defers } W) :
    (Code.rangeFunc g ps assign body).wpIn Fence.wide n P Q a w := by
  refine wpIn_rangeFunc (fun fn hfn => ?_)
  let rc : LoopState → Option Code → Obj := fun st pe => .loop { state := st, pending := pe, fn, tmps := a.tmps, params := ps, assign, body, defers := w.heap.size }
  let l := w.heap.size + 1
  let Wl := (w.alloc (.deferred (some []))).alloc (rc .ready none)
  have hsz : Wl.heap.size = w.heap.size + 2 := by simp [Wl]
  have hl : Wl.heap[l]? = some (rc .ready none) := by
    have := World.alloc_heap_new (w.alloc (.deferred (some []))) (rc .ready none)
    rw [World.size_alloc] at this; exact this
  have hd : Wl.heap[w.heap.size]? = some (.deferred (some [])) := (Below.heap_alloc _ _ _ (by simp)).trans (World.alloc_heap_new w _)
  have hB : Below w.heap.size w Wl := ((Below.refl _ w).alloc (Nat.le_refl _) _).alloc (by simp) _
  -- what is kept between the rounds
  let C : (Nat → Prop) → World → Prop := fun D W => ¬ D l ∧ ¬ D w.heap.size ∧ In D W ∧ Gr D0 D w W ∧ Chg D0 w W ∧ W.heap[w.heap.size]? = some (.deferred (some []))
  let E : (Nat → Prop) → Nat → Prop := fun D g => D g ∨ g = l ∨ g = w.heap.size
  let J : Nat → (Nat → Prop) → World → Prop := fun k F W => ∃ D, F = E D ∧ I k D W ∧ C D W ∧ W.heap[l]? = some (rc .ready none)
  let Jx : Nat → (Nat → Prop) → World → Prop := fun k F W => ∃ D c, F = E D ∧ Ix c k D W ∧ C D W ∧ W.heap[l]? = some (rc .done (some c))
  have stepC : ∀ {D : Nat → Prop} {W W' : World}, C D W → Chg (fun g => ¬ E D g ∧ Wl.heap.size ≤ g) W W' → C D W' := by
    rintro D W W' ⟨h1, h2, h3, h4, h5, h6⟩ hc
    have hlt := (Array.getElem?_eq_some_iff.1 h6).1
    refine ⟨h1, h2, h3.more hc.size, fun g hg => ?_, h5.trans hc (fun g hg => .inr (by have := hg.2; omega)), (hc.block _ hlt (fun h => h.1 (.inr (.inr rfl)))).trans h6⟩
    rcases h4 g hg with x | x
    · exact .inl x
    · exact .inr ⟨x.1, Nat.lt_of_lt_of_le x.2 hc.size⟩
  have toI : ∀ {D : Nat → Prop} {W W' : World}, Chg (fun g => ¬ E D g ∧ Wl.heap.size ≤ g) W W' → Chg (fun g => ¬ D g ∧ w.heap.size ≤ g) W W' := fun hc => hc.more (fun g hg => .inl ⟨fun h => hg.1 (.inl h), by have := hg.2; omega⟩)
  have locJ : LocB Wl.heap.size J := by
    rintro k F W W' ⟨D, rfl, h1, h2, h3⟩ hc
    exact ⟨D, rfl, hI _ _ _ _ h1 (toI hc), stepC h2 hc, (hc.block l (Array.getElem?_eq_some_iff.1 h3).1 (fun h => h.1 (.inr (.inl rfl)))).trans h3⟩
  have locJx : LocB Wl.heap.size Jx := by
    rintro k F W W' ⟨D, c, rfl, h1, h2, h3⟩ hc
    exact ⟨D, c, rfl, hIx c _ _ _ _ h1 (toI hc), stepC h2 hc, (hc.block l (Array.getElem?_eq_some_iff.1 h3).1 (fun h => h.1 (.inr (.inl rfl)))).trans h3⟩
  have c0 : C D0 Wl := ⟨fun h => by have := (hD0 _ h).2; simp only [l] at this; omega, fun h => by have := (hD0 _ h).2; omega, fun g hg => by have := (hD0 g hg).2; omega, Gr.refl _ _ _, Chg.of_below hB, hd⟩
  refine ⟨l, [{ target := .collected w.heap.size, args := #[] }], Wl, { target := .fn (.func gf) lb, args := #[.func (.yield l) #[] #[]] }, Wl, gf, #[.func (.yield l) #[] #[]] ++ lb, Wl, run_enterLoop_outer _ _ _ _ _, by simp only [resolve, hg]; simp [go_sem, l], fun _ _ => trivial, by simp [invoke, go_sem, eg], fun h => (by cases h), ?_⟩
  refine callsIn_wide.2 ((hseq l J Jx Wl (E D0) (hRb _ _ hR hB) ?_ ?_ locJ locJx ?_ ⟨D0, rfl, hI.bel h0 hB, c0, hl⟩).mono ?_)
  · rintro g (h | rfl | rfl)
    · exact (hD0 g h).1
    · intro hf; have := hFw _ hf; simp only [l] at this; omega
    · intro hf; have := hFw _ hf; omega
  · rintro g (h | rfl | rfl)
    · have := (hD0 g h).2; omega
    · simp only [l]; omega
    · omega
  · -- a round
    rintro m k x F W hx ⟨D, rfl, hi, ⟨n1, n2, hin, hgr, hch, hdf⟩, hr⟩ hin2
    have hlt : l < W.heap.size := (Array.getElem?_eq_some_iff.1 hr).1
    refine ⟨fn, _, assign, body, run_yield hr (hps x), roundIn_of_wpIn hfn (hassign m l x W _ ⟨_, run_beginRound (((hWa x W).block l hlt).trans hr) rfl, ?_⟩)⟩
    have hWx := hWa x W
    have b2 : ((Wa x W).putObj l (rc .busy none)).heap[l]? = some (rc .busy none) := World.putObj_heap_same (Nat.lt_of_lt_of_le hlt hWx.size)
    have k2 : ((Wa x W).putObj l (rc .busy none)).heap[w.heap.size]? = some (.deferred (some [])) := (World.putObj_heap_other (by simp [l])).trans ((hWx.block _ (Array.getElem?_eq_some_iff.1 hdf).1).trans hdf)
    have s2 : ((Wa x W).putObj l (rc .busy none)).heap.size = (Wa x W).heap.size := by simp
    have sa := hWx.size
    have i2 : I k D ((Wa x W).putObj l (rc .busy none)) := hI.put (hI.bel hi hWx) n1 (by simp [l]) _
    have cx : Chg (fun g => g = l) W ((Wa x W).putObj l (rc .busy none)) := (Chg.of_below hWx).trans (Chg.put (D := fun g => g = l) (Wa x W) _ rfl) (fun g hg => .inl hg)
    have hch2 : Chg D0 w ((Wa x W).putObj l (rc .busy none)) := hch.trans cx (fun g hg => .inr (by rw [hg]; simp [l]))
    have hgr2 : Gr D0 D w ((Wa x W).putObj l (rc .busy none)) := fun g hg => by
      rcases hgr g hg with y | y
      · exact .inl y
      · exact .inr ⟨y.1, by rw [s2]; omega⟩
    refine wpIn_mono (hbody m l k x D W _ _ hx (by simp [l]) hlt rfl hin n1 hgr2 hch2 i2) ?_
    have fin : ∀ {D' : Nat → Prop} {W3 : World} (o : Obj), Gr D D' ((Wa x W).putObj l (rc .busy none)) W3 → Chg D ((Wa x W).putObj l (rc .busy none)) W3 →
        W3.heap[l]? = some (rc .busy none) ∧ l < W3.heap.size ∧ ¬ D' l ∧ Gr (E D) (E D') W (W3.putObj l o) ∧ Chg (E D) W (W3.putObj l o) ∧ C D' (W3.putObj l o) := by
      intro D' W3 o hg3 hc3
      have e1 := (hc3.block l (by rw [s2]; omega) n1).trans b2
      have lt3 : l < W3.heap.size := (Array.getElem?_eq_some_iff.1 e1).1
      have hw : w.heap.size < W.heap.size := by simp only [l] at hlt; omega
      have e2 := (hc3.block w.heap.size (by rw [s2]; omega) n2).trans k2
      have s3 : (W3.putObj l o).heap.size = W3.heap.size := by simp
      have sz := hc3.size
      have nl : ¬ D' l := fun h => by rcases hg3 l h with x | x; exact n1 x; omega
      have nw : ¬ D' w.heap.size := fun h => by rcases hg3 _ h with x | x; exact n2 x; omega
      have in3 : In D' W3 := In.gr (fun g hg => by rw [s2]; have := hin g hg; omega) hg3 sz
      refine ⟨e1, lt3, nl, ?_, ?_, nl, nw, fun g hg => by rw [s3]; exact in3 g hg, ?_, ?_, (World.putObj_heap_other (by simp [l])).trans e2⟩
      · rintro g (h | h | h)
        · rcases hg3 g h with x | x
          · exact .inl (.inl x)
          · exact .inr ⟨by omega, by rw [s3]; exact x.2⟩
        · exact .inl (.inr (.inl h))
        · exact .inl (.inr (.inr h))
      · exact ((cx.more (G := E D) (fun g hg => .inl (.inr (.inl hg)))).trans hc3 (fun g hg => .inl (.inl hg))).trans (Chg.put (D := E D) W3 o (.inr (.inl rfl))) (fun g hg => .inl hg)
      · intro g hg
        rcases hg3 g hg with x | x
        · rcases hgr g x with y | y
          · exact .inl y
          · exact .inr ⟨y.1, by rw [s3]; omega⟩
        · exact .inr ⟨by omega, by rw [s3]; exact x.2⟩
      · refine (hch2.trans hc3 (fun g hg => ?_)).trans (Chg.put (D := fun g => g = l) W3 o rfl) (fun g hg => .inr (by rw [hg]; simp [l]))
        rcases hgr g hg with y | y
        · exact .inl y
        · exact .inr y.1
    rintro e a3 W3 hp
    cases e with
    | normal =>
      obtain ⟨D', hg3, hc3, hi3⟩ := hp
      obtain ⟨l3, lt3, nl, h1, h2, h3⟩ := fin (rc .ready none) hg3 hc3
      exact ⟨_, _, run_endRound none l3, E D', h1, h2, .inl ⟨rfl, D', rfl, hI.put hi3 nl (by simp [l]) _, h3, World.putObj_heap_same lt3⟩⟩
    | ret =>
      obtain ⟨D', hg3, hc3, hi3⟩ := hp
      obtain ⟨l3, lt3, nl, h1, h2, h3⟩ := fin (rc .done (some .ret)) hg3 hc3
      exact ⟨_, _, run_endRound (some .ret) l3, E D', h1, h2, .inr ⟨rfl, D', .ret, rfl, (hIx _).put hi3 nl (by simp [l]) _, h3, World.putObj_heap_same lt3⟩⟩
    | exit id =>
      obtain ⟨D', hg3, hc3, hi3⟩ := hp
      obtain ⟨l3, lt3, nl, h1, h2, h3⟩ := fin (rc .done (some (.exit id))) hg3 hc3
      exact ⟨_, _, run_endRound (some (.exit id)) l3, E D', h1, h2, .inr ⟨rfl, D', .exit id, rfl, (hIx _).put hi3 nl (by simp [l]) _, h3, World.putObj_heap_same lt3⟩⟩
    | goto t => exact hp.elim
    | panic ch => exact hp.elim
    | outgrown => exact hp.elim
  · -- behind it
    have back : ∀ {D : Nat → Prop} {W : World} (o : Obj), C D W → Gr D0 D w (W.putObj l o) ∧ Chg D0 w (W.putObj l o) ∧ (W.putObj l o).heap[w.heap.size]? = some (.deferred (some [])) := by
      rintro D W o ⟨n1, n2, hin, hgr, hch, hdf⟩
      refine ⟨fun g hg => by rw [show (W.putObj l o).heap.size = W.heap.size by simp]; exact hgr g hg, hch.trans (Chg.put (D := fun g => g = l) W _ rfl) (fun g hg => .inr (by rw [hg]; simp [l])), (World.putObj_heap_other (by simp [l])).trans hdf⟩
    rintro e W2 ⟨⟨v, rfl⟩, F, _, _, (⟨D, rfl, hi, hc, hr⟩ | ⟨k, hk, D, c, rfl, hi, hc, hr⟩)⟩
    · obtain ⟨h1, h2, h3⟩ := back _ hc
      exact ⟨none, _, run_endLoop hr (by simp), hdone _ D _ (Nat.le_refl _) hc.2.1 h1 h2 (hI.put hi hc.1 (by simp [l]) _) h3⟩
    · obtain ⟨h1, h2, h3⟩ := back _ hc
      exact ⟨some c, _, run_endLoop hr (by simp), hstop _ c k D _ (Nat.le_refl _) hc.2.1 h1 h2 hk ((hIx c).put hi hc.1 (by simp [l]) _) h3⟩
end Go.Proofs.YtilnpeekajnlhaaGreat
namespace Go.Proofs.YtilnpeekajnlhaaGreat
open Go.RowKit Go.Maps Go.Shelf
attribute [local go_sem] Oper.semAt_some
theorem drew_bel (w : World) : Below w.heap.size w w.drew := (Below.refl _ _).drew
def calm (Q : Exit → Act → World → Prop) : Exit → Act → World → Prop
  | .normal, a, w => Q .normal a w
  | _, _, _ => False
theorem calm_normal {Q : Exit → Act → World → Prop} {a : Act} {w : World} (h : Q .normal a w) : calm Q .normal a w := h
theorem wpIn_calm {Fc : Fence} {n : Nat} {P : Program} {c : Code} {Q : Exit → Act → World → Prop} {a : Act} {w : World} (h : c.wpIn Fc n P (calm Q) a w) : c.wpIn Fc n P Q a w :=
  wpIn_mono h (fun e a w h => by cases e <;> first | exact h | exact h.elim)
theorem calm_out {Q : Exit → Act → World → Prop} : ¬ LetsOut (calm Q) := fun ⟨_, _, h⟩ => h
theorem upon_round {P : Program} {o : Oper} {a : Act} {K K' : Act → World → Prop} {Q : Exit → Act → World → Prop} (hK : ∀ a w, K a w → K' a w) (l n : Nat) {r : Result Next} (h : o.upon P a K Q r) : o.uponIn (Fence.wide.inRound l) n P a K' Q r := by
  unfold Oper.upon at h
  unfold Oper.uponIn
  split at h
  · exact hK _ _ h
  · exact hK _ _ h
  · exact hK _ _ h
  · refine ⟨fun h => (by cases h), (CallsIn.inRound l (callsIn_wide.2 h)).mono ?_⟩
    intro e w' h'
    cases e with
    | returned v => exact hK _ _ h'
    | panicked c => exact h'
    | outgrown => exact h'
  · refine ⟨fun h => (by cases h), ?_⟩
    intro c cs _
    obtain ⟨v, w', hv, hs⟩ := h c cs
    exact ⟨v, w', hK _ _ hv, stepsIn_wide.2 hs⟩
  · exact h
  · cases h
theorem any_round {P : Program} {md : Region.Mode} {ops : Array Oper} {Q : Exit → Act → World → Prop} (l n : Nat) (hd : ∀ o ∈ ops, ∀ c, o.op ≠ .defer c) :
    ∀ {fuel : Nat} {listed : Array Bool} {a : Act} {w : World}, wpAny P md ops (calm Q) fuel listed a w → wpAnyIn (Fence.wide.inRound l) n P md ops (calm Q) fuel listed a w := by
  intro fuel
  induction fuel with
  | zero => intro listed a w h; exact h
  | succ fuel ih =>
    intro listed a w h
    refine ⟨h.1, fun i hi => ?_⟩
    have h2 := h.2 i hi
    unfold wpOp at h2
    unfold wpOpIn
    cases ho : ops[i]? with
    | none => rw [ho] at h2; exact ih h2
    | some o =>
      rw [ho] at h2
      simp only at h2 ⊢
      split
      next hw =>
        rw [if_pos hw] at h2
        have h3 := h2.resolve_right (fun q => calm_out q.2)
        refine ⟨fun f _ => trivial, ?_⟩
        rw [Oper.semAt_eq _ _ _ (hd o (Array.mem_of_getElem? ho))]
        exact upon_round (fun a w h => ih h) l n h3
      next hw =>
        rw [if_neg hw] at h2
        exact ⟨fun f _ => trivial, ih h2⟩
/-- A region in a round. -/
theorem region_round {P : Program} {id : Nat} {ops : Array Oper} {Q : Exit → Act → World → Prop} {l n : Nat} {a : Act} {w : World} (hm : P.follows .mixedOrders = true) (hd : ∀ o ∈ ops, ∀ c, o.op ≠ .defer c)
    (h : wpAny P .any ops (calm Q) ops.size (Array.replicate ops.size false) a w.drew) : (Code.region id ops true).wpIn (Fence.wide.inRound l) n P Q a w :=
  wpIn_calm (wpIn_region_any hm (any_round l n hd h))
theorem region_round_held {P : Program} {id : Nat} {ops : Array Oper} {Q : Exit → Act → World → Prop} {S : World → Prop} {l n : Nat} {a : Act} {w : World} (hm : P.follows .mixedOrders = true) (hd : ∀ o ∈ ops, ∀ c, o.op ≠ .defer c) (hS : S w.drew)
    (h : S w.drew → wpAnyH P .any ops (calm Q) S ops.size (Array.replicate ops.size false) a w.drew) : (Code.region id ops true).wpIn (Fence.wide.inRound l) n P Q a w :=
  region_round hm hd (wpAny_of_held _ _ _ _ (h hS))
end Go.Proofs.YtilnpeekajnlhaaGreat
namespace Go.Proofs.YtilnpeekajnlhaaGreat
open Go.RowKit Go.Maps Go.Shelf
attribute [local go_sem] Oper.semAt_some
theorem gc_step {D E E2 : Nat → Prop} {W wr w2 W3 : World} (hg : Gr D E W wr) (hc : Chg D W wr) (hb : Below wr.heap.size wr w2) (hg2 : Gr E E2 w2 W3) (hc2 : Chg E w2 W3) : Gr D E2 W W3 ∧ Chg D W W3 := by
  refine ⟨hg.trans (fun g h => ?_) hc.size (Nat.le_trans hb.size hc2.size), (hc.trans (Chg.of_below (D := E) hb) (fun g h => ?_)).trans hc2 (fun g h => ?_)⟩
  · rcases hg2 g h with x | x
    · exact .inl x
    · exact .inr ⟨Nat.le_trans hb.size x.1, x.2⟩
  · rcases hg g h with x | x
    · exact .inl x
    · exact .inr x.1
  · rcases hg g h with x | x
    · exact .inl x
    · exact .inr x.1
theorem upto_get {p : List ByteArray} {f t : ByteArray} {m k : Nat} (h : k < m) : (Pv.upto p f t m)[k]? = some (Pv.prtOf p f t k) := by simp [Pv.upto, h]
set_option maxRecDepth 100000 in
set_option maxHeartbeats 4000000 in
theorem all_seq (B1 B2 B3 lo hi : Nat) (p : List ByteArray) (f t : ByteArray) (hn : p.length ≤ 1000) : SeqR Tryz.prog 95 #[.pointer (some ⟨B1, 0, none⟩), .pointer (some ⟨B2, 0, none⟩), .pointer (some ⟨B3, 0, none⟩)] Pv.encs (Pv.upto p f t (Pv.many p f t)) (fun g => lo ≤ g ∧ g < hi) (fun W => Pv.It W lo hi B1 B2 B3 p f t) := by
  intro l J Jx W D HHW hD hin hJ hJx hY h0
  refine (callsIn_wide (n := 3)).1 ?_
  have c1 := HHW.c1
  have hm := Pv.many_le p f t
  have HRD : Hid (∀ V, Chg D W V → Pv.It V lo hi B1 B2 B3 p f t) := Lib.hid (fun V hV => HHW.kp ⟨hV.size, fun g a b => hV.block g (by have := HHW.hs; omega) (fun d => hD g d ⟨a, b⟩)⟩)
  have HY := Lib.hid hY
  have J2 := Lib.hid h0
  have HI := Lib.hid hin
  have HJL := Lib.hid hJ
  have HLN : Hid ((Pv.upto p f t (Pv.many p f t)).length = Pv.many p f t) := Lib.hid (Pv.upto_length _ _ _ _)
  have HUG : Hid (∀ k, k < Pv.many p f t → (Pv.upto p f t (Pv.many p f t))[k]? = some (Pv.prtOf p f t k)) := Lib.hid (fun k h => upto_get h)
  clear hD hJ hY h0 hin HHW
  refine callsIn_of_wp Tryz.func95 rfl trivial ?_ rfl
  simp only [Tryz.ntmps95, List.size_toArray, List.length_cons, List.length_nil, Nat.reduceAdd, Nat.reduceSub, Array.replicate_succ, Array.replicate_zero, List.push_toArray, List.append_toArray, List.nil_append, List.cons_append]
  gi_wp2
  gi_loopw [5, 7] (fun _ iv wr => ∃ (k : Nat) (E : Nat → Prop), k ≤ Pv.many p f t ∧ iv = .int .i64 k ∧ J k E wr ∧ Gr D E W wr ∧ Chg D W wr) (fun _ i _ => Pv.many p f t - (intOf i).toNat)
  case atStart => exact ⟨0, D, Nat.zero_le _, rfl, J2.out, Gr.refl _ _ _, Chg.refl _ _⟩
  case round =>
    obtain ⟨k, E, hk, rfl, hj, hgr, hch⟩ := hrel
    have HGR := Lib.hid hgr
    have HCH := Lib.hid hch
    have HJK := Lib.hid hj
    clear hgr hch hj
    by_cases hlt : k < Pv.many p f t
    · have hk1 : (k : Int) < (Pv.many p f t : Int) := by omega
      have hk0 : (0 : Int) ≤ (k : Int) := by omega
      have hk9 : (k : Int) ≤ 1001 := by omega
      obtain ⟨A, c, g1, g2, _⟩ := (HRD.out wr HCH.out).c2
      have g3 := (HRD.out wr HCH.out).c3.1
      have g4 := (HRD.out wr HCH.out).c3.2
      have PC := Lib.hid (Pv.piece_any A p p.length c k f t wr rfl hn (by omega) g2)
      clear g2
      gi_wp2_with (first
        | (refine ⟨trivial, ?_⟩; gi_at_call 93; refine (callsIn_wide.2 PC.out).mono ?_; rintro e w2 ⟨rfl, b2⟩; have B2H := Lib.hid b2; clear b2; obtain ⟨fn, tmps, assign, body, hy, hRd⟩ := HY.out 2 k (Pv.prtOf p f t k) E w2 (HUG.out k hlt) (HJL.out.bel HJK.out B2H.out) ((HI.out.gr HGR.out HCH.out.size).more B2H.out.size); have HRD3 := Lib.hid hRd; simp only [Pv.encs, Pv.prtOf] at hy; clear hRd)
        | fail)
      refine HRD3.out.mono ?_
      rintro e W3 ⟨E2, hg2, hc2, (⟨rfl, hj⟩ | ⟨rfl, hj⟩)⟩
      · have HG := Lib.hid (gc_step HGR.out HCH.out B2H.out hg2 hc2)
        have HJ3 := Lib.hid hj
        clear hg2 hc2 hj
        gi_wp2
        go_roundw
        case rel => exact ⟨k + 1, E2, by omega, by simp, HJ3.out, HG.out.1, HG.out.2⟩
        case measure => simp [intOf]; omega
      · have HG := Lib.hid (gc_step HGR.out HCH.out B2H.out hg2 hc2)
        have HJ3 := Lib.hid hj
        clear hg2 hc2 hj
        gi_wp2
        refine bodyPost_ret (results_none rfl _ _ _) rfl ?_
        exact ⟨⟨_, rfl⟩, E2, HG.out.1, HG.out.2, .inr ⟨k + 1, by rw [HLN.out]; omega, HJ3.out⟩⟩
    · have hk1 : ¬ (k : Int) < (Pv.many p f t : Int) := by omega
      have e : k = Pv.many p f t := by omega
      have HE := Lib.hid e
      clear e
      gi_wp2
      go_end0
      exact ⟨⟨_, rfl⟩, E, HGR.out, HCH.out, .inl (by rw [HLN.out, ← HE.out]; exact HJK.out)⟩
end Go.Proofs.YtilnpeekajnlhaaGreat
