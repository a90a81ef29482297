/- A row of numbers: each, Of, Where (after wip/m). -/
import Derived.Test.YtniffjjkjgfacaaZ5
namespace Go.Proofs.Ytniffjjkjgfacaa
set_option linter.unusedSimpArgs false
open Go.RowKit Go.Maps Go.Shelf
set_option linter.unusedVariables false
attribute [local go_sem] Oper.semAt_some
abbrev yv (l : Nat) : Value := .func (.yield l) #[] #[]
theorem take_more {xs : List Int} {k : Nat} {x : Int} (h : xs[k]? = some x) : xs.take (k + 1) = xs.take k ++ [x] := by rw [List.take_add_one, h]; rfl
theorem list_split {xs : List Int} {k : Nat} {x : Int} (h : xs[k]? = some x) : xs = xs.take k ++ x :: xs.drop (k + 1) := by
  have hk := (List.getElem?_eq_some_iff.1 h).1
  have hx := (List.getElem?_eq_some_iff.1 h).2
  conv => lhs; rw [← List.take_append_drop k xs]
  rw [List.drop_eq_getElem_cons hk, hx]


abbrev TT := Int
abbrev encI (x : TT) : Array Value := #[.int .i64 x]
theorem run_isnil (g : Fn) (r l : Array Value) (W : World) : Sem.run Try.prog (binOp BinOp.eql 51 (Value.func g r l) Value.nilFunc) W = .ok (.bool false) W := by
  have h0 : ∀ d : Nat, (Op.equalIn (d + 1) 51 (Value.func g r l) Value.nilFunc).run Try.prog W = .ok false W := fun d => by simp [Op.equalIn, run_underlying Try.underlying51]
  have h1 := h0 9999
  have e : Op.equal 51 (Value.func g r l) Value.nilFunc = Op.equalIn (9999 + 1) 51 (Value.func g r l) Value.nilFunc := rfl
  rw [← e] at h1
  simp [binOp, go_sem, h1]
theorem cell_at {W : World} {b : Nat} {cs : Array Value} {t : TypeId} {fr : Nat × Nat} (h : W.heap[b]? = some (.cells cs t fr)) (j : Nat) : W.cell? ⟨b, j, none⟩ = cs[j]? := by simp only [World.cell?, h]; simp
/-- How each ends. -/
def EachPost (n : Nat) (J Jx : Nat → (Nat → Prop) → World → Prop) (D : Nat → Prop) (w : World) (e : Ending) (W : World) : Prop :=
  ∃ D', Gr D D' w W ∧ Chg D w W ∧ ((e = .returned (.bool true) ∧ J n D' W) ∨ (e = .returned (.bool false) ∧ ∃ k, k ≤ n ∧ Jx k D' W))
section
variable (J Jx : Nat → (Nat → Prop) → World → Prop) (b0 b1 : Nat) (tell : Value)
/-- What lies between the rounds. -/
def EaI (k : Nat) (E : Nat → Prop) (W : World) : Prop := ∃ D, E = (fun g => D g ∨ g = b1) ∧ J k D W ∧ ¬ D b1 ∧ ¬ D b0 ∧ Boxed W b0 64 tell ∧ Boxed W b1 4 (.bool false)
def EaX (c : Code) (k : Nat) (E : Nat → Prop) (W : World) : Prop := c = .ret ∧ ∃ D, E = (fun g => D g ∨ g = b1) ∧ Jx k D W ∧ ¬ D b1 ∧ Boxed W b1 4 (.bool false)
end
theorem eaI_loc {J : Nat → (Nat → Prop) → World → Prop} {b0 b1 B B' : Nat} {tell : Value} (hJ : LocB B J) (h0 : b0 < B') (h1 : b1 < B') (hB : B ≤ B') : LocB B' (EaI J b0 b1 tell) := by
  rintro k E W W' ⟨D, rfl, h2, h3, h3b, h4, h5⟩ hc
  exact ⟨D, rfl, hJ _ _ _ _ h2 (hc.more (fun g hg => .inl ⟨fun h => hg.1 (.inl h), by omega⟩)), h3, h3b, boxed_chg h4 hc (fun h => by omega), boxed_chg h5 hc (fun h => by omega)⟩
theorem eaX_loc {Jx : Nat → (Nat → Prop) → World → Prop} {b1 B B' : Nat} (hJ : LocB B Jx) (h1 : b1 < B') (hB : B ≤ B') (c : Code) : LocB B' (EaX Jx b1 c) := by
  rintro k E W W' ⟨hc0, D, rfl, h2, h3, h5⟩ hc
  exact ⟨hc0, D, rfl, hJ _ _ _ _ h2 (hc.more (fun g hg => .inl ⟨fun h => hg.1 (.inl h), by omega⟩)), h3, boxed_chg h5 hc (fun h => by omega)⟩
theorem gr_or {D D' : Nat → Prop} {a b : World} (h : Gr D D' a b) (r : Nat) : Gr (fun g => D g ∨ g = r) (fun g => D' g ∨ g = r) a b := by
  rintro g (x | x)
  · rcases h g x with y | y
    · exact .inl (.inl y)
    · exact .inr y
  · exact .inl (.inr x)
theorem gr_not {D D' : Nat → Prop} {a b : World} (h : Gr D D' a b) {r : Nat} (hn : ¬ D r) (hr : r < a.heap.size) : ¬ D' r := fun hx => by
  rcases h r hx with y | y
  · exact hn y
  · omega
theorem each_gr {D D' : Nat → Prop} {w V W W' : World} {r : Nat} (hb : Below w.heap.size w V) (h : Gr (fun g => D g ∨ g = r) (fun g => D' g ∨ g = r) V W) (hin : In D w) (hs : W.heap.size ≤ W'.heap.size) (hn : ¬ D' r) : Gr D D' w W' := by
  intro g hg
  rcases h g (.inl hg) with (x | x) | x
  · exact .inl x
  · exact absurd (x ▸ hg) hn
  · exact .inr ⟨Nat.le_trans hb.size x.1, Nat.lt_of_lt_of_le x.2 hs⟩
set_option maxRecDepth 100000 in
set_option maxHeartbeats 4000000 in
theorem each_in {h g : FuncId} (eh : ∀ args w, (callFunc h args).run Try.prog w = .ok (.enter h args) w) (eg : ∀ args w, (callFunc g args).run Try.prog w = .ok (.enter g args) w) {lb cap : Array Value} {xs : List TT} {w : World} {F : Nat → Prop} {R : World → Prop}
    (hseq : SeqR Try.prog g lb encI xs F R) (hR : R w) (hRb : ∀ W W', R W → Below W.heap.size W W' → R W') (hFw : ∀ g, F g → g < w.heap.size) {J Jx : Nat → (Nat → Prop) → World → Prop} (hJ : LocB w.heap.size J) (hJx : LocB w.heap.size Jx) {D : Nat → Prop} (hD : ∀ g, D g → ¬ F g) (hin : In D w)
    (hT : ∀ k x D W, xs[k]? = some x → J k D W → In D W → Calls Try.prog h (encI x ++ cap) W (TellPost J Jx k D W)) (h0 : J 0 D w) :
    CallsIn Fence.wide 4 Try.prog 35 #[.func (.func g) #[] lb, .func (.func h) #[] cap] w (EachPost xs.length J Jx D w) := by
  have hnil := run_isnil (.func g) #[] lb
  have HS := Lib.hid hseq
  have HT := Lib.hid hT
  have H0 := Lib.hid h0
  clear hseq hT h0
  refine callsIn_of_wp_marks Try.func35 rfl trivial ?_ rfl
  simp only [Try.ntmps35, List.size_toArray, List.length_cons, List.length_nil, Nat.reduceAdd, Nat.reduceSub, Array.replicate_succ, Array.replicate_zero, List.push_toArray, List.append_toArray, List.nil_append, List.cons_append]
  gi_wp2
  have bT : Boxed ((w.alloc (.cells #[.func (.func h) #[] cap] 64)).alloc (.cells #[.bool false] 4)) w.heap.size 64 (.func (.func h) #[] cap) := (Boxed.new w 64 _).alloc _
  have bR : Boxed ((w.alloc (.cells #[.func (.func h) #[] cap] 64)).alloc (.cells #[.bool false] 4)) (w.heap.size + 1) 4 (.bool false) := by
    have := Boxed.new (w.alloc (.cells #[.func (.func h) #[] cap] 64)) 4 (.bool false)
    simpa only [World.size_alloc] using this
  have bV : Below w.heap.size w ((w.alloc (.cells #[.func (.func h) #[] cap] 64)).alloc (.cells #[.bool false] 4)) := bel_alloc (bel_alloc (Below.refl _ _) _) _
  have zV : ((w.alloc (.cells #[.func (.func h) #[] cap] 64)).alloc (.cells #[.bool false] 4)).heap.size = w.heap.size + 2 := by simp
  generalize ((w.alloc (.cells #[.func (.func h) #[] cap] 64)).alloc (.cells #[.bool false] 4)) = V at *
  refine range_R (gf := g) (lb := lb) (encs := encI) (xs := xs) rfl eg HS.out (hRb _ _ hR bV) hRb (fun g hg => by have := hFw g hg; omega) (fun _ => rfl) (EaI J w.heap.size (w.heap.size + 1) (.func (.func h) #[] cap)) (EaX Jx (w.heap.size + 1)) (eaI_loc hJ (by omega) (by omega) (by omega)) (fun c => eaX_loc hJx (by omega) (by omega) c)
    (fun g => D g ∨ g = w.heap.size + 1) (fun g hg => ?_) ⟨D, rfl, hJ.bel H0.out bV, fun h => by have := hin _ h; omega, fun h => by have := hin _ h; omega, bT, bR⟩
    (fun x W => { tmps := #[.func (.func g) #[] lb, .func (.func h) #[] cap, undef, .pointer (some ⟨w.heap.size, 0, none⟩), .pointer (some ⟨w.heap.size + 1, 0, none⟩), .int .i64 x, .func (.func g) #[] lb, .bool false, .func (.func g) #[] lb, .int .i64 x, undef, undef, undef, undef], defers := [] }) (fun x W => W) (fun x W => Below.refl _ _) ?assign ?body ?done ?stop
  · rcases hg with hg | hg
    · exact ⟨hD g hg, by have := hin g hg; omega⟩
    · exact ⟨fun hf => by have := hFw g hf; omega, by omega⟩
  case assign =>
    intro m l x W K hK
    gi_wp2
    exact hK
  case body =>
    rintro m l k x E U W o hx hl hlU rfl hinE hlE hgr hch ⟨D', rfl, hJk, hn1, hn0, hbT, hbR⟩
    have cT := hbT.cell
    have cR := hbR.cell
    have fR := hbR.frozen
    have sz : U.heap.size ≤ (U.putObj l o).heap.size := by simp
    have TELL := Lib.hid (HT.out k x D' (U.putObj l o) hx hJk (fun g hg => by have := hinE g (.inl hg); omega))
    generalize (U.putObj l o) = W at *
    have hJk2 := Lib.hid hJk
    have SZ := Lib.hid sz
    clear hJk sz hnil hch hgr
    gi_wp2_with fail
    refine ⟨trivial, fun h => (by cases h), (CallsIn.inRound l (callsIn_wide.2 TELL.out)).mono ?_⟩
    rintro e W3 ⟨D2, hg2, hc2, (⟨rfl, hj⟩ | ⟨rfl, hj⟩)⟩
    · have HJ := Lib.hid hj
      have HG := Lib.hid hg2
      have HC := Lib.hid hc2
      clear hj hg2 hc2
      gi_wp2
      exact ⟨_, gr_or HG.out _, HC.out.more (fun g hg => .inl (.inl hg)), D2, rfl, HJ.out, gr_not HG.out hn1 (by have := hbR.lt; omega), gr_not HG.out hn0 (by have := hbT.lt; omega), boxed_chg hbT HC.out hn0, boxed_chg hbR HC.out hn1⟩
    · have bR3 := boxed_chg hbR hc2 hn1
      have cR3 := bR3.cell
      have fR3 := bR3.frozen
      have n3 : ¬ D2 (w.heap.size + 1) := gr_not hg2 hn1 (by have := hbR.lt; omega)
      have HJ := Lib.hid hj
      have HG := Lib.hid hg2
      have HC := Lib.hid hc2
      clear hj hg2 hc2
      gi_wp2
      refine ⟨fun g => D2 g ∨ g = w.heap.size + 1, gr_up (gr_or HG.out _) (by simp [World.setCell]), (HC.out.more (fun g hg => .inl (.inl hg))).trans (Chg.set (D := fun g => g = w.heap.size + 1) W3 _ rfl) (fun g hg => .inl (.inr hg)), rfl, D2, rfl, ?_, n3, by simpa using bR3.set (.bool false)⟩
      exact hJx _ _ _ _ HJ.out (Chg.set W3 _ ⟨n3, by omega⟩)
  case done =>
    rintro B E W hB hEB hgr hch ⟨D', rfl, hJk, hn1, hn0, hbT, hbR⟩ hK
    have cR := hbR.cell
    have fR := hbR.frozen
    gi_wp2
    have hBR : w.heap.size + 1 ≠ B := by omega
    have hKs : (W.setCell ⟨w.heap.size + 1, 0, none⟩ (.bool true)).heap[B]? = some (.deferred (some [])) := (Below.heap_setCell _ _ _ _ (fun e => hBR e.symm)).trans hK
    have bR2 := hbR.set (.bool true)
    have cRf := (show Boxed ((W.setCell ⟨w.heap.size + 1, 0, none⟩ (.bool true)).putObj B (.deferred none)) (w.heap.size + 1) 4 (.bool true) from (World.putObj_heap_other hBR).trans bR2).cell
    have hDB : ¬ D' B := fun h => hEB (.inl h)
    refine ⟨by simp, .inl ⟨_, _, rfl, run_takeDeferred hKs, .bool true, by simp [results, Try.results35, go_sem, cRf], D', ?_, ?_, .inl ⟨rfl, ?_⟩⟩⟩
    · exact each_gr bV hgr hin (by simp [World.setCell]) hn1
    · exact ((((Chg.of_below bV).trans hch (fun g hg => hg.elim .inl (fun e => .inr (by omega)))).trans (Chg.set (D := fun g => g = w.heap.size + 1) W _ rfl) (fun g hg => .inr (by omega))).trans (Chg.put (D := fun g => g = B) _ _ rfl) (fun g hg => .inr (by omega)))
    · exact hJ.put (hJ.set hJk hn1 (by omega) _) hDB (by omega) _
  case stop =>
    rintro B c k E W hB hEB hgr hch hk ⟨rfl, D', rfl, hJk, hn1, hbR⟩ hK
    gi_wp2
    have hBR : w.heap.size + 1 ≠ B := by omega
    have cRf := (show Boxed (W.putObj B (.deferred none)) (w.heap.size + 1) 4 (.bool false) from (World.putObj_heap_other hBR).trans hbR).cell
    have hDB : ¬ D' B := fun h => hEB (.inl h)
    refine ⟨by simp, .inl ⟨_, _, rfl, run_takeDeferred hK, .bool false, by simp [results, Try.results35, go_sem, cRf], D', ?_, ?_, .inr ⟨rfl, k, hk, ?_⟩⟩⟩
    · exact each_gr bV hgr hin (by simp) hn1
    · exact (((Chg.of_below bV).trans hch (fun g hg => hg.elim .inl (fun e => .inr (by omega)))).trans (Chg.put (D := fun g => g = B) _ _ rfl) (fun g hg => .inr (by omega)))
    · exact hJx.put hJk hDB (by omega) _


set_option maxRecDepth 100000 in
set_option maxHeartbeats 4000000 in
theorem of_seq (B : Nat) (A : Option Addr) (n c : Nat) (xs : List Int) (hlen : xs.length = n) (hn : n ≤ 100000) :
    SeqR Try.prog 37 #[.pointer (some ⟨B, 0, none⟩)] encI xs (FV B A xs) (RV B A n c xs) := by
  intro l J Jx W D HHW hD hin hJ hJx hY h0
  refine (callsIn_wide (n := 3)).1 ?_
  have c1 := HHW.1.cell
  have HRD : Hid (∀ V, Chg D W V → EI.Rd V A xs) := Lib.hid (fun V hV => ei_chg HHW.2 hV (fun h0 a ha hd => hD _ hd (.inr ⟨h0, a, ha, rfl⟩)))
  have HLN := Lib.hid hlen
  have HY := Lib.hid hY
  have J2 := Lib.hid h0
  have HI := Lib.hid hin
  clear hD hJ hY h0 hin HHW hlen
  refine callsIn_of_wp Try.func37 rfl trivial ?_ rfl
  simp only [Try.ntmps37, List.size_toArray, List.length_cons, List.length_nil, Nat.reduceAdd, Nat.reduceSub, Array.replicate_succ, Array.replicate_zero, List.push_toArray, List.append_toArray, List.nil_append, List.cons_append]
  gi_wp2
  gi_loopw [7] (fun iv wr => ∃ (k : Nat) (E : Nat → Prop), k ≤ n ∧ iv = .int .i64 k ∧ J k E wr ∧ Gr D E W wr ∧ Chg D W wr) (fun i _ => n - (intOf i).toNat)
  case atStart => exact ⟨0, D, Nat.zero_le _, rfl, J2.out, Gr.refl _ _ _, Chg.refl _ _⟩
  case round =>
    obtain ⟨k, E, hk, rfl, hj, hgr, hch⟩ := hrel
    have HGR := Lib.hid hgr
    have HCH := Lib.hid hch
    have HJK := Lib.hid hj
    clear hgr hch hj
    by_cases hlt : k < n
    · obtain ⟨x, hx⟩ : ∃ x, xs[k]? = some x := ⟨_, List.getElem?_eq_getElem (by rw [HLN.out]; exact hlt)⟩
      obtain ⟨b, off, rfl, hbl, g0⟩ := ei_at (HRD.out wr HCH.out) hx
      have hk1 : (k : Int) < (n : Int) := by omega
      have hk0 : (0 : Int) ≤ (k : Int) := by omega
      have hk9 : (k : Int) ≤ 100000 := by omega
      obtain ⟨fn, tmps, assign, body, hy, hRd⟩ := HY.out 2 k x E wr hx HJK.out (HI.out.gr HGR.out HCH.out.size)
      have HRD3 := Lib.hid hRd
      simp only [encI] at hy
      clear hRd hx
      gi_wp2
      refine HRD3.out.mono ?_
      rintro e W3 ⟨E2, hg2, hc2, (⟨rfl, hj⟩ | ⟨rfl, hj⟩)⟩
      · have HG := Lib.hid (gc_step HGR.out HCH.out (Below.refl _ _) hg2 hc2)
        have HJ3 := Lib.hid hj
        clear hg2 hc2 hj
        gi_wp2
        go_roundw
        case rel => exact ⟨k + 1, E2, by omega, by simp, HJ3.out, HG.out.1, HG.out.2⟩
        case measure => simp [intOf]; omega
      · have HG := Lib.hid (gc_step HGR.out HCH.out (Below.refl _ _) hg2 hc2)
        have HJ3 := Lib.hid hj
        clear hg2 hc2 hj
        gi_wp2
        refine bodyPost_ret (results_none rfl _ _ _) rfl ?_
        exact ⟨⟨_, rfl⟩, E2, HG.out.1, HG.out.2, .inr ⟨k + 1, by rw [HLN.out]; omega, HJ3.out⟩⟩
    · have hk1 : ¬ (k : Int) < (n : Int) := by omega
      have e : k = n := by omega
      have HE := Lib.hid e
      clear e
      gi_wp2
      go_end0
      exact ⟨⟨_, rfl⟩, E, HGR.out, HCH.out, .inl (by rw [HLN.out, ← HE.out]; exact HJK.out)⟩
/-- What lies between the tellings. -/
structure WhJ (J : Nat → (Nat → Prop) → World → Prop) (xs : List TT) (p : TT → Bool) (Q : World → Prop) (FQ : Nat → Prop) (l yb k : Nat) (E : Nat → Prop) (V : World) : Prop where
  j : J ((xs.take k).filter p).length E V
  ny : ¬ E yb
  by_ : Boxed V yb 64 (yv l)
  b0 : Q V
  lo : ∀ g, E g → ¬ FQ g
  fq : ∀ g, FQ g → g < V.heap.size
def WhX (Jx : Nat → (Nat → Prop) → World → Prop) (xs : List TT) (p : TT → Bool) (k : Nat) (E : Nat → Prop) (V : World) : Prop := Jx ((xs.take k).filter p).length E V
theorem whJ_loc {J : Nat → (Nat → Prop) → World → Prop} {B B' : Nat} (hJ : LocB B J) (hB : B ≤ B') {xs : List TT} {p : TT → Bool} {Q : World → Prop} {FQ : Nat → Prop} (hQc : ∀ {D W W'}, Q W → Chg D W W' → (∀ g, D g → ¬ FQ g) → Q W') {l yb : Nat} (hy : yb < B') (h0 : ∀ g, FQ g → g < B') : LocB B' (WhJ J xs p Q FQ l yb) := by
  rintro k E V V' ⟨h1, h2, h3, h4, h5, h6⟩ hc
  exact ⟨hJ _ _ _ _ h1 (hc.more (fun g hg => .inl ⟨hg.1, by omega⟩)), h2, boxed_chg h3 hc (fun h => by omega), hQc h4 hc (fun g hg hf => by have := h0 g hf; omega), h5, fun g hf => Nat.lt_of_lt_of_le (h6 g hf) hc.size⟩
theorem whX_loc {Jx : Nat → (Nat → Prop) → World → Prop} {B B' : Nat} (hJx : LocB B Jx) (hB : B ≤ B') {xs : List TT} {p : TT → Bool} : LocB B' (WhX Jx xs p) := by
  rintro k E V V' h hc
  exact hJx _ _ _ _ h (hc.more (fun g hg => .inl ⟨hg.1, by omega⟩))
theorem filt_in {xs : List TT} {p : TT → Bool} {k : Nat} {x : TT} (h : xs[k]? = some x) (hp : p x = true) : (xs.take (k + 1)).filter p = (xs.take k).filter p ++ [x] ∧ (xs.filter p)[((xs.take k).filter p).length]? = some x := by
  refine ⟨by rw [take_more h, List.filter_append]; simp [List.filter_cons, hp], ?_⟩
  have e1 := list_split h
  conv => lhs; rw [e1]
  rw [List.filter_append, List.filter_cons, if_pos hp]
  have : (List.take k (List.take k xs ++ x :: List.drop (k + 1) xs)) = List.take k xs := by rw [← e1]
  rw [this, List.getElem?_append_right (Nat.le_refl _)]; simp
theorem filt_out {xs : List TT} {p : TT → Bool} {k : Nat} {x : TT} (h : xs[k]? = some x) (hp : p x = false) : (xs.take (k + 1)).filter p = (xs.take k).filter p := by
  rw [take_more h, List.filter_append]; simp [List.filter_cons, hp]
theorem filt_le (xs : List TT) (p : TT → Bool) (k : Nat) : ((xs.take k).filter p).length ≤ (xs.filter p).length := by
  conv => rhs; rw [← List.take_append_drop k xs]
  rw [List.filter_append, List.length_append]; omega
set_option maxRecDepth 100000 in
set_option maxHeartbeats 4000000 in
theorem where2_any {xs : List TT} {p : TT → Bool} {Q : World → Prop} {FQ : Nat → Prop} (hQc : ∀ {D W W'}, Q W → Chg D W W' → (∀ g, D g → ¬ FQ g) → Q W') {ok : FuncId} (eok : ∀ args w, (callFunc ok args).run Try.prog w = .ok (.enter ok args) w) {cap : Array Value}
    (hok : ∀ (x : TT), x ∈ xs → ∀ (U : World), Q U → Calls Try.prog ok (encI x ++ cap) U fun e w' => e = .returned (.bool (p x)) ∧ Below U.heap.size U w') {bo : Nat} (hbo : ∀ W, Q W → Boxed W bo 64 (.func (.func ok) #[] cap))
    {J Jx : Nat → (Nat → Prop) → World → Prop} {B l yb : Nat} (hJ : LocB B J)
    (hY : ∀ m k x D W, (xs.filter p)[k]? = some x → J k D W → In D W → YieldAt Fence.wide m Try.prog l (encI x) W (TellPost J Jx k D W))
    (k : Nat) (x : TT) (E : Nat → Prop) (V : World) (hx : xs[k]? = some x) (hE : WhJ J xs p Q FQ l yb k E V) (hin : In E V) :
    Calls Try.prog 36 (encI x ++ #[.pointer (some ⟨bo, 0, none⟩), .pointer (some ⟨yb, 0, none⟩)]) V (TellPost (WhJ J xs p Q FQ l yb) (WhX Jx xs p) k E V) := by
  obtain ⟨h1, h2, h3, h4, h5, h6⟩ := hE
  refine (callsIn_wide (n := 3)).1 ?_
  have hV : Below V.heap.size V V := Below.refl _ _
  have cb := (hbo V h4).cell
  have lb := (hbo V h4).lt
  have ly := h3.lt
  have OK := Lib.hid (hok x (List.mem_of_getElem? hx) V h4)
  have H1 := Lib.hid h1
  have H3 := Lib.hid h3
  have HIN := Lib.hid hin
  have HV := Lib.hid hV
  have HX := Lib.hid hx
  have HY := Lib.hid hY
  have HJ := Lib.hid hJ
  have H4 := Lib.hid h4
  have H5 := Lib.hid h5
  have H6 := Lib.hid h6
  have HQC : Hid (∀ {D W W'}, Q W → Chg D W W' → (∀ g, D g → ¬ FQ g) → Q W') := Lib.hid hQc
  simp only [encI] at OK
  clear hok hbo h1 h3 h4 h5 h6 hin hV hx hY hJ hQc
  refine callsIn_of_wp Try.func36 rfl trivial ?_ rfl
  simp only [Try.ntmps36, List.size_toArray, List.length_cons, List.length_nil, Nat.reduceAdd, Nat.reduceSub, Array.replicate_succ, Array.replicate_zero, List.push_toArray, List.append_toArray, List.nil_append, List.cons_append]
  gi_wp2_with fail
  refine ⟨trivial, (callsIn_wide.2 OK.out).mono ?_⟩
  rintro e U ⟨rfl, hb⟩
  have hVU : Below V.heap.size V U := HV.out.trans (hb.mono HV.out.size)
  have cy := (boxed_later H3.out hVU).cell
  have HVU := Lib.hid hVU
  have JU := HJ.out.bel H1.out hVU
  have B0U : Hid (Q U) := Lib.hid (HQC.out H4.out (Chg.of_below (D := fun _ => False) hVU) (fun g h => h.elim))
  clear hb hVU OK
  cases hp : p x with
  | false =>
    have HP := Lib.hid hp
    have HJU := Lib.hid JU
    have FO := Lib.hid (filt_out HX.out hp)
    clear JU hp
    gi_wp2
    refine ⟨fun f h => (by cases h), ?_⟩
    gi_wp2
    refine bodyPost_ret (v := .bool true) (by simp [results, Try.results36, go_sem]) rfl ⟨E, Gr.refl _ _ _, Chg.of_below HVU.out, .inl ⟨rfl, by rw [FO.out]; exact HJU.out, h2, boxed_later H3.out HVU.out, B0U.out, H5.out, fun g hf => Nat.lt_of_lt_of_le (H6.out g hf) HVU.out.size⟩⟩
  | true =>
    have hfi := filt_in HX.out hp
    obtain ⟨fn, tmps, assign, body, hy, hRd⟩ := HY.out 2 _ x E U hfi.2 JU (HIN.out.more HVU.out.size)
    have HRD := Lib.hid hRd
    have FI := Lib.hid hfi.1
    simp only [encI] at hy
    clear JU hp hfi hRd
    gi_wp2
    refine HRD.out.mono ?_
    rintro e W3 ⟨D2, hg2, hc2, (⟨rfl, hj⟩ | ⟨rfl, hj⟩)⟩
    · have HG := Lib.hid (gc_step (Gr.refl E V U) (Chg.of_below HVU.out) (Below.refl _ _) hg2 hc2)
      have n2 := Lib.hid (gr_not hg2 h2 (boxed_later H3.out HVU.out).lt)
      have Y2 := Lib.hid (boxed_chg (boxed_later H3.out HVU.out) hc2 h2)
      have HJ3 := Lib.hid hj
      have B2 : Hid (Q W3) := Lib.hid (HQC.out B0U.out hc2 H5.out)
      have S2 : Hid (∀ g, FQ g → g < W3.heap.size) := Lib.hid (fun g hf => Nat.lt_of_lt_of_le (Nat.lt_of_lt_of_le (H6.out g hf) HVU.out.size) hc2.size)
      have L2 : Hid (∀ g, D2 g → ¬ FQ g) := Lib.hid (fun g hg => (hg2 g hg).elim (H5.out g) (fun q hf => by have := H6.out g hf; have := HVU.out.size; omega))
      clear hg2 hc2 hj
      gi_wp2
      refine bodyPost_ret (v := .bool true) (by simp [results, Try.results36, go_sem]) rfl ⟨D2, HG.out.1, HG.out.2, .inl ⟨rfl, by rw [FI.out, List.length_append]; exact HJ3.out, n2.out, Y2.out, B2.out, L2.out, S2.out⟩⟩
    · have HG := Lib.hid (gc_step (Gr.refl E V U) (Chg.of_below HVU.out) (Below.refl _ _) hg2 hc2)
      have HJ3 := Lib.hid hj
      clear hg2 hc2 hj
      gi_wp2
      refine bodyPost_ret (v := .bool false) (by simp [results, Try.results36, go_sem]) rfl ⟨D2, HG.out.1, HG.out.2, .inr ⟨rfl, by unfold WhX; rw [FI.out, List.length_append]; exact HJ3.out⟩⟩
set_option maxRecDepth 100000 in
set_option maxHeartbeats 4000000 in
theorem where_seq (bo bs : Nat) {gs : FuncId} {lbs : Array Value} {xs : List TT} {p : TT → Bool} (egs : ∀ args w, (callFunc gs args).run Try.prog w = .ok (.enter gs args) w) {F : Nat → Prop} {R : World → Prop} (hs : SeqR Try.prog gs lbs encI xs F R)
    (hRc : ∀ {D W W'}, R W → Chg D W W' → (∀ g, D g → ¬ F g) → R W') (hRl : ∀ W g, R W → F g → g < W.heap.size)
    {Q : World → Prop} {FQ : Nat → Prop} (hQc : ∀ {D W W'}, Q W → Chg D W W' → (∀ g, D g → ¬ FQ g) → Q W') (hQl : ∀ W g, Q W → FQ g → g < W.heap.size) {ok : FuncId} (eok : ∀ args w, (callFunc ok args).run Try.prog w = .ok (.enter ok args) w) {cap : Array Value}
    (hok : ∀ (x : TT), x ∈ xs → ∀ (U : World), Q U → Calls Try.prog ok (encI x ++ cap) U fun e w' => e = .returned (.bool (p x)) ∧ Below U.heap.size U w') (hbo : ∀ W, Q W → Boxed W bo 64 (.func (.func ok) #[] cap)) :
    SeqR Try.prog 34 #[.pointer (some ⟨bs, 0, none⟩), .pointer (some ⟨bo, 0, none⟩)] encI (xs.filter p) (fun g => F g ∨ g = bs ∨ FQ g) (fun W => R W ∧ Boxed W bs 51 (.func (.func gs) #[] lbs) ∧ Q W) := by
  rintro l J Jx W D ⟨hR, hbs, hQ⟩ hD hin hJ hJx hY h0
  refine (callsIn_wide (n := 5)).1 ?_
  have c2 := hbs.cell
  have l2 := hbs.lt
  obtain ⟨V, hVe⟩ : ∃ V, V = W.alloc (.cells #[yv l] 64) := ⟨_, rfl⟩
  have hV : Below W.heap.size W V := by rw [hVe]; exact bel_alloc (Below.refl _ _) _
  have sV : V.heap.size = W.heap.size + 1 := by rw [hVe]; simp
  have bY : Boxed V W.heap.size 64 (yv l) := by rw [hVe]; exact Boxed.new W 64 _
  have hno : ∀ g, (fun _ : Nat => False) g → ¬ F g := fun g h => h.elim
  have EA := Lib.hid (each_in (h := 36) (cap := #[.pointer (some ⟨bo, 0, none⟩), .pointer (some ⟨W.heap.size, 0, none⟩)]) (enters_of Try.func36 (by kernel_rfl) rfl) egs hs (w := V) (hRc hR (Chg.of_below (D := fun _ => False) hV) hno) (fun W W' h hb => hRc h (Chg.of_below (D := fun _ => False) hb) hno) (fun g hg => by have := hRl W g hR hg; omega)
    (J := WhJ J xs p Q FQ l W.heap.size) (Jx := WhX Jx xs p) (whJ_loc hJ hV.size hQc (by omega) (fun g hf => by have := hQl W g hQ hf; omega)) (whX_loc hJx hV.size) (D := D) (fun g hg hf => hD g hg (.inl hf)) (hin.more hV.size)
    (fun k x E U hx hE hi => where2_any hQc eok hok hbo hJ hY k x E U hx hE hi)
    ⟨hJ.bel h0 hV, fun h => by have := hin _ h; omega, bY, hQc hQ (Chg.of_below (D := fun _ => False) hV) (fun g h => h.elim), fun g hg hf => hD g hg (.inr (.inr hf)), fun g hf => by have := hQl W g hQ hf; omega⟩)
  have EB : Hid (CallsIn Fence.wide 4 Try.prog 35 #[.func (.func gs) #[] lbs, .func (.func 36) #[] #[.pointer (some ⟨bo, 0, none⟩), .pointer (some ⟨W.heap.size, 0, none⟩)]] V fun e W2 => (∃ v, e = .returned v) ∧ SeqPost (xs.filter p).length J Jx D W W2) := Lib.hid (CallsIn.mono EA.out (fun e W2 h => by
    obtain ⟨E, hg, hc, h⟩ := h
    have hC : Chg D W W2 := (Chg.of_below hV).trans hc (fun g hg => .inl hg)
    have hG : Gr D E W W2 := fun g hg' => (hg g hg').elim .inl (fun q => .inr ⟨Nat.le_trans hV.size q.1, q.2⟩)
    rcases h with ⟨rfl, h1, h2, h3, h4, h5⟩ | ⟨rfl, k, hk, h⟩
    · exact ⟨⟨_, rfl⟩, E, hG, hC, .inl (by simpa using h1)⟩
    · exact ⟨⟨_, rfl⟩, E, hG, hC, .inr ⟨_, filt_le xs p k, h⟩⟩))
  clear EA hY h0 hs hbo hbs bY sV hV hok egs hR hQ hQc hQl hRc hRl hno
  refine callsIn_of_wp Try.func34 rfl trivial ?_ rfl
  simp only [Try.ntmps34, List.size_toArray, List.length_cons, List.length_nil, Nat.reduceAdd, Nat.reduceSub, Array.replicate_succ, Array.replicate_zero, List.push_toArray, List.append_toArray, List.nil_append, List.cons_append]
  subst hVe
  gi_wp2_with fail
  refine ⟨trivial, CallsIn.mono EB.out ?_⟩
  rintro e W2 ⟨⟨v, rfl⟩, hS⟩
  have HS := Lib.hid hS
  clear hS
  gi_wp2
  go_end0
  exact ⟨⟨_, rfl⟩, HS.out⟩
end Go.Proofs.Ytniffjjkjgfacaa
