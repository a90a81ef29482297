/- each: a row's things are told one after the other. -/
import Derived.Test.YtpijaphcknoobaaX1
namespace Go.Proofs.Ytpijaphcknoobaa.I
set_option linter.unusedSimpArgs false
open Go.RowKit Go.Shelf
set_option linter.unusedVariables false
attribute [local go_sem] Oper.semAt_some

abbrev TT := Int
abbrev enc (x : TT) : Array Value := #[.int .i64 x]
theorem run_isnil (g : Fn) (r l : Array Value) (W : World) : Sem.run Try.prog (binOp BinOp.eql 57 (Value.func g r l) Value.nilFunc) W = .ok (.bool false) W := by
  have h0 : ∀ d : Nat, (Op.equalIn (d + 1) 57 (Value.func g r l) Value.nilFunc).run Try.prog W = .ok false W := fun d => by simp [Op.equalIn, run_underlying Try.underlying57]
  have h1 := h0 9999
  have e : Op.equal 57 (Value.func g r l) Value.nilFunc = Op.equalIn (9999 + 1) 57 (Value.func g r l) Value.nilFunc := rfl
  rw [← e] at h1
  simp [binOp, go_sem, h1]
theorem boxed_later {w w' : World} {N : Nat} {t : TypeId} {v : Value} (h : Boxed w N t v) (hb : Below w.heap.size w w') : Boxed w' N t v := (hb.block N h.lt).trans h
theorem boxed_chg {w w' : World} {N : Nat} {t : TypeId} {v : Value} {D : Nat → Prop} (h : Boxed w N t v) (hb : Chg D w w') (hn : ¬ D N) : Boxed w' N t v := (hb.block N h.lt hn).trans h
theorem cell_at {W : World} {b : Nat} {cs : Array Value} {t : TypeId} {fr : Nat × Nat} (h : W.heap[b]? = some (.cells cs t fr)) (j : Nat) : W.cell? ⟨b, j, none⟩ = cs[j]? := by simp only [World.cell?, h]; simp
/-- How each ends. -/
def EachPost (n : Nat) (J Jx : Nat → (Nat → Prop) → World → Prop) (D : Nat → Prop) (w : World) (e : Ending) (W : World) : Prop :=
  ∃ D', Gr D D' w W ∧ Chg D w W ∧ ((e = .returned (.bool true) ∧ J n D' W) ∨ (e = .returned (.bool false) ∧ ∃ k, k ≤ n ∧ Jx k D' W))
section
variable (J Jx : Nat → (Nat → Prop) → World → Prop) (b0 b1 : Nat) (tell : Value)
/-- What lies between the rounds. -/
def EaI (k : Nat) (E : Nat → Prop) (W : World) : Prop := ∃ D, E = (fun g => D g ∨ g = b1) ∧ J k D W ∧ ¬ D b1 ∧ ¬ D b0 ∧ Boxed W b0 66 tell ∧ Boxed W b1 4 (.bool false)
def EaX (c : Code) (k : Nat) (E : Nat → Prop) (W : World) : Prop := c = .ret ∧ ∃ D, E = (fun g => D g ∨ g = b1) ∧ Jx k D W ∧ ¬ D b1 ∧ Boxed W b1 4 (.bool false)
end
theorem eaI_loc {J : Nat → (Nat → Prop) → World → Prop} {b0 b1 B B' : Nat} {tell : Value} (hJ : LocB B J) (h0 : b0 < B') (h1 : b1 < B') (hB : B ≤ B') : LocB B' (EaI J b0 b1 tell) := by
  rintro k E W W' ⟨D, rfl, h2, h3, h3b, h4, h5⟩ hc
  exact ⟨D, rfl, hJ _ _ _ _ h2 (hc.more (fun g hg => .inl ⟨fun h => hg.1 (.inl h), by omega⟩)), h3, h3b, boxed_chg h4 hc (fun h => by omega), boxed_chg h5 hc (fun h => by omega)⟩
theorem eaX_loc {Jx : Nat → (Nat → Prop) → World → Prop} {b1 B B' : Nat} (hJ : LocB B Jx) (h1 : b1 < B') (hB : B ≤ B') (c : Code) : LocB B' (EaX Jx b1 c) := by
  rintro k E W W' ⟨hc0, D, rfl, h2, h3, h5⟩ hc
  exact ⟨hc0, D, rfl, hJ _ _ _ _ h2 (hc.more (fun g hg => .inl ⟨fun h => hg.1 (.inl h), by omega⟩)), h3, boxed_chg h5 hc (fun h => by omega)⟩
theorem gr_or {D D' : Nat → Prop} {a b : World} (h : Gr D D' a b) (r : Nat) : Gr (fun g => D g ∨ g = r) (fun g => D' g ∨ g = r) a b := by
  rintro g (x | x)
  · rcases h g x with y | y
    · exact .inl (.inl y)
    · exact .inr y
  · exact .inl (.inr x)
theorem gr_up {D D' : Nat → Prop} {a b c : World} (h : Gr D D' a b) (hs : b.heap.size ≤ c.heap.size) : Gr D D' a c := fun g hg => (h g hg).elim .inl (fun x => .inr ⟨x.1, Nat.lt_of_lt_of_le x.2 hs⟩)
theorem gr_not {D D' : Nat → Prop} {a b : World} (h : Gr D D' a b) {r : Nat} (hn : ¬ D r) (hr : r < a.heap.size) : ¬ D' r := fun hx => by
  rcases h r hx with y | y
  · exact hn y
  · omega
theorem each_gr {D D' : Nat → Prop} {w V W W' : World} {r : Nat} (hb : Below w.heap.size w V) (h : Gr (fun g => D g ∨ g = r) (fun g => D' g ∨ g = r) V W) (hin : In D w) (hs : W.heap.size ≤ W'.heap.size) (hn : ¬ D' r) : Gr D D' w W' := by
  intro g hg
  rcases h g (.inl hg) with (x | x) | x
  · exact .inl x
  · exact absurd (x ▸ hg) hn
  · exact .inr ⟨Nat.le_trans hb.size x.1, Nat.lt_of_lt_of_le x.2 hs⟩
set_option maxRecDepth 100000 in
set_option maxHeartbeats 4000000 in
theorem each_in {h g : FuncId} (eh : ∀ args w, (callFunc h args).run Try.prog w = .ok (.enter h args) w) (eg : ∀ args w, (callFunc g args).run Try.prog w = .ok (.enter g args) w) {lb cap : Array Value} {xs : List TT} {w0 w : World}
    (hseq : SeqF Try.prog g lb enc xs w0) (hb0 : Below w0.heap.size w0 w) {J Jx : Nat → (Nat → Prop) → World → Prop} (hJ : LocB w.heap.size J) (hJx : LocB w.heap.size Jx) {D : Nat → Prop} (hD : ∀ g, D g → w0.heap.size ≤ g) (hin : In D w)
    (hT : ∀ k x D W, xs[k]? = some x → J k D W → In D W → Calls Try.prog h (enc x ++ cap) W (TellPost J Jx k D W)) (h0 : J 0 D w) :
    CallsIn Fence.wide 4 Try.prog 47 #[.func (.func g) #[] lb, .func (.func h) #[] cap] w (EachPost xs.length J Jx D w) := by
  have hnil := run_isnil (.func g) #[] lb
  have HS := Lib.hid hseq
  have HB := Lib.hid hb0
  have HT := Lib.hid hT
  have H0 := Lib.hid h0
  clear hseq hT h0 hb0
  refine callsIn_of_wp_marks Try.func47 rfl trivial ?_ rfl
  simp only [Try.ntmps47, List.size_toArray, List.length_cons, List.length_nil, Nat.reduceAdd, Nat.reduceSub, Array.replicate_succ, Array.replicate_zero, List.push_toArray, List.append_toArray, List.nil_append, List.cons_append]
  gi_wp2
  have bT : Boxed ((w.alloc (.cells #[.func (.func h) #[] cap] 66)).alloc (.cells #[.bool false] 4)) w.heap.size 66 (.func (.func h) #[] cap) := (Boxed.new w 66 _).alloc _
  have bR : Boxed ((w.alloc (.cells #[.func (.func h) #[] cap] 66)).alloc (.cells #[.bool false] 4)) (w.heap.size + 1) 4 (.bool false) := by
    have := Boxed.new (w.alloc (.cells #[.func (.func h) #[] cap] 66)) 4 (.bool false)
    simpa only [World.size_alloc] using this
  have bV : Below w.heap.size w ((w.alloc (.cells #[.func (.func h) #[] cap] 66)).alloc (.cells #[.bool false] 4)) := bel_alloc (bel_alloc (Below.refl _ _) _) _
  have zV : ((w.alloc (.cells #[.func (.func h) #[] cap] 66)).alloc (.cells #[.bool false] 4)).heap.size = w.heap.size + 2 := by simp
  generalize ((w.alloc (.cells #[.func (.func h) #[] cap] 66)).alloc (.cells #[.bool false] 4)) = V at *
  have hw0 := HB.out.size
  refine range_F (w0 := w0) (gf := g) (lb := lb) (encs := enc) (xs := xs) rfl eg HS.out (HB.out.trans (bV.mono hw0)) (fun _ => rfl) (EaI J w.heap.size (w.heap.size + 1) (.func (.func h) #[] cap)) (EaX Jx (w.heap.size + 1)) (eaI_loc hJ (by omega) (by omega) (by omega)) (fun c => eaX_loc hJx (by omega) (by omega) c)
    (fun g => D g ∨ g = w.heap.size + 1) (fun g hg => ?_) ⟨D, rfl, hJ.bel H0.out bV, fun h => by have := hin _ h; omega, fun h => by have := hin _ h; omega, bT, bR⟩
    (fun x W => { tmps := #[.func (.func g) #[] lb, .func (.func h) #[] cap, undef, .pointer (some ⟨w.heap.size, 0, none⟩), .pointer (some ⟨w.heap.size + 1, 0, none⟩), .int .i64 x, .func (.func g) #[] lb, .bool false, .func (.func g) #[] lb, .int .i64 x, undef, undef, undef, undef], defers := [] }) (fun x W => W) (fun x W => Below.refl _ _) ?assign ?body ?done ?stop
  · rcases hg with hg | hg
    · exact ⟨hD g hg, by have := hin g hg; omega⟩
    · exact ⟨by omega, by omega⟩
  case assign =>
    intro m l x W K hK
    gi_wp2
    exact hK
  case body =>
    rintro m l k x E U W o hx hl hlU rfl hinE hlE hgr hch ⟨D', rfl, hJk, hn1, hn0, hbT, hbR⟩
    have cT := hbT.cell
    have cR := hbR.cell
    have fR := hbR.frozen
    have sz : U.heap.size ≤ (U.putObj l o).heap.size := by simp
    have TELL := Lib.hid (HT.out k x D' (U.putObj l o) hx hJk (fun g hg => by have := hinE g (.inl hg); omega))
    generalize (U.putObj l o) = W at *
    have hJk2 := Lib.hid hJk
    have SZ := Lib.hid sz
    clear hJk sz hnil hch hgr
    gi_wp2_with fail
    refine ⟨trivial, fun h => (by cases h), (CallsIn.inRound l (callsIn_wide.2 TELL.out)).mono ?_⟩
    rintro e W3 ⟨D2, hg2, hc2, (⟨rfl, hj⟩ | ⟨rfl, hj⟩)⟩
    · have HJ := Lib.hid hj
      have HG := Lib.hid hg2
      have HC := Lib.hid hc2
      clear hj hg2 hc2
      gi_wp2
      exact ⟨_, gr_or HG.out _, HC.out.more (fun g hg => .inl (.inl hg)), D2, rfl, HJ.out, gr_not HG.out hn1 (by have := hbR.lt; omega), gr_not HG.out hn0 (by have := hbT.lt; omega), boxed_chg hbT HC.out hn0, boxed_chg hbR HC.out hn1⟩
    · have bR3 := boxed_chg hbR hc2 hn1
      have cR3 := bR3.cell
      have fR3 := bR3.frozen
      have n3 : ¬ D2 (w.heap.size + 1) := gr_not hg2 hn1 (by have := hbR.lt; omega)
      have HJ := Lib.hid hj
      have HG := Lib.hid hg2
      have HC := Lib.hid hc2
      clear hj hg2 hc2
      gi_wp2
      refine ⟨fun g => D2 g ∨ g = w.heap.size + 1, gr_up (gr_or HG.out _) (by simp [World.setCell]), (HC.out.more (fun g hg => .inl (.inl hg))).trans (Chg.set (D := fun g => g = w.heap.size + 1) W3 _ rfl) (fun g hg => .inl (.inr hg)), rfl, D2, rfl, ?_, n3, by simpa using bR3.set (.bool false)⟩
      exact hJx _ _ _ _ HJ.out (Chg.set W3 _ ⟨n3, by omega⟩)
  case done =>
    rintro B E W hB hEB hgr hch ⟨D', rfl, hJk, hn1, hn0, hbT, hbR⟩ hK
    have cR := hbR.cell
    have fR := hbR.frozen
    gi_wp2
    have hBR : w.heap.size + 1 ≠ B := by omega
    have hKs : (W.setCell ⟨w.heap.size + 1, 0, none⟩ (.bool true)).heap[B]? = some (.deferred (some [])) := (Below.heap_setCell _ _ _ _ (fun e => hBR e.symm)).trans hK
    have bR2 := hbR.set (.bool true)
    have cRf := (show Boxed ((W.setCell ⟨w.heap.size + 1, 0, none⟩ (.bool true)).putObj B (.deferred none)) (w.heap.size + 1) 4 (.bool true) from (World.putObj_heap_other hBR).trans bR2).cell
    have hDB : ¬ D' B := fun h => hEB (.inl h)
    refine ⟨by simp, .inl ⟨_, _, rfl, run_takeDeferred hKs, .bool true, by simp [results, Try.results47, go_sem, cRf], D', ?_, ?_, .inl ⟨rfl, ?_⟩⟩⟩
    · exact each_gr bV hgr hin (by simp [World.setCell]) hn1
    · exact ((((Chg.of_below bV).trans hch (fun g hg => hg.elim .inl (fun e => .inr (by omega)))).trans (Chg.set (D := fun g => g = w.heap.size + 1) W _ rfl) (fun g hg => .inr (by omega))).trans (Chg.put (D := fun g => g = B) _ _ rfl) (fun g hg => .inr (by omega)))
    · exact hJ.put (hJ.set hJk hn1 (by omega) _) hDB (by omega) _
  case stop =>
    rintro B c k E W hB hEB hgr hch hk ⟨rfl, D', rfl, hJk, hn1, hbR⟩ hK
    gi_wp2
    have hBR : w.heap.size + 1 ≠ B := by omega
    have cRf := (show Boxed (W.putObj B (.deferred none)) (w.heap.size + 1) 4 (.bool false) from (World.putObj_heap_other hBR).trans hbR).cell
    have hDB : ¬ D' B := fun h => hEB (.inl h)
    refine ⟨by simp, .inl ⟨_, _, rfl, run_takeDeferred hK, .bool false, by simp [results, Try.results47, go_sem, cRf], D', ?_, ?_, .inr ⟨rfl, k, hk, ?_⟩⟩⟩
    · exact each_gr bV hgr hin (by simp) hn1
    · exact (((Chg.of_below bV).trans hch (fun g hg => hg.elim .inl (fun e => .inr (by omega)))).trans (Chg.put (D := fun g => g = B) _ _ rfl) (fun g hg => .inr (by omega)))
    · exact hJx.put hJk hDB (by omega) _
end Go.Proofs.Ytpijaphcknoobaa.I
