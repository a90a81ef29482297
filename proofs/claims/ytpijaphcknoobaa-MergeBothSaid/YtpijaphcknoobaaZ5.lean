/- Once: a row without what is like the one ahead. -/
import Derived.Test.YtpijaphcknoobaaZ4
namespace Go.Proofs.Ytpijaphcknoobaa
set_option linter.unusedSimpArgs false
open Go.RowKit Go.Shelf
set_option linter.unusedVariables false
attribute [local go_sem] Oper.semAt_some

/-- What lies between the tellings: the last one that was told lies in a row of the closure's own. -/
structure OnD (J : Nat → (Nat → Prop) → World → Prop) (xs : List TT) (w0 : World) (lo l yb ab k : Nat) (E D : Nat → Prop) (av : Value) (ls : List TT) (V : World) : Prop where
  e : E = (fun g => D g ∨ g = ab ∨ av.ownBlock = some g)
  j : J (onceG none (xs.take k)).length D V
  na : ¬ D ab
  ny : ¬ D yb
  nb : ∀ g, av.ownBlock = some g → ¬ D g
  ba : Boxed V ab 26 av
  own : V.ownsRow lo 29 2 av ls.length (cls ls)
  last : (ls = [] ∧ av = .slice none 0 0 ∧ lastG none (xs.take k) = none) ∨ ∃ y, ls = [y] ∧ lastG none (xs.take k) = some y.1
  by_ : Boxed V yb 51 (yv l)
  b0 : Below w0.heap.size w0 V
  lo_ : ∀ g, D g → w0.heap.size ≤ g
def OnJ (J : Nat → (Nat → Prop) → World → Prop) (xs : List TT) (w0 : World) (lo l yb ab k : Nat) (E : Nat → Prop) (V : World) : Prop := ∃ D av ls, OnD J xs w0 lo l yb ab k E D av ls V
def OnX (Jx : Nat → (Nat → Prop) → World → Prop) (xs : List TT) (ab k : Nat) (E : Nat → Prop) (V : World) : Prop :=
  ∃ D av, E = (fun g => D g ∨ g = ab ∨ Value.ownBlock av = some g) ∧ Jx (onceG none (xs.take k)).length D V
theorem onJ_loc {J : Nat → (Nat → Prop) → World → Prop} {B B' : Nat} (hJ : LocB B J) (hB : B ≤ B') {xs : List TT} {w0 : World} {lo l yb ab : Nat} (hy : yb < B') (h0 : w0.heap.size ≤ B') : LocB B' (OnJ J xs w0 lo l yb ab) := by
  rintro k E V V' ⟨D, av, ls, ⟨rfl, h1, h2, h3, h4, h5, h6, h7, h8, h9, h10⟩⟩ hc
  exact ⟨D, av, ls, rfl, hJ _ _ _ _ h1 (hc.more (fun g hg => .inl ⟨fun h => hg.1 (.inl h), by omega⟩)), h2, h3, h4, boxed_chg h5 hc (fun h => h.1 (.inr (.inl rfl))), own_chg h6 hc (fun g e h => h.1 (.inr (.inr e))), h7, boxed_chg h8 hc (fun h => by omega),
    h9.trans (hc.below (fun g hg => Nat.le_trans h0 hg.2) h9.size), h10⟩
theorem onX_loc {Jx : Nat → (Nat → Prop) → World → Prop} {B B' : Nat} (hJx : LocB B Jx) (hB : B ≤ B') {xs : List TT} {ab : Nat} : LocB B' (OnX Jx xs ab) := by
  rintro k E V V' ⟨D, av, rfl, h⟩ hc
  exact ⟨D, av, rfl, hJx _ _ _ _ h (hc.more (fun g hg => .inl ⟨fun h => hg.1 (.inl h), by omega⟩))⟩
theorem onceG_app (a b : List TT) : ∀ last, onceG last (a ++ b) = onceG last a ++ onceG (lastG last a) b := by
  induction a with
  | nil => intro last; rfl
  | cons x a ih =>
    intro last
    by_cases hx : last = some x.1
    · rw [List.cons_append, onceG_eq _ hx, onceG_eq _ hx, lastG_eq _ hx, ih]
    · rw [List.cons_append, onceG_ne _ hx, onceG_ne _ hx, lastG_ne _ hx, ih]; rfl
theorem once_get {xs : List TT} {k : Nat} {x : TT} (h : xs[k]? = some x) (hl : ¬ lastG none (xs.take k) = some x.1) : (onceG none xs)[(onceG none (xs.take k)).length]? = some x := by
  have e1 := (once_take h).2 hl
  have ht := onceG_app (xs.take (k + 1)) (xs.drop (k + 1)) none
  rw [List.take_append_drop] at ht
  rw [ht, e1, List.append_assoc, List.getElem?_append_right (Nat.le_refl _)]
  simp
theorem once_le (xs : List TT) (k : Nat) : (onceG none (xs.take k)).length ≤ (onceG none xs).length := by
  have ht := onceG_app (xs.take k) (xs.drop k) none
  rw [List.take_append_drop] at ht
  rw [ht, List.length_append]; omega
theorem last_more {xs : List TT} {k : Nat} {x : TT} (h : xs[k]? = some x) : lastG none (xs.take (k + 1)) = some x.1 := by
  rw [take_more h]
  by_cases hl : lastG none (xs.take k) = some x.1
  · exact lastG_snoc_eq hl
  · exact lastG_snoc_ne hl
theorem own_zero {w : World} {base : Nat} {e : TypeId} {size n c : Nat} {A : Option Addr} {xs : List Value} (h : w.ownsRow base e size (.slice A n c) n xs) : w.ownsRow base e size (.slice A 0 c) 0 [] := by
  obtain ⟨_, ⟨h, _⟩ | ⟨g, cap, cur, hv, hb, hg, h1, h2, h3, h4⟩⟩ := h
  · cases h; exact ⟨by simp, .inl ⟨rfl, rfl⟩⟩
  · cases hv; exact ⟨by simp, .inr ⟨g, _, cur, rfl, hb, hg, Nat.zero_le _, h2, h3, by simp⟩⟩
/-- A thing is told, once it was laid into the row. -/
theorem on_fin {J Jx : Nat → (Nat → Prop) → World → Prop} {xs : List TT} {w0 : World} {B lo l yb ab k : Nat} {E D : Nat → Prop} {av : Value} {ls : List TT} {V Y w2 : World} (hJ : LocB B J) (hab : B ≤ ab) (hlo : B ≤ lo) (hyl : yb < lo) (hal : ab < lo) (h0 : w0.heap.size ≤ ab) (h0l : w0.heap.size ≤ lo)
    (hO : OnD J xs w0 lo l yb ab k E D av ls V) (hin : In E V) {x : TT} (hx : xs[k]? = some x) (hnl : ¬ lastG none (xs.take k) = some x.1) (hb : Below V.heap.size V Y) (hg : Y.grownBy w2 av.ownBlock) {gg cap : Nat}
    (hown : w2.ownsRow lo 29 2 (.slice (some ⟨gg, 0, none⟩) 1 cap) 1 [.int .i64 x.1, .int .i64 x.2]) (hat : av.ownBlock = some gg ∨ V.heap.size ≤ gg) (hlt : gg < w2.heap.size) :
    J (onceG none (xs.take k)).length D (w2.setCell ⟨ab, 0, none⟩ (.slice (some ⟨gg, 0, none⟩) 1 cap)) ∧ In D (w2.setCell ⟨ab, 0, none⟩ (.slice (some ⟨gg, 0, none⟩) 1 cap)) ∧ Boxed (w2.setCell ⟨ab, 0, none⟩ (.slice (some ⟨gg, 0, none⟩) 1 cap)) yb 51 (yv l) ∧
      ∀ (r : Bool) (W3 : World), TellPost J Jx (onceG none (xs.take k)).length D (w2.setCell ⟨ab, 0, none⟩ (.slice (some ⟨gg, 0, none⟩) 1 cap)) (.returned (.bool r)) W3 → TellPost (OnJ J xs w0 lo l yb ab) (OnX Jx xs ab) k E V (.returned (.bool r)) W3 := by
  have hsY := hb.size
  have hs2 := hg.size
  have hgl : lo ≤ gg := (hown.lt gg rfl).1
  have hgab : gg ≠ ab := by omega
  have hgyb : gg ≠ yb := by omega
  have hava : av.ownBlock ≠ some ab := fun e => by have := (hO.own.lt ab e).1; omega
  have havy : av.ownBlock ≠ some yb := fun e => by have := (hO.own.lt yb e).1; omega
  have haby : yb ≠ ab := fun e => by
    subst e
    have := hO.ba.symm.trans hO.by_
    simp at this
  have laV := hO.ba.lt
  have lyV := hO.by_.lt
  have ngD : ¬ D gg := by
    rcases hat with e | e
    · exact hO.nb gg e
    · intro h; have := hin gg (by rw [hO.e]; exact .inl h); omega
  have bA2 : Boxed w2 ab 26 av := (boxed_later hO.ba hb).kept hg (fun e => hava e.symm)
  have bY2 : Boxed w2 yb 51 (yv l) := (boxed_later hO.by_ hb).kept hg (fun e => havy e.symm)
  have bYS : Boxed (w2.setCell ⟨ab, 0, none⟩ (.slice (some ⟨gg, 0, none⟩) 1 cap)) yb 51 (yv l) := bY2.other haby _
  have hch : Chg (fun g => g = ab ∨ av.ownBlock = some g) V (w2.setCell ⟨ab, 0, none⟩ (.slice (some ⟨gg, 0, none⟩) 1 cap)) :=
    ((Chg.of_below hb).trans (Chg.of_grown (D := fun g => av.ownBlock = some g) hg (fun g e => e)) (fun g e => .inl (.inr e))).trans (Chg.set (D := fun g => g = ab) _ _ rfl) (fun g e => .inl (.inl e))
  have hinD : In D V := fun g h => hin g (by rw [hO.e]; exact .inl h)
  have b0S : Below w0.heap.size w0 (w2.setCell ⟨ab, 0, none⟩ (.slice (some ⟨gg, 0, none⟩) 1 cap)) := hO.b0.trans (hch.below (fun g hg => by
    rcases hg with e | e
    · omega
    · have := (hO.own.lt g e).1; omega) hO.b0.size)
  refine ⟨hJ _ _ _ _ hO.j (hch.more (fun g hg => .inl ?_)), hinD.more hch.size, bYS, ?_⟩
  · rcases hg with e | e
    · rw [e]; exact ⟨hO.na, hab⟩
    · exact ⟨hO.nb g e, by have := (hO.own.lt g e).1; omega⟩
  · rintro r W3 ⟨D2, hg2, hc2, ht⟩
    have ownS : (w2.setCell ⟨ab, 0, none⟩ (.slice (some ⟨gg, 0, none⟩) 1 cap)).ownsRow lo 29 2 (.slice (some ⟨gg, 0, none⟩) 1 cap) 1 [.int .i64 x.1, .int .i64 x.2] := own_set hown (by simpa [Value.ownBlock] using hgab) _
    have bAS : Boxed (w2.setCell ⟨ab, 0, none⟩ (.slice (some ⟨gg, 0, none⟩) 1 cap)) ab 26 (.slice (some ⟨gg, 0, none⟩) 1 cap) := bA2.set _
    have na2 : ¬ D2 ab := gr_not hg2 hO.na bAS.lt
    have ny2 : ¬ D2 yb := gr_not hg2 hO.ny bYS.lt
    have ng2 : ¬ D2 gg := gr_not hg2 ngD (ownS.lt gg rfl).2
    have own3 := own_chg ownS hc2 (fun g e => by simp [Value.ownBlock] at e; rw [← e]; exact ngD)
    have e1 := (once_take hx).2 hnl
    refine ⟨fun g => D2 g ∨ g = ab ∨ (Value.slice (some ⟨gg, 0, none⟩) 1 cap).ownBlock = some g, ?_, ?_, ?_⟩
    · rw [hO.e]
      rintro g (h | h | h)
      · rcases hg2 g h with q | q
        · exact .inl (.inl q)
        · exact .inr ⟨Nat.le_trans hch.size q.1, q.2⟩
      · exact .inl (.inr (.inl h))
      · simp [Value.ownBlock] at h
        subst h
        rcases hat with e | e
        · exact .inl (.inr (.inr e))
        · exact .inr ⟨e, (own3.lt gg rfl).2⟩
    · rw [hO.e]
      exact (hch.more (G := fun g => D g ∨ g = ab ∨ av.ownBlock = some g) (fun g h => .inl (.inr h))).trans hc2 (fun g h => .inl (.inl h))
    · rcases ht with ⟨he, hj⟩ | ⟨he, hj⟩
      · refine .inl ⟨he, D2, .slice (some ⟨gg, 0, none⟩) 1 cap, [x], rfl, by rw [e1, List.length_append]; exact hj, na2, ny2, fun g e => by simp [Value.ownBlock] at e; rw [← e]; exact ng2, boxed_chg bAS hc2 hO.na, own3, .inr ⟨x, rfl, last_more hx⟩, boxed_chg bYS hc2 hO.ny, b0S.trans (hc2.below hO.lo_ b0S.size), fun g h => ?_⟩
        rcases hg2 g h with q | q
        · exact hO.lo_ g q
        · exact Nat.le_trans b0S.size q.1
      · exact .inr ⟨he, D2, .slice (some ⟨gg, 0, none⟩) 1 cap, rfl, by rw [e1, List.length_append]; exact hj⟩
theorem on_same {J : Nat → (Nat → Prop) → World → Prop} {xs : List TT} {w0 : World} {B lo l yb ab k : Nat} {E D : Nat → Prop} {av : Value} {y x : TT} {V U : World} (hJ : LocB B J) (hO : OnD J xs w0 lo l yb ab k E D av [y] V) (hx : xs[k]? = some x) (hl : lastG none (xs.take k) = some x.1) (hb : Below V.heap.size V U) : OnJ J xs w0 lo l yb ab (k + 1) E U := by
  have hly : lastG none (xs.take k) = some y.1 := by
    rcases hO.last with ⟨h, _⟩ | ⟨z, hz, h⟩
    · cases h
    · cases hz; exact h
  have hxy : y.1 = x.1 := by rw [hl] at hly; simpa using hly.symm
  exact ⟨D, av, [y], hO.e, by rw [(once_take hx).1 hl]; exact hJ.bel hO.j hb, hO.na, hO.ny, hO.nb, boxed_later hO.ba hb, own_bel hO.own hb, .inr ⟨y, rfl, by rw [last_more hx, hxy]⟩, boxed_later hO.by_ hb, hO.b0.trans (hb.mono hO.b0.size), hO.lo_⟩
set_option maxRecDepth 100000 in
set_option maxHeartbeats 4000000 in
theorem once2_any {xs : List TT} {w0 : World} {bo : Nat} (hbo : Boxed w0 bo 33 (.func (.func 11) #[] #[]))
    {J Jx : Nat → (Nat → Prop) → World → Prop} {B lo l yb ab : Nat} (hJ : LocB B J) (hab : B ≤ ab) (hlo : B ≤ lo) (hlo2 : ab < lo) (hyl : yb < lo) (h0 : w0.heap.size ≤ ab) (h0l : w0.heap.size ≤ lo)
    (hY : ∀ m k x D W, (onceG none xs)[k]? = some x → J k D W → In D W → YieldAt Fence.wide m Try.prog l (enc x) W (TellPost J Jx k D W))
    (k : Nat) (x : TT) (E : Nat → Prop) (V : World) (hx : xs[k]? = some x) (hE : OnJ J xs w0 lo l yb ab k E V) (hin : In E V) (hlV : lo ≤ V.heap.size) :
    Calls Try.prog 36 (enc x ++ #[.pointer (some ⟨ab, 0, none⟩), .pointer (some ⟨bo, 0, none⟩), .pointer (some ⟨yb, 0, none⟩)]) V (TellPost (OnJ J xs w0 lo l yb ab) (OnX Jx xs ab) k E V) := by
  obtain ⟨D, av, ls, hO⟩ := hE
  refine (callsIn_wide (n := 3)).1 ?_
  obtain ⟨i0, hi, hz0, hz1, hz2⟩ := info_parts infoE
  have hV : Below V.heap.size V (V.alloc (kv x)) := bel_alloc (Below.refl _ _) _
  have ca := hO.ba.cell
  have fa := hO.ba.frozen
  have la := hO.ba.lt
  have HO := Lib.hid hO
  have HV := Lib.hid hV
  have HX := Lib.hid hx
  have HIN := Lib.hid hin
  have HY := Lib.hid hY
  have HJ := Lib.hid hJ
  have HBO := Lib.hid hbo
  have HLV := Lib.hid hlV
  clear hO hV hx hin hY hJ hbo hlV
  obtain ⟨A, c, rfl, hc1, hc2⟩ := own_shape HO.out.own
  rcases HO.out.last with ⟨rfl, hav, hla⟩ | ⟨y, rfl, hla⟩

  · have NL : Hid (¬ lastG none (xs.take k) = some x.1) := Lib.hid (by rw [hla]; simp)
    obtain ⟨rfl, rfl⟩ : A = none ∧ c = 0 := by simpa using hav
    simp only [List.length_nil] at ca
    clear hla hav hc1 hc2
    obtain ⟨x0, x1⟩ := x
    refine callsIn_of_wp Try.func36 rfl trivial ?_ rfl
    simp only [Try.ntmps36, List.size_toArray, List.length_cons, List.length_nil, Nat.reduceAdd, Nat.reduceSub, Array.replicate_succ, Array.replicate_zero, List.push_toArray, List.append_toArray, List.nil_append, List.cons_append]
    gi_wp2_with fail
    refine wpIn_wide.2 ?_
    go_quiet (fail)
    have HVU : Hid (Below V.heap.size V ((V.alloc (kv (x0, x1))).drewN nq)) := Lib.hid (bel_trans HV.out (bel_drewN (Below.refl _ _) nq))
    have cv0 : ((V.alloc (kv (x0, x1))).drewN nq).cell? ⟨V.heap.size, 0, none⟩ = some (.int .i64 x0) := by simp [go_sem]
    have cv1 : ((V.alloc (kv (x0, x1))).drewN nq).cell? ⟨V.heap.size, 1, none⟩ = some (.int .i64 x1) := by simp [go_sem]
    gi_wp2_with fail
    generalize ((V.alloc (kv (x0, x1))).drewN nq) = U at *
    clear ca fa
    refine wpIn_wide.2 ?_
    have ca2 : U.cell? ⟨ab, 0, none⟩ = some (.slice none 0 0) := (HO.out.ba |> fun h => boxed_later h HVU.out).cell
    have fa2 : U.frozen? ⟨ab, 0, none⟩ = false := (boxed_later HO.out.ba HVU.out).frozen
    have la2 : ab < U.heap.size := Nat.lt_of_lt_of_le la HVU.out.size
    have OU := Lib.hid (own_zero (own_bel HO.out.own HVU.out))
    have hWY : Below U.heap.size U (U.drew.alloc (kv (x0, x1))) := bel_alloc (bel_dw (Below.refl _ _)) _
    have y0' : (U.drew.alloc (kv (x0, x1))).cell? ⟨ab, 0, none⟩ = some (.slice none 0 0) := bel_later hWY ca2
    have yf : (U.drew.alloc (kv (x0, x1))).frozen? ⟨ab, 0, none⟩ = false := (bel_frozen hWY la2).trans fa2
    have yp0 : (U.drew.alloc (kv (x0, x1))).cell? ⟨V.heap.size, 0, none⟩ = some (.int .i64 x0) := bel_later hWY cv0
    have yp1 : (U.drew.alloc (kv (x0, x1))).cell? ⟨V.heap.size, 1, none⟩ = some (.int .i64 x1) := bel_later hWY cv1
    have OY := Lib.hid (own_bel OU.out hWY)
    have hloY : lo ≤ (U.drew.alloc (kv (x0, x1))).heap.size := Nat.le_trans HLV.out (Nat.le_trans HVU.out.size hWY.size)
    have HNW : Hid (∀ j u, ([.int .i64 x0, .int .i64 x1] : List Value)[j]? = some u → (U.drew.alloc (kv (x0, x1))).cell? ((⟨U.heap.size, 0, none⟩ : Addr).add j) = some u) := Lib.hid (World.news_of_block (cs := #[.int .i64 x0, .int .i64 x1]) (t := 29) (fr := (0, 0)) (by simpa using World.alloc_heap_new U.drew (kv (x0, x1))))
    have HYb := Lib.hid (bel_trans HVU.out hWY)
    have NAB : Hid ((Value.slice none 0 0).ownBlock ≠ some ab) := Lib.hid (fun e => by have := (HO.out.own.lt ab e).1; omega)
    have NVB : Hid ((Value.slice none 0 0).ownBlock ≠ some V.heap.size) := Lib.hid (fun e => by have := (HO.out.own.lt V.heap.size e).2; omega)
    have laY : ab < (U.drew.alloc (kv (x0, x1))).heap.size := Nat.lt_of_lt_of_le la2 hWY.size
    have vbY : V.heap.size < (U.drew.alloc (kv (x0, x1))).heap.size := World.block_lt_of_cell? _ _ yp0
    have hUV : Hid (V.heap.size ≤ U.heap.size) := Lib.hid HVU.out.size
    clear hWY
    go_region_law (refine step_append_lies _ rfl (.tmp 19) (.tmp 21) _ rfl lo 29 i0 _ 2 16 Try.underlying26 hi hz0 hz1 hz2 rfl (by omega) (.slice none 0 0) 0 [] (by simp [Act.eval, Act.put]) OY.out ⟨U.heap.size, 0, none⟩ 1 1 [.int .i64 x0, .int .i64 x1] (by simp [Act.eval, Act.put]) rfl HNW.out (by simp [Value.oneCell']) (by omega) (by simp only [maxLen]; omega) (by omega) hloY (U.heap.size + 1) (by simp) ?_; intro gg cap w2 hown2 hg2 hat2 hlt2; have d0 := (grown_far hg2 (o := 0) laY NAB.out).trans y0'; have df := (grown_ffar hg2 (o := 0) laY NAB.out).trans yf; have dv0 := (grown_far hg2 (o := 0) vbY NVB.out).trans yp0; have dv1 := (grown_far hg2 (o := 1) vbY NVB.out).trans yp1)
    all_goals
      have hfin := on_fin (Jx := Jx) HJ.out hab hlo hyl hlo2 h0 h0l HO.out HIN.out HX.out NL.out HYb.out hg2 hown2 (by
        rcases hat2 with e | e
        · exact .inl e
        · exact .inr (by have := hUV.out; omega)) hlt2
      have hgV : gg ≠ V.heap.size := by
        rcases hat2 with e | e
        · intro e2; exact NVB.out (by rw [← e2]; exact e)
        · have := hUV.out; omega
      have hgA : gg ≠ ab := by
        rcases hat2 with e | e
        · intro e2; exact NAB.out (by rw [← e2]; exact e)
        · have := hUV.out; omega
      obtain ⟨hjS, hinS, hbyS, hall⟩ := hfin
      have cyS := hbyS.cell
      have naV : V.heap.size ≠ ab := by omega
      have s0 : (w2.setCell ⟨ab, 0, none⟩ (.slice (some ⟨gg, 0, none⟩) 1 cap)).cell? ⟨V.heap.size, 0, none⟩ = some (.int .i64 x0) := (World.cell?_setCell_far _ _ _ _ (fun e => naV e.symm)).trans dv0
      have s1 : (w2.setCell ⟨ab, 0, none⟩ (.slice (some ⟨gg, 0, none⟩) 1 cap)).cell? ⟨V.heap.size, 1, none⟩ = some (.int .i64 x1) := (World.cell?_setCell_far _ _ _ _ (fun e => naV e.symm)).trans dv1
      obtain ⟨fn, tmps, assign, body, hy, hRd⟩ := HY.out 2 _ (x0, x1) D _ (once_get HX.out NL.out) hjS hinS
      have HRD := Lib.hid hRd
      have HALL := Lib.hid hall
      simp only [enc] at hy
      clear hRd hall hjS hinS hbyS hown2 hg2
      gi_wp2
      refine HRD.out.mono ?_
      rintro e W3 ht
      obtain ⟨r, rfl, ht⟩ := tell_bool ht
      have FIN := Lib.hid (HALL.out r W3 ht)
      clear ht
      gi_wp2
      exact bodyPost_ret (v := .bool r) (by simp [results, Try.results36, go_sem]) rfl FIN.out
  · obtain ⟨g9, cap9, e9, hg9, hg9l⟩ := HO.out.own.form (by simp)
    obtain rfl : A = some ⟨g9, 0, none⟩ := by injection e9
    have gy0 : V.cell? ⟨g9, 0, none⟩ = some (.int .i64 y.1) := HO.out.own.cellAt 0 (by simp)
    have gy1 : V.cell? ⟨g9, 1, none⟩ = some (.int .i64 y.2) := HO.out.own.cellAt 1 (by simp)
    have co := (boxed_later HBO.out HO.out.b0).cell
    simp only [List.length_cons, List.length_nil, Nat.zero_add] at ca
    obtain ⟨x0, x1⟩ := x
    obtain ⟨y0, y1⟩ := y
    simp only at gy0 gy1
    clear e9
    have cv0 : (V.alloc (kv (x0, x1))).cell? ⟨V.heap.size, 0, none⟩ = some (.int .i64 x0) := by simp [go_sem]
    have cv1 : (V.alloc (kv (x0, x1))).cell? ⟨V.heap.size, 1, none⟩ = some (.int .i64 x1) := by simp [go_sem]
    have SK : Hid (∀ U, Below (V.alloc (kv (x0, x1))).heap.size (V.alloc (kv (x0, x1))) U → U.cell? ⟨ab, 0, none⟩ = some (.slice (some ⟨g9, 0, none⟩) 1 c) ∧ U.cell? ⟨bo, 0, none⟩ = some (.func (.func 11) #[] #[]) ∧
      U.cell? ⟨g9, 0, none⟩ = some (.int .i64 y0) ∧ U.cell? ⟨g9, 1, none⟩ = some (.int .i64 y1) ∧ U.cell? ⟨V.heap.size, 0, none⟩ = some (.int .i64 x0) ∧ U.cell? ⟨V.heap.size, 1, none⟩ = some (.int .i64 x1)) := Lib.hid (fun U hU =>
      ⟨bel_later hU (bel_later HV.out ca), bel_later hU (bel_later HV.out co), bel_later hU (bel_later HV.out gy0), bel_later hU (bel_later HV.out gy1), bel_later hU cv0, bel_later hU cv1⟩)
    refine callsIn_of_wp Try.func36 rfl trivial ?_ rfl
    simp only [Try.ntmps36, List.size_toArray, List.length_cons, List.length_nil, Nat.reduceAdd, Nat.reduceSub, Array.replicate_succ, Array.replicate_zero, List.push_toArray, List.append_toArray, List.nil_append, List.cons_append]
    by_cases q0 : y0 = x0
    · have hla2 : lastG none (xs.take k) = some (x0, x1).1 := by rw [hla]; exact congrArg some q0
      have HLA2 := Lib.hid hla2
      clear hla2 hla
      have OC : Hid (∀ U, Calls Try.prog 11 #[.agg #[.int .i64 y0, .int .i64 y1], .agg #[.int .i64 x0, .int .i64 x1]] U fun e w' => e = .returned (.int .i64 (0)) ∧ Below U.heap.size U w') := Lib.hid (fun U => (ord_any (y0, y1) (x0, x1) U).mono (fun e w' h => ⟨by rw [h.1]; simp [ordT, q0], h.2⟩))
      clear q0
      gi_wp2_with fail
      refine wpIn_wide.2 ?_
      refine wp_region_held_drew (S := (fun U => U.cell? ⟨ab, 0, none⟩ = some (.slice (some ⟨g9, 0, none⟩) 1 c) ∧ U.cell? ⟨bo, 0, none⟩ = some (.func (.func 11) #[] #[]) ∧ U.cell? ⟨g9, 0, none⟩ = some (.int .i64 y0) ∧ U.cell? ⟨g9, 1, none⟩ = some (.int .i64 y1) ∧ U.cell? ⟨V.heap.size, 0, none⟩ = some (.int .i64 x0) ∧ U.cell? ⟨V.heap.size, 1, none⟩ = some (.int .i64 x1))) (by kernel_rfl) ?_ (fun hHeld => ?_)
      · first | exact SK.out _ HBC.out | exact SK.out _ (bel_dw (Below.refl _ _))
      refine wpAnyH_take (i := 0) (oi := { dst := some 6, op := Op.load 26 (Operand.tmp 1), type := 26, pos := "merge.go:122", after := #[], guard := none }) (v := ?_) rfl (by kernel_rfl) (by kernel_rfl) (by kernel_rfl) (fun _ _ _ h => h) (Or.inl ⟨by rfl, ?_⟩) (by assumption) ?_
      rotate_left
      · intro w hSw; (try dsimp only at hSw); go_simp; try with_reducible rfl
      try simp only [Act.put, List.setIfInBounds_toArray, List.set_cons_zero, List.set_cons_succ]
      refine wpAnyH_take (i := 1) (oi := { dst := some 7, op := Op.call { callee := Callee.builtin Builtin.len, args := #[Operand.tmp 6], argTypes := #[26] }, type := 3, pos := "merge.go:122", after := #[{ on := 0, ground := Ground.data }], guard := none }) (v := ?_) rfl (by kernel_rfl) (by kernel_rfl) (by kernel_rfl) (fun _ _ _ h => h) (Or.inl ⟨by rfl, ?_⟩) (by assumption) ?_
      rotate_left
      · intro w hSw; (try dsimp only at hSw); go_simp; try with_reducible rfl
      try simp only [Act.put, List.setIfInBounds_toArray, List.set_cons_zero, List.set_cons_succ]
      refine wpAnyH_take (i := 2) (oi := { dst := some 8, op := Op.binOp BinOp.gtr 3 (Operand.tmp 7) (Operand.const (Value.int IntKind.i64 0)) 3, type := 4, pos := "merge.go:122", after := #[{ on := 1, ground := Ground.data }], guard := none }) (v := ?_) rfl (by kernel_rfl) (by kernel_rfl) (by kernel_rfl) (fun _ _ _ h => h) (Or.inl ⟨by rfl, ?_⟩) (by assumption) ?_
      rotate_left
      · intro w hSw; (try dsimp only at hSw); go_simp; try with_reducible rfl
      try simp only [Act.put, List.setIfInBounds_toArray, List.set_cons_zero, List.set_cons_succ]
      refine wpAnyH_take (i := 3) (oi := { dst := some 9, op := Op.move (Operand.tmp 8), type := 4, pos := "merge.go:122", after := #[{ on := 2, ground := Ground.data }], guard := none }) (v := ?_) rfl (by kernel_rfl) (by kernel_rfl) (by kernel_rfl) (fun _ _ _ h => h) (Or.inl ⟨by rfl, ?_⟩) (by assumption) ?_
      rotate_left
      · intro w hSw; (try dsimp only at hSw); go_simp; try with_reducible rfl
      try simp only [Act.put, List.setIfInBounds_toArray, List.set_cons_zero, List.set_cons_succ]
      refine wpAnyH_take (i := 4) (oi := { dst := some 10, op := Op.load 33 (Operand.tmp 2), type := 33, pos := "merge.go:122", after := #[{ on := 3, ground := Ground.guard }], guard := some (3, true) }) (v := ?_) rfl (by kernel_rfl) (by kernel_rfl) (by kernel_rfl) (fun _ _ _ h => h) (Or.inl ⟨by rfl, ?_⟩) (by assumption) ?_
      rotate_left
      · intro w hSw; (try dsimp only at hSw); go_simp; try with_reducible rfl
      try simp only [Act.put, List.setIfInBounds_toArray, List.set_cons_zero, List.set_cons_succ]
      refine wpAnyH_take (i := 5) (oi := { dst := some 11, op := Op.load 26 (Operand.tmp 1), type := 26, pos := "merge.go:122", after := #[{ on := 3, ground := Ground.guard }], guard := some (3, true) }) (v := ?_) rfl (by kernel_rfl) (by kernel_rfl) (by kernel_rfl) (fun _ _ _ h => h) (Or.inl ⟨by rfl, ?_⟩) (by assumption) ?_
      rotate_left
      · intro w hSw; (try dsimp only at hSw); go_simp; try with_reducible rfl
      try simp only [Act.put, List.setIfInBounds_toArray, List.set_cons_zero, List.set_cons_succ]
      refine wpAnyH_take (i := 6) (oi := { dst := some 12, op := Op.indexAddr 26 (Operand.tmp 11) (Operand.const (Value.int IntKind.i64 0)), type := 0, pos := "merge.go:122", after := #[{ on := 5, ground := Ground.data }, { on := 3, ground := Ground.guard }], guard := some (3, true) }) (v := ?_) rfl (by kernel_rfl) (by kernel_rfl) (by kernel_rfl) (fun _ _ _ h => h) (Or.inl ⟨by rfl, ?_⟩) (by assumption) ?_
      rotate_left
      · intro w hSw; (try dsimp only at hSw); go_simp; try with_reducible rfl
      try simp only [Act.put, List.setIfInBounds_toArray, List.set_cons_zero, List.set_cons_succ]
      refine wpAnyH_take (i := 7) (oi := { dst := some 13, op := Op.load 29 (Operand.tmp 12), type := 29, pos := "merge.go:122", after := #[{ on := 6, ground := Ground.data }, { on := 3, ground := Ground.guard }], guard := some (3, true) }) (v := ?_) rfl (by kernel_rfl) (by kernel_rfl) (by kernel_rfl) (fun _ _ _ h => h) (Or.inl ⟨by rfl, ?_⟩) (by assumption) ?_
      rotate_left
      · intro w hSw; (try dsimp only at hSw); go_simp; try with_reducible rfl
      try simp only [Act.put, List.setIfInBounds_toArray, List.set_cons_zero, List.set_cons_succ]
      refine wpAnyH_take (i := 8) (oi := { dst := some 14, op := Op.load 29 (Operand.tmp 4), type := 29, pos := "merge.go:122", after := #[{ on := 3, ground := Ground.guard }], guard := some (3, true) }) (v := ?_) rfl (by kernel_rfl) (by kernel_rfl) (by kernel_rfl) (fun _ _ _ h => h) (Or.inl ⟨by rfl, ?_⟩) (by assumption) ?_
      rotate_left
      · intro w hSw; (try dsimp only at hSw); go_simp; try with_reducible rfl
      try simp only [Act.put, List.setIfInBounds_toArray, List.set_cons_zero, List.set_cons_succ]
      refine wpAnyH_ready (rs := [9]) (by kernel_rfl) (by simp) ?_
      refine AllReadyH.cons (o := { dst := some 15, op := Op.call { callee := Callee.value (Operand.tmp 10), args := #[Operand.tmp 13, Operand.tmp 14], argTypes := #[29, 29] }, type := 3, pos := "merge.go:122", after := #[{ on := 4, ground := Ground.data }, { on := 7, ground := Ground.data }, { on := 8, ground := Ground.data }, { on := 3, ground := Ground.chain }, { on := 3, ground := Ground.guard }], guard := some (3, true) }) rfl (fun K hK => ?_) AllReadyH.nil
      go_simp
      (refine (OC.out _).mono ?_; rintro e w' ⟨rfl, hb⟩; have HBC : Hid (Below (V.alloc (kv (x0, x1))).heap.size (V.alloc (kv (x0, x1))) w') := Lib.hid (bel_dr hb); clear hb)
      try go_wp2_with fail
      refine hK.out _ _ ?_ (fun hHeld => ?_)
      · first | exact SK.out _ HBC.out | exact SK.out _ (bel_dw (Below.refl _ _))
      clear hK K
      try simp only [Act.put, List.setIfInBounds_toArray, List.set_cons_zero, List.set_cons_succ]
      refine wpAnyH_take (i := 10) (oi := { dst := some 16, op := Op.binOp BinOp.eql 3 (Operand.tmp 15) (Operand.const (Value.int IntKind.i64 0)) 3, type := 4, pos := "merge.go:122", after := #[{ on := 9, ground := Ground.data }, { on := 3, ground := Ground.guard }], guard := some (3, true) }) (v := ?_) rfl (by kernel_rfl) (by kernel_rfl) (by kernel_rfl) (fun _ _ _ h => h) (Or.inl ⟨by rfl, ?_⟩) (by assumption) ?_
      rotate_left
      · intro w hSw; (try dsimp only at hSw); go_simp; try with_reducible rfl
      try simp only [Act.put, List.setIfInBounds_toArray, List.set_cons_zero, List.set_cons_succ]
      refine wpAnyH_take (i := 11) (oi := { dst := some 17, op := Op.pick (Operand.tmp 9) (Operand.tmp 16) (Operand.const (Value.bool false)), type := 4, pos := "merge.go:122", after := #[{ on := 3, ground := Ground.data }, { on := 10, ground := Ground.data }], guard := none }) (v := ?_) rfl (by kernel_rfl) (by kernel_rfl) (by kernel_rfl) (fun _ _ _ h => h) (Or.inl ⟨by rfl, ?_⟩) (by assumption) ?_
      rotate_left
      · intro w hSw; (try dsimp only at hSw); go_simp; try with_reducible rfl
      try simp only [Act.put, List.setIfInBounds_toArray, List.set_cons_zero, List.set_cons_succ]
      refine wpAnyH_done (by kernel_rfl) ?_ _
      clear hHeld
      have HVU := Lib.hid (bel_trans HV.out HBC.out)
      gi_wp2
      refine bodyPost_ret (v := .bool true) (by simp [results, Try.results36, go_sem]) rfl ⟨E, Gr.refl _ _ _, Chg.of_below HVU.out, .inl ⟨rfl, on_same HJ.out HO.out HX.out HLA2.out HVU.out⟩⟩
    · have NL : Hid (¬ lastG none (xs.take k) = some (x0, x1).1) := Lib.hid (by rw [hla]; simpa using q0)
      clear hla
      by_cases q1 : y0 < x0
      · skip
        have OC : Hid (∀ U, Calls Try.prog 11 #[.agg #[.int .i64 y0, .int .i64 y1], .agg #[.int .i64 x0, .int .i64 x1]] U fun e w' => e = .returned (.int .i64 (-1)) ∧ Below U.heap.size U w') := Lib.hid (fun U => (ord_any (y0, y1) (x0, x1) U).mono (fun e w' h => ⟨by rw [h.1]; simp [ordT, q1], h.2⟩))
        gi_wp2_with fail
        refine wpIn_wide.2 ?_
        refine wp_region_held_drew (S := (fun U => U.cell? ⟨ab, 0, none⟩ = some (.slice (some ⟨g9, 0, none⟩) 1 c) ∧ U.cell? ⟨bo, 0, none⟩ = some (.func (.func 11) #[] #[]) ∧ U.cell? ⟨g9, 0, none⟩ = some (.int .i64 y0) ∧ U.cell? ⟨g9, 1, none⟩ = some (.int .i64 y1) ∧ U.cell? ⟨V.heap.size, 0, none⟩ = some (.int .i64 x0) ∧ U.cell? ⟨V.heap.size, 1, none⟩ = some (.int .i64 x1))) (by kernel_rfl) ?_ (fun hHeld => ?_)
        · first | exact SK.out _ HBC.out | exact SK.out _ (bel_dw (Below.refl _ _))
        refine wpAnyH_take (i := 0) (oi := { dst := some 6, op := Op.load 26 (Operand.tmp 1), type := 26, pos := "merge.go:122", after := #[], guard := none }) (v := ?_) rfl (by kernel_rfl) (by kernel_rfl) (by kernel_rfl) (fun _ _ _ h => h) (Or.inl ⟨by rfl, ?_⟩) (by assumption) ?_
        rotate_left
        · intro w hSw; (try dsimp only at hSw); go_simp; try with_reducible rfl
        try simp only [Act.put, List.setIfInBounds_toArray, List.set_cons_zero, List.set_cons_succ]
        refine wpAnyH_take (i := 1) (oi := { dst := some 7, op := Op.call { callee := Callee.builtin Builtin.len, args := #[Operand.tmp 6], argTypes := #[26] }, type := 3, pos := "merge.go:122", after := #[{ on := 0, ground := Ground.data }], guard := none }) (v := ?_) rfl (by kernel_rfl) (by kernel_rfl) (by kernel_rfl) (fun _ _ _ h => h) (Or.inl ⟨by rfl, ?_⟩) (by assumption) ?_
        rotate_left
        · intro w hSw; (try dsimp only at hSw); go_simp; try with_reducible rfl
        try simp only [Act.put, List.setIfInBounds_toArray, List.set_cons_zero, List.set_cons_succ]
        refine wpAnyH_take (i := 2) (oi := { dst := some 8, op := Op.binOp BinOp.gtr 3 (Operand.tmp 7) (Operand.const (Value.int IntKind.i64 0)) 3, type := 4, pos := "merge.go:122", after := #[{ on := 1, ground := Ground.data }], guard := none }) (v := ?_) rfl (by kernel_rfl) (by kernel_rfl) (by kernel_rfl) (fun _ _ _ h => h) (Or.inl ⟨by rfl, ?_⟩) (by assumption) ?_
        rotate_left
        · intro w hSw; (try dsimp only at hSw); go_simp; try with_reducible rfl
        try simp only [Act.put, List.setIfInBounds_toArray, List.set_cons_zero, List.set_cons_succ]
        refine wpAnyH_take (i := 3) (oi := { dst := some 9, op := Op.move (Operand.tmp 8), type := 4, pos := "merge.go:122", after := #[{ on := 2, ground := Ground.data }], guard := none }) (v := ?_) rfl (by kernel_rfl) (by kernel_rfl) (by kernel_rfl) (fun _ _ _ h => h) (Or.inl ⟨by rfl, ?_⟩) (by assumption) ?_
        rotate_left
        · intro w hSw; (try dsimp only at hSw); go_simp; try with_reducible rfl
        try simp only [Act.put, List.setIfInBounds_toArray, List.set_cons_zero, List.set_cons_succ]
        refine wpAnyH_take (i := 4) (oi := { dst := some 10, op := Op.load 33 (Operand.tmp 2), type := 33, pos := "merge.go:122", after := #[{ on := 3, ground := Ground.guard }], guard := some (3, true) }) (v := ?_) rfl (by kernel_rfl) (by kernel_rfl) (by kernel_rfl) (fun _ _ _ h => h) (Or.inl ⟨by rfl, ?_⟩) (by assumption) ?_
        rotate_left
        · intro w hSw; (try dsimp only at hSw); go_simp; try with_reducible rfl
        try simp only [Act.put, List.setIfInBounds_toArray, List.set_cons_zero, List.set_cons_succ]
        refine wpAnyH_take (i := 5) (oi := { dst := some 11, op := Op.load 26 (Operand.tmp 1), type := 26, pos := "merge.go:122", after := #[{ on := 3, ground := Ground.guard }], guard := some (3, true) }) (v := ?_) rfl (by kernel_rfl) (by kernel_rfl) (by kernel_rfl) (fun _ _ _ h => h) (Or.inl ⟨by rfl, ?_⟩) (by assumption) ?_
        rotate_left
        · intro w hSw; (try dsimp only at hSw); go_simp; try with_reducible rfl
        try simp only [Act.put, List.setIfInBounds_toArray, List.set_cons_zero, List.set_cons_succ]
        refine wpAnyH_take (i := 6) (oi := { dst := some 12, op := Op.indexAddr 26 (Operand.tmp 11) (Operand.const (Value.int IntKind.i64 0)), type := 0, pos := "merge.go:122", after := #[{ on := 5, ground := Ground.data }, { on := 3, ground := Ground.guard }], guard := some (3, true) }) (v := ?_) rfl (by kernel_rfl) (by kernel_rfl) (by kernel_rfl) (fun _ _ _ h => h) (Or.inl ⟨by rfl, ?_⟩) (by assumption) ?_
        rotate_left
        · intro w hSw; (try dsimp only at hSw); go_simp; try with_reducible rfl
        try simp only [Act.put, List.setIfInBounds_toArray, List.set_cons_zero, List.set_cons_succ]
        refine wpAnyH_take (i := 7) (oi := { dst := some 13, op := Op.load 29 (Operand.tmp 12), type := 29, pos := "merge.go:122", after := #[{ on := 6, ground := Ground.data }, { on := 3, ground := Ground.guard }], guard := some (3, true) }) (v := ?_) rfl (by kernel_rfl) (by kernel_rfl) (by kernel_rfl) (fun _ _ _ h => h) (Or.inl ⟨by rfl, ?_⟩) (by assumption) ?_
        rotate_left
        · intro w hSw; (try dsimp only at hSw); go_simp; try with_reducible rfl
        try simp only [Act.put, List.setIfInBounds_toArray, List.set_cons_zero, List.set_cons_succ]
        refine wpAnyH_take (i := 8) (oi := { dst := some 14, op := Op.load 29 (Operand.tmp 4), type := 29, pos := "merge.go:122", after := #[{ on := 3, ground := Ground.guard }], guard := some (3, true) }) (v := ?_) rfl (by kernel_rfl) (by kernel_rfl) (by kernel_rfl) (fun _ _ _ h => h) (Or.inl ⟨by rfl, ?_⟩) (by assumption) ?_
        rotate_left
        · intro w hSw; (try dsimp only at hSw); go_simp; try with_reducible rfl
        try simp only [Act.put, List.setIfInBounds_toArray, List.set_cons_zero, List.set_cons_succ]
        refine wpAnyH_ready (rs := [9]) (by kernel_rfl) (by simp) ?_
        refine AllReadyH.cons (o := { dst := some 15, op := Op.call { callee := Callee.value (Operand.tmp 10), args := #[Operand.tmp 13, Operand.tmp 14], argTypes := #[29, 29] }, type := 3, pos := "merge.go:122", after := #[{ on := 4, ground := Ground.data }, { on := 7, ground := Ground.data }, { on := 8, ground := Ground.data }, { on := 3, ground := Ground.chain }, { on := 3, ground := Ground.guard }], guard := some (3, true) }) rfl (fun K hK => ?_) AllReadyH.nil
        go_simp
        (refine (OC.out _).mono ?_; rintro e w' ⟨rfl, hb⟩; have HBC : Hid (Below (V.alloc (kv (x0, x1))).heap.size (V.alloc (kv (x0, x1))) w') := Lib.hid (bel_dr hb); clear hb)
        try go_wp2_with fail
        refine hK.out _ _ ?_ (fun hHeld => ?_)
        · first | exact SK.out _ HBC.out | exact SK.out _ (bel_dw (Below.refl _ _))
        clear hK K
        try simp only [Act.put, List.setIfInBounds_toArray, List.set_cons_zero, List.set_cons_succ]
        refine wpAnyH_take (i := 10) (oi := { dst := some 16, op := Op.binOp BinOp.eql 3 (Operand.tmp 15) (Operand.const (Value.int IntKind.i64 0)) 3, type := 4, pos := "merge.go:122", after := #[{ on := 9, ground := Ground.data }, { on := 3, ground := Ground.guard }], guard := some (3, true) }) (v := ?_) rfl (by kernel_rfl) (by kernel_rfl) (by kernel_rfl) (fun _ _ _ h => h) (Or.inl ⟨by rfl, ?_⟩) (by assumption) ?_
        rotate_left
        · intro w hSw; (try dsimp only at hSw); go_simp; try with_reducible rfl
        try simp only [Act.put, List.setIfInBounds_toArray, List.set_cons_zero, List.set_cons_succ]
        refine wpAnyH_take (i := 11) (oi := { dst := some 17, op := Op.pick (Operand.tmp 9) (Operand.tmp 16) (Operand.const (Value.bool false)), type := 4, pos := "merge.go:122", after := #[{ on := 3, ground := Ground.data }, { on := 10, ground := Ground.data }], guard := none }) (v := ?_) rfl (by kernel_rfl) (by kernel_rfl) (by kernel_rfl) (fun _ _ _ h => h) (Or.inl ⟨by rfl, ?_⟩) (by assumption) ?_
        rotate_left
        · intro w hSw; (try dsimp only at hSw); go_simp; try with_reducible rfl
        try simp only [Act.put, List.setIfInBounds_toArray, List.set_cons_zero, List.set_cons_succ]
        refine wpAnyH_done (by kernel_rfl) ?_ _
        clear hHeld
        have HVU := Lib.hid (bel_trans HV.out HBC.out)
        clear cv0 cv1
        have cv0 := (SK.out _ HBC.out).2.2.2.2.1
        have cv1 := (SK.out _ HBC.out).2.2.2.2.2
        gi_wp2_with fail
        generalize w' = U at *
        clear ca fa co gy0 gy1
        refine wpIn_wide.2 ?_
        have ca2 : U.cell? ⟨ab, 0, none⟩ = some (.slice (some ⟨g9, 0, none⟩) 1 c) := (HO.out.ba |> fun h => boxed_later h HVU.out).cell
        have fa2 : U.frozen? ⟨ab, 0, none⟩ = false := (boxed_later HO.out.ba HVU.out).frozen
        have la2 : ab < U.heap.size := Nat.lt_of_lt_of_le la HVU.out.size
        have OU := Lib.hid (own_zero (own_bel HO.out.own HVU.out))
        have hWY : Below U.heap.size U (U.drew.alloc (kv (x0, x1))) := bel_alloc (bel_dw (Below.refl _ _)) _
        have y0' : (U.drew.alloc (kv (x0, x1))).cell? ⟨ab, 0, none⟩ = some (.slice (some ⟨g9, 0, none⟩) 1 c) := bel_later hWY ca2
        have yf : (U.drew.alloc (kv (x0, x1))).frozen? ⟨ab, 0, none⟩ = false := (bel_frozen hWY la2).trans fa2
        have yp0 : (U.drew.alloc (kv (x0, x1))).cell? ⟨V.heap.size, 0, none⟩ = some (.int .i64 x0) := bel_later hWY cv0
        have yp1 : (U.drew.alloc (kv (x0, x1))).cell? ⟨V.heap.size, 1, none⟩ = some (.int .i64 x1) := bel_later hWY cv1
        have OY := Lib.hid (own_bel OU.out hWY)
        have hloY : lo ≤ (U.drew.alloc (kv (x0, x1))).heap.size := Nat.le_trans HLV.out (Nat.le_trans HVU.out.size hWY.size)
        have HNW : Hid (∀ j u, ([.int .i64 x0, .int .i64 x1] : List Value)[j]? = some u → (U.drew.alloc (kv (x0, x1))).cell? ((⟨U.heap.size, 0, none⟩ : Addr).add j) = some u) := Lib.hid (World.news_of_block (cs := #[.int .i64 x0, .int .i64 x1]) (t := 29) (fr := (0, 0)) (by simpa using World.alloc_heap_new U.drew (kv (x0, x1))))
        have HYb := Lib.hid (bel_trans HVU.out hWY)
        have NAB : Hid ((Value.slice (some ⟨g9, 0, none⟩) 1 c).ownBlock ≠ some ab) := Lib.hid (fun e => by have := (HO.out.own.lt ab e).1; omega)
        have NVB : Hid ((Value.slice (some ⟨g9, 0, none⟩) 1 c).ownBlock ≠ some V.heap.size) := Lib.hid (fun e => by have := (HO.out.own.lt V.heap.size e).2; omega)
        have laY : ab < (U.drew.alloc (kv (x0, x1))).heap.size := Nat.lt_of_lt_of_le la2 hWY.size
        have vbY : V.heap.size < (U.drew.alloc (kv (x0, x1))).heap.size := World.block_lt_of_cell? _ _ yp0
        have hUV : Hid (V.heap.size ≤ U.heap.size) := Lib.hid HVU.out.size
        clear hWY
        go_region_law (refine step_append_lies _ rfl (.tmp 19) (.tmp 21) _ rfl lo 29 i0 _ 2 16 Try.underlying26 hi hz0 hz1 hz2 rfl (by omega) (.slice (some ⟨g9, 0, none⟩) 0 c) 0 [] (by simp [Act.eval, Act.put]) OY.out ⟨U.heap.size, 0, none⟩ 1 1 [.int .i64 x0, .int .i64 x1] (by simp [Act.eval, Act.put]) rfl HNW.out (by simp [Value.oneCell']) (by omega) (by simp only [maxLen]; omega) (by omega) hloY (U.heap.size + 1) (by simp) ?_; intro gg cap w2 hown2 hg2 hat2 hlt2; have d0 := (grown_far hg2 (o := 0) laY NAB.out).trans y0'; have df := (grown_ffar hg2 (o := 0) laY NAB.out).trans yf; have dv0 := (grown_far hg2 (o := 0) vbY NVB.out).trans yp0; have dv1 := (grown_far hg2 (o := 1) vbY NVB.out).trans yp1)
        all_goals
          have hfin := on_fin (Jx := Jx) HJ.out hab hlo hyl hlo2 h0 h0l HO.out HIN.out HX.out NL.out HYb.out hg2 hown2 (by
            rcases hat2 with e | e
            · exact .inl e
            · exact .inr (by have := hUV.out; omega)) hlt2
          have hgV : gg ≠ V.heap.size := by
            rcases hat2 with e | e
            · intro e2; exact NVB.out (by rw [← e2]; exact e)
            · have := hUV.out; omega
          have hgA : gg ≠ ab := by
            rcases hat2 with e | e
            · intro e2; exact NAB.out (by rw [← e2]; exact e)
            · have := hUV.out; omega
          obtain ⟨hjS, hinS, hbyS, hall⟩ := hfin
          have cyS := hbyS.cell
          have naV : V.heap.size ≠ ab := by omega
          have s0 : (w2.setCell ⟨ab, 0, none⟩ (.slice (some ⟨gg, 0, none⟩) 1 cap)).cell? ⟨V.heap.size, 0, none⟩ = some (.int .i64 x0) := (World.cell?_setCell_far _ _ _ _ (fun e => naV e.symm)).trans dv0
          have s1 : (w2.setCell ⟨ab, 0, none⟩ (.slice (some ⟨gg, 0, none⟩) 1 cap)).cell? ⟨V.heap.size, 1, none⟩ = some (.int .i64 x1) := (World.cell?_setCell_far _ _ _ _ (fun e => naV e.symm)).trans dv1
          obtain ⟨fn, tmps, assign, body, hy, hRd⟩ := HY.out 2 _ (x0, x1) D _ (once_get HX.out NL.out) hjS hinS
          have HRD := Lib.hid hRd
          have HALL := Lib.hid hall
          simp only [enc] at hy
          clear hRd hall hjS hinS hbyS hown2 hg2
          gi_wp2
          refine HRD.out.mono ?_
          rintro e W3 ht
          obtain ⟨r, rfl, ht⟩ := tell_bool ht
          have FIN := Lib.hid (HALL.out r W3 ht)
          clear ht
          gi_wp2
          exact bodyPost_ret (v := .bool r) (by simp [results, Try.results36, go_sem]) rfl FIN.out
      · have q2 : x0 < y0 := by omega
        have OC : Hid (∀ U, Calls Try.prog 11 #[.agg #[.int .i64 y0, .int .i64 y1], .agg #[.int .i64 x0, .int .i64 x1]] U fun e w' => e = .returned (.int .i64 (1)) ∧ Below U.heap.size U w') := Lib.hid (fun U => (ord_any (y0, y1) (x0, x1) U).mono (fun e w' h => ⟨by rw [h.1]; simp [ordT, q1, q2], h.2⟩))
        gi_wp2_with fail
        refine wpIn_wide.2 ?_
        refine wp_region_held_drew (S := (fun U => U.cell? ⟨ab, 0, none⟩ = some (.slice (some ⟨g9, 0, none⟩) 1 c) ∧ U.cell? ⟨bo, 0, none⟩ = some (.func (.func 11) #[] #[]) ∧ U.cell? ⟨g9, 0, none⟩ = some (.int .i64 y0) ∧ U.cell? ⟨g9, 1, none⟩ = some (.int .i64 y1) ∧ U.cell? ⟨V.heap.size, 0, none⟩ = some (.int .i64 x0) ∧ U.cell? ⟨V.heap.size, 1, none⟩ = some (.int .i64 x1))) (by kernel_rfl) ?_ (fun hHeld => ?_)
        · first | exact SK.out _ HBC.out | exact SK.out _ (bel_dw (Below.refl _ _))
        refine wpAnyH_take (i := 0) (oi := { dst := some 6, op := Op.load 26 (Operand.tmp 1), type := 26, pos := "merge.go:122", after := #[], guard := none }) (v := ?_) rfl (by kernel_rfl) (by kernel_rfl) (by kernel_rfl) (fun _ _ _ h => h) (Or.inl ⟨by rfl, ?_⟩) (by assumption) ?_
        rotate_left
        · intro w hSw; (try dsimp only at hSw); go_simp; try with_reducible rfl
        try simp only [Act.put, List.setIfInBounds_toArray, List.set_cons_zero, List.set_cons_succ]
        refine wpAnyH_take (i := 1) (oi := { dst := some 7, op := Op.call { callee := Callee.builtin Builtin.len, args := #[Operand.tmp 6], argTypes := #[26] }, type := 3, pos := "merge.go:122", after := #[{ on := 0, ground := Ground.data }], guard := none }) (v := ?_) rfl (by kernel_rfl) (by kernel_rfl) (by kernel_rfl) (fun _ _ _ h => h) (Or.inl ⟨by rfl, ?_⟩) (by assumption) ?_
        rotate_left
        · intro w hSw; (try dsimp only at hSw); go_simp; try with_reducible rfl
        try simp only [Act.put, List.setIfInBounds_toArray, List.set_cons_zero, List.set_cons_succ]
        refine wpAnyH_take (i := 2) (oi := { dst := some 8, op := Op.binOp BinOp.gtr 3 (Operand.tmp 7) (Operand.const (Value.int IntKind.i64 0)) 3, type := 4, pos := "merge.go:122", after := #[{ on := 1, ground := Ground.data }], guard := none }) (v := ?_) rfl (by kernel_rfl) (by kernel_rfl) (by kernel_rfl) (fun _ _ _ h => h) (Or.inl ⟨by rfl, ?_⟩) (by assumption) ?_
        rotate_left
        · intro w hSw; (try dsimp only at hSw); go_simp; try with_reducible rfl
        try simp only [Act.put, List.setIfInBounds_toArray, List.set_cons_zero, List.set_cons_succ]
        refine wpAnyH_take (i := 3) (oi := { dst := some 9, op := Op.move (Operand.tmp 8), type := 4, pos := "merge.go:122", after := #[{ on := 2, ground := Ground.data }], guard := none }) (v := ?_) rfl (by kernel_rfl) (by kernel_rfl) (by kernel_rfl) (fun _ _ _ h => h) (Or.inl ⟨by rfl, ?_⟩) (by assumption) ?_
        rotate_left
        · intro w hSw; (try dsimp only at hSw); go_simp; try with_reducible rfl
        try simp only [Act.put, List.setIfInBounds_toArray, List.set_cons_zero, List.set_cons_succ]
        refine wpAnyH_take (i := 4) (oi := { dst := some 10, op := Op.load 33 (Operand.tmp 2), type := 33, pos := "merge.go:122", after := #[{ on := 3, ground := Ground.guard }], guard := some (3, true) }) (v := ?_) rfl (by kernel_rfl) (by kernel_rfl) (by kernel_rfl) (fun _ _ _ h => h) (Or.inl ⟨by rfl, ?_⟩) (by assumption) ?_
        rotate_left
        · intro w hSw; (try dsimp only at hSw); go_simp; try with_reducible rfl
        try simp only [Act.put, List.setIfInBounds_toArray, List.set_cons_zero, List.set_cons_succ]
        refine wpAnyH_take (i := 5) (oi := { dst := some 11, op := Op.load 26 (Operand.tmp 1), type := 26, pos := "merge.go:122", after := #[{ on := 3, ground := Ground.guard }], guard := some (3, true) }) (v := ?_) rfl (by kernel_rfl) (by kernel_rfl) (by kernel_rfl) (fun _ _ _ h => h) (Or.inl ⟨by rfl, ?_⟩) (by assumption) ?_
        rotate_left
        · intro w hSw; (try dsimp only at hSw); go_simp; try with_reducible rfl
        try simp only [Act.put, List.setIfInBounds_toArray, List.set_cons_zero, List.set_cons_succ]
        refine wpAnyH_take (i := 6) (oi := { dst := some 12, op := Op.indexAddr 26 (Operand.tmp 11) (Operand.const (Value.int IntKind.i64 0)), type := 0, pos := "merge.go:122", after := #[{ on := 5, ground := Ground.data }, { on := 3, ground := Ground.guard }], guard := some (3, true) }) (v := ?_) rfl (by kernel_rfl) (by kernel_rfl) (by kernel_rfl) (fun _ _ _ h => h) (Or.inl ⟨by rfl, ?_⟩) (by assumption) ?_
        rotate_left
        · intro w hSw; (try dsimp only at hSw); go_simp; try with_reducible rfl
        try simp only [Act.put, List.setIfInBounds_toArray, List.set_cons_zero, List.set_cons_succ]
        refine wpAnyH_take (i := 7) (oi := { dst := some 13, op := Op.load 29 (Operand.tmp 12), type := 29, pos := "merge.go:122", after := #[{ on := 6, ground := Ground.data }, { on := 3, ground := Ground.guard }], guard := some (3, true) }) (v := ?_) rfl (by kernel_rfl) (by kernel_rfl) (by kernel_rfl) (fun _ _ _ h => h) (Or.inl ⟨by rfl, ?_⟩) (by assumption) ?_
        rotate_left
        · intro w hSw; (try dsimp only at hSw); go_simp; try with_reducible rfl
        try simp only [Act.put, List.setIfInBounds_toArray, List.set_cons_zero, List.set_cons_succ]
        refine wpAnyH_take (i := 8) (oi := { dst := some 14, op := Op.load 29 (Operand.tmp 4), type := 29, pos := "merge.go:122", after := #[{ on := 3, ground := Ground.guard }], guard := some (3, true) }) (v := ?_) rfl (by kernel_rfl) (by kernel_rfl) (by kernel_rfl) (fun _ _ _ h => h) (Or.inl ⟨by rfl, ?_⟩) (by assumption) ?_
        rotate_left
        · intro w hSw; (try dsimp only at hSw); go_simp; try with_reducible rfl
        try simp only [Act.put, List.setIfInBounds_toArray, List.set_cons_zero, List.set_cons_succ]
        refine wpAnyH_ready (rs := [9]) (by kernel_rfl) (by simp) ?_
        refine AllReadyH.cons (o := { dst := some 15, op := Op.call { callee := Callee.value (Operand.tmp 10), args := #[Operand.tmp 13, Operand.tmp 14], argTypes := #[29, 29] }, type := 3, pos := "merge.go:122", after := #[{ on := 4, ground := Ground.data }, { on := 7, ground := Ground.data }, { on := 8, ground := Ground.data }, { on := 3, ground := Ground.chain }, { on := 3, ground := Ground.guard }], guard := some (3, true) }) rfl (fun K hK => ?_) AllReadyH.nil
        go_simp
        (refine (OC.out _).mono ?_; rintro e w' ⟨rfl, hb⟩; have HBC : Hid (Below (V.alloc (kv (x0, x1))).heap.size (V.alloc (kv (x0, x1))) w') := Lib.hid (bel_dr hb); clear hb)
        try go_wp2_with fail
        refine hK.out _ _ ?_ (fun hHeld => ?_)
        · first | exact SK.out _ HBC.out | exact SK.out _ (bel_dw (Below.refl _ _))
        clear hK K
        try simp only [Act.put, List.setIfInBounds_toArray, List.set_cons_zero, List.set_cons_succ]
        refine wpAnyH_take (i := 10) (oi := { dst := some 16, op := Op.binOp BinOp.eql 3 (Operand.tmp 15) (Operand.const (Value.int IntKind.i64 0)) 3, type := 4, pos := "merge.go:122", after := #[{ on := 9, ground := Ground.data }, { on := 3, ground := Ground.guard }], guard := some (3, true) }) (v := ?_) rfl (by kernel_rfl) (by kernel_rfl) (by kernel_rfl) (fun _ _ _ h => h) (Or.inl ⟨by rfl, ?_⟩) (by assumption) ?_
        rotate_left
        · intro w hSw; (try dsimp only at hSw); go_simp; try with_reducible rfl
        try simp only [Act.put, List.setIfInBounds_toArray, List.set_cons_zero, List.set_cons_succ]
        refine wpAnyH_take (i := 11) (oi := { dst := some 17, op := Op.pick (Operand.tmp 9) (Operand.tmp 16) (Operand.const (Value.bool false)), type := 4, pos := "merge.go:122", after := #[{ on := 3, ground := Ground.data }, { on := 10, ground := Ground.data }], guard := none }) (v := ?_) rfl (by kernel_rfl) (by kernel_rfl) (by kernel_rfl) (fun _ _ _ h => h) (Or.inl ⟨by rfl, ?_⟩) (by assumption) ?_
        rotate_left
        · intro w hSw; (try dsimp only at hSw); go_simp; try with_reducible rfl
        try simp only [Act.put, List.setIfInBounds_toArray, List.set_cons_zero, List.set_cons_succ]
        refine wpAnyH_done (by kernel_rfl) ?_ _
        clear hHeld
        have HVU := Lib.hid (bel_trans HV.out HBC.out)
        clear cv0 cv1
        have cv0 := (SK.out _ HBC.out).2.2.2.2.1
        have cv1 := (SK.out _ HBC.out).2.2.2.2.2
        gi_wp2_with fail
        generalize w' = U at *
        clear ca fa co gy0 gy1
        refine wpIn_wide.2 ?_
        have ca2 : U.cell? ⟨ab, 0, none⟩ = some (.slice (some ⟨g9, 0, none⟩) 1 c) := (HO.out.ba |> fun h => boxed_later h HVU.out).cell
        have fa2 : U.frozen? ⟨ab, 0, none⟩ = false := (boxed_later HO.out.ba HVU.out).frozen
        have la2 : ab < U.heap.size := Nat.lt_of_lt_of_le la HVU.out.size
        have OU := Lib.hid (own_zero (own_bel HO.out.own HVU.out))
        have hWY : Below U.heap.size U (U.drew.alloc (kv (x0, x1))) := bel_alloc (bel_dw (Below.refl _ _)) _
        have y0' : (U.drew.alloc (kv (x0, x1))).cell? ⟨ab, 0, none⟩ = some (.slice (some ⟨g9, 0, none⟩) 1 c) := bel_later hWY ca2
        have yf : (U.drew.alloc (kv (x0, x1))).frozen? ⟨ab, 0, none⟩ = false := (bel_frozen hWY la2).trans fa2
        have yp0 : (U.drew.alloc (kv (x0, x1))).cell? ⟨V.heap.size, 0, none⟩ = some (.int .i64 x0) := bel_later hWY cv0
        have yp1 : (U.drew.alloc (kv (x0, x1))).cell? ⟨V.heap.size, 1, none⟩ = some (.int .i64 x1) := bel_later hWY cv1
        have OY := Lib.hid (own_bel OU.out hWY)
        have hloY : lo ≤ (U.drew.alloc (kv (x0, x1))).heap.size := Nat.le_trans HLV.out (Nat.le_trans HVU.out.size hWY.size)
        have HNW : Hid (∀ j u, ([.int .i64 x0, .int .i64 x1] : List Value)[j]? = some u → (U.drew.alloc (kv (x0, x1))).cell? ((⟨U.heap.size, 0, none⟩ : Addr).add j) = some u) := Lib.hid (World.news_of_block (cs := #[.int .i64 x0, .int .i64 x1]) (t := 29) (fr := (0, 0)) (by simpa using World.alloc_heap_new U.drew (kv (x0, x1))))
        have HYb := Lib.hid (bel_trans HVU.out hWY)
        have NAB : Hid ((Value.slice (some ⟨g9, 0, none⟩) 1 c).ownBlock ≠ some ab) := Lib.hid (fun e => by have := (HO.out.own.lt ab e).1; omega)
        have NVB : Hid ((Value.slice (some ⟨g9, 0, none⟩) 1 c).ownBlock ≠ some V.heap.size) := Lib.hid (fun e => by have := (HO.out.own.lt V.heap.size e).2; omega)
        have laY : ab < (U.drew.alloc (kv (x0, x1))).heap.size := Nat.lt_of_lt_of_le la2 hWY.size
        have vbY : V.heap.size < (U.drew.alloc (kv (x0, x1))).heap.size := World.block_lt_of_cell? _ _ yp0
        have hUV : Hid (V.heap.size ≤ U.heap.size) := Lib.hid HVU.out.size
        clear hWY
        go_region_law (refine step_append_lies _ rfl (.tmp 19) (.tmp 21) _ rfl lo 29 i0 _ 2 16 Try.underlying26 hi hz0 hz1 hz2 rfl (by omega) (.slice (some ⟨g9, 0, none⟩) 0 c) 0 [] (by simp [Act.eval, Act.put]) OY.out ⟨U.heap.size, 0, none⟩ 1 1 [.int .i64 x0, .int .i64 x1] (by simp [Act.eval, Act.put]) rfl HNW.out (by simp [Value.oneCell']) (by omega) (by simp only [maxLen]; omega) (by omega) hloY (U.heap.size + 1) (by simp) ?_; intro gg cap w2 hown2 hg2 hat2 hlt2; have d0 := (grown_far hg2 (o := 0) laY NAB.out).trans y0'; have df := (grown_ffar hg2 (o := 0) laY NAB.out).trans yf; have dv0 := (grown_far hg2 (o := 0) vbY NVB.out).trans yp0; have dv1 := (grown_far hg2 (o := 1) vbY NVB.out).trans yp1)
        all_goals
          have hfin := on_fin (Jx := Jx) HJ.out hab hlo hyl hlo2 h0 h0l HO.out HIN.out HX.out NL.out HYb.out hg2 hown2 (by
            rcases hat2 with e | e
            · exact .inl e
            · exact .inr (by have := hUV.out; omega)) hlt2
          have hgV : gg ≠ V.heap.size := by
            rcases hat2 with e | e
            · intro e2; exact NVB.out (by rw [← e2]; exact e)
            · have := hUV.out; omega
          have hgA : gg ≠ ab := by
            rcases hat2 with e | e
            · intro e2; exact NAB.out (by rw [← e2]; exact e)
            · have := hUV.out; omega
          obtain ⟨hjS, hinS, hbyS, hall⟩ := hfin
          have cyS := hbyS.cell
          have naV : V.heap.size ≠ ab := by omega
          have s0 : (w2.setCell ⟨ab, 0, none⟩ (.slice (some ⟨gg, 0, none⟩) 1 cap)).cell? ⟨V.heap.size, 0, none⟩ = some (.int .i64 x0) := (World.cell?_setCell_far _ _ _ _ (fun e => naV e.symm)).trans dv0
          have s1 : (w2.setCell ⟨ab, 0, none⟩ (.slice (some ⟨gg, 0, none⟩) 1 cap)).cell? ⟨V.heap.size, 1, none⟩ = some (.int .i64 x1) := (World.cell?_setCell_far _ _ _ _ (fun e => naV e.symm)).trans dv1
          obtain ⟨fn, tmps, assign, body, hy, hRd⟩ := HY.out 2 _ (x0, x1) D _ (once_get HX.out NL.out) hjS hinS
          have HRD := Lib.hid hRd
          have HALL := Lib.hid hall
          simp only [enc] at hy
          clear hRd hall hjS hinS hbyS hown2 hg2
          gi_wp2
          refine HRD.out.mono ?_
          rintro e W3 ht
          obtain ⟨r, rfl, ht⟩ := tell_bool ht
          have FIN := Lib.hid (HALL.out r W3 ht)
          clear ht
          gi_wp2
          exact bodyPost_ret (v := .bool r) (by simp [results, Try.results36, go_sem]) rfl FIN.out
end Go.Proofs.Ytpijaphcknoobaa
