/- Pivots: which parts meet a range. -/
import Derived.Test.YtngldfheneegcaaP8
namespace Go.Proofs.Ytngldfheneegcaa
set_option linter.unusedSimpArgs false
open Go.RowKit Go.Shelf
set_option linter.unusedVariables false
attribute [local go_sem] Oper.semAt_some

/-- The first part that meets a range, and how many do. -/
def mtS (a b : ByteArray) (s : Nat × Nat) (x : Part) : Nat × Nat := if (meetF x.2.1 x.2.2 a b).2.2 = true then (if s.2 = 0 then x.1 else s.1, s.2 + 1) else s
def mts (a b : ByteArray) (pre : List Part) : Nat × Nat := pre.foldl (mtS a b) (0, 0)
theorem mts_snoc (a b : ByteArray) (pre : List Part) (x : Part) : mts a b (pre ++ [x]) = mtS a b (mts a b pre) x := by simp [mts]
theorem mts_le (a b : ByteArray) (pre : List Part) : (mts a b pre).2 ≤ pre.length := by
  have h : ∀ (l : List Part) (s : Nat × Nat), (l.foldl (mtS a b) s).2 ≤ s.2 + l.length := by
    intro l
    induction l with
    | nil => intro s; exact Nat.le_refl _
    | cons x l ih =>
      intro s
      have h1 := ih (mtS a b s x)
      have h2 : (mtS a b s x).2 ≤ s.2 + 1 := by unfold mtS; split <;> simp
      simp only [List.foldl_cons, List.length_cons]
      omega
  have := h pre (0, 0)
  simpa [mts] using this
structure MtI (w : World) (lo hi : Nat) (a b : ByteArray) (s : Nat × Nat) (W : World) : Prop where
  first : Boxed W (w.heap.size + 1 + 1) 3 (.int .i64 (s.1 : Int))
  cnt : Boxed W (w.heap.size + 1 + 1 + 1) 3 (.int .i64 (s.2 : Int))
  box : W.heap[w.heap.size + 1]? = some (rgc a b)
  bel : Below w.heap.size w W
  hs : hi ≤ W.heap.size
theorem rg_kept {W W' : World} {row : Option Nat} {B : Nat} {a b : ByteArray} (h : W.heap[B]? = some (rgc a b)) (hg : W.grownBy W' row) (hr : ∀ r, row = some r → ∃ o : Obj, W.heap[r]? = some o ∧ o.isCells = false) : W'.heap[B]? = some (rgc a b) :=
  (hg.block B (Array.getElem?_eq_some_iff.1 h).1 (fun e => by obtain ⟨o, ho, hc⟩ := hr B e.symm; rw [h] at ho; cases ho; cases hc)).trans h
theorem mtI_own (w : World) (lo hi B : Nat) (a b : ByteArray) (hB : w.heap.size ≤ B) : OwnFrom B (fun pre => MtI w lo hi a b (mts a b pre)) := by
  intro s X Y row hs hg hr
  refine ⟨?_, ?_, rg_kept hs.box hg (fun r e => (hr r e).2), ?_, Nat.le_trans hs.hs hg.size⟩
  · exact (Own.from (boxed_own (w.heap.size + 1 + 1) 3 (fun pre : List Part => Value.int .i64 ((mts a b pre).1 : Int))) B) s X Y row hs.first hg hr
  · exact (Own.from (boxed_own (w.heap.size + 1 + 1 + 1) 3 (fun pre : List Part => Value.int .i64 ((mts a b pre).2 : Int))) B) s X Y row hs.cnt hg hr
  · exact (ownFrom_below (β := List Part) (Nat.le_refl _) hB) s X Y row hs.bel hg hr
theorem MtI.later {w W W' : World} {lo hi : Nat} {a b : ByteArray} {s : Nat × Nat} (h : MtI w lo hi a b s W) (hb : Below W.heap.size W W') : MtI w lo hi a b s W' :=
  ⟨(hb.block _ h.first.lt).trans h.first, (hb.block _ h.cnt.lt).trans h.cnt, (hb.block _ (Array.getElem?_eq_some_iff.1 h.box).1).trans h.box, h.bel.trans (hb.mono h.bel.size), Nat.le_trans h.hs hb.size⟩
theorem MtI.set1 {w W : World} {lo hi : Nat} {a b : ByteArray} {s : Nat × Nat} (h : MtI w lo hi a b s W) (k : Nat) : MtI w lo hi a b (k, s.2) (W.setCell ⟨w.heap.size + 1 + 1, 0, none⟩ (.int .i64 (k : Int))) :=
  ⟨h.first.set _, h.cnt.other (by omega) _, (Below.heap_setCell W ⟨w.heap.size + 1 + 1, 0, none⟩ _ _ (by simp)).trans h.box, h.bel.setCell (p := ⟨w.heap.size + 1 + 1, 0, none⟩) (by simp; omega) _, by simpa using h.hs⟩
theorem MtI.set2 {w W : World} {lo hi : Nat} {a b : ByteArray} {s : Nat × Nat} (h : MtI w lo hi a b s W) (k : Nat) : MtI w lo hi a b (s.1, k) (W.setCell ⟨w.heap.size + 1 + 1 + 1, 0, none⟩ (.int .i64 (k : Int))) :=
  ⟨h.first.other (by omega) _, h.cnt.set _, (Below.heap_setCell W ⟨w.heap.size + 1 + 1 + 1, 0, none⟩ _ _ (by simp)).trans h.box, h.bel.setCell (p := ⟨w.heap.size + 1 + 1 + 1, 0, none⟩) (by simp; omega) _, by simpa using h.hs⟩
/-- What a round keeps. -/
def Rnd (lo hi : Nat) (W W' : World) : Prop := KeepsFrom hi W W' ∧ KpR lo hi W W'
theorem Rnd.below {lo hi : Nat} {W W' : World} (hb : Below W.heap.size W W') (h : hi ≤ W.heap.size) : Rnd lo hi W W' :=
  ⟨(KeepsOthers.of_grownBy (bel_grown hb none) (fun j o e _ => by cases e)).from _, .of_below hb h⟩
theorem Rnd.set {lo hi k : Nat} {W W' : World} (h : Rnd lo hi W W') (hk : k < lo) (v : Value) : Rnd lo hi W (W'.setCell ⟨k, 0, none⟩ v) :=
  ⟨h.1.trans ((KeepsOthers.setCell _ _ _).from _), h.2.trans (kpR_set _ hk _)⟩
theorem mtS_no {a b : ByteArray} {s : Nat × Nat} {x : Part} (h : (meetF x.2.1 x.2.2 a b).2.2 = false) : mtS a b s x = s := by unfold mtS; rw [h]; rfl
theorem mtS_yes {a b : ByteArray} {s : Nat × Nat} {x : Part} (h : (meetF x.2.1 x.2.2 a b).2.2 = true) : mtS a b s x = (if s.2 = 0 then x.1 else s.1, s.2 + 1) := by unfold mtS; rw [h]; rfl
def MeetsPost (w : World) (s : Nat × Nat) (e : Ending) (w' : World) : Prop := e = .returned (.tuple #[.int .i64 (s.1 : Int), .int .i64 (s.2 : Int)]) ∧ Below w.heap.size w w'

set_option maxRecDepth 100000 in
set_option maxHeartbeats 4000000 in
theorem meets_in (A : Option Addr) (p : List ByteArray) (n c : Nat) (f t a b : ByteArray) (w : World) (hl : p.length = n) (hn : n ≤ 1000) (hr : RdS w A p) :
    CallsIn Fence.wide 4 Try.prog 10 #[.slice A n c, .agg #[.string f, .string t], .agg #[.string a, .string b]] w (MeetsPost w (mts a b (upto p f t (many p f t)))) := by
  have AL := Lib.hid (fun W (hb : Below w.heap.size w W) => all_any A p n c f t W hl hn (Rd.later hr hb))
  have HL := Lib.hid hl
  have hm := many_le p f t
  have hm9 : many p f t ≤ 1001 := by omega
  clear hr hl
  refine callsIn_of_wp_marks Try.func10 rfl trivial ?_ rfl
  simp only [Try.ntmps10, List.size_toArray, List.length_cons, List.length_nil, Nat.reduceAdd, Nat.reduceSub, Array.replicate_succ, Array.replicate_zero, List.push_toArray, List.append_toArray, List.nil_append, List.cons_append]
  gi_wp2_with fail
  obtain ⟨V, hV⟩ : ∃ V, ((((w.alloc (rgc f t)).alloc (rgc a b)).alloc (.cells #[.int .i64 0] 3)).alloc (.cells #[.int .i64 0] 3)) = V := ⟨_, rfl⟩
  have MI : MtI w (w.heap.size + 4) V.heap.size a b (0, 0) V := by
    subst hV
    refine ⟨?_, ?_, ?_, by go_grown, Nat.le_refl _⟩
    · have := (Boxed.new ((w.alloc (rgc f t)).alloc (rgc a b)) 3 (.int .i64 0)).alloc (.cells #[.int .i64 0] 3)
      simp only [World.size_alloc] at this
      exact this
    · have := Boxed.new (((w.alloc (rgc f t)).alloc (rgc a b)).alloc (.cells #[.int .i64 0] 3)) 3 (.int .i64 0)
      simp only [World.size_alloc] at this
      exact this
    · have h0 := World.alloc_heap_new (w.alloc (rgc f t)) (rgc a b)
      rw [World.size_alloc] at h0
      exact (Below.heap_alloc _ _ _ (by simp)).trans ((Below.heap_alloc _ _ _ (by simp)).trans h0)
  have Z0 : V.heap.size = w.heap.size + 4 := by subst hV; simp
  rw [hV]
  clear hV
  have HMI := Lib.hid MI
  clear MI
  refine ⟨trivial, (callsIn_wide.2 (AL.out _ HMI.out.bel)).mono ?_⟩
  rintro e W0 ⟨B1, B2, B3, rfl, hIt, hb⟩
  have hsb := hb.size
  have hIt2 := Lib.hid hIt
  have hMI : MtI w (w.heap.size + 4) W0.heap.size a b (0, 0) W0 := ⟨(HMI.out.later hb).first, (HMI.out.later hb).cnt, (HMI.out.later hb).box, (HMI.out.later hb).bel, Nat.le_refl _⟩
  rw [Z0] at hIt2 hsb
  have HI0 := Lib.hid hMI
  clear hIt hb HMI hMI Z0
  unfold itv
  gi_wp2
  have hsw := HI0.out.bel.size
  refine wpIn_rangeFunc_ownH rfl (by decide) (gf := 34) (lb := #[.pointer (some ⟨B1, 0, none⟩), .pointer (some ⟨B2, 0, none⟩), .pointer (some ⟨B3, 0, none⟩)]) rfl trivial (enters_of Try.func34 (by kernel_rfl) rfl)
    (it_stops (by rw [HL.out]; exact hn) W0 hIt2.out) KpR.trans (kpR_b (Nat.le_refl _)) (Below.refl _ _) (fun _ => rfl)
    (fun pre => MtI w (w.heap.size + 4) W0.heap.size a b (mts a b pre))
    (fun _ _ _ => False)
    (mtI_own w (w.heap.size + 4) W0.heap.size _ a b hsw)
    (fun _ _ _ _ _ hs _ _ => hs)
    HI0.out
    (fun x a' W => ∃ Bx, W0.heap.size ≤ Bx ∧ W.heap[Bx]? = some (rgc x.2.1 x.2.2) ∧ a' = { tmps := #[Value.slice A n c, Value.agg #[Value.string f, Value.string t], Value.agg #[Value.string a, Value.string b], undef, Value.pointer (some ⟨w.heap.size, 0, none⟩), Value.pointer (some ⟨w.heap.size + 1, 0, none⟩), Value.int IntKind.i64 0, Value.int IntKind.i64 0, Value.pointer (some ⟨w.heap.size + 1 + 1, 0, none⟩), Value.pointer (some ⟨w.heap.size + 1 + 1 + 1, 0, none⟩), .int .i64 (x.1 : Int), .pointer (some ⟨Bx, 0, none⟩), undef, undef, Value.slice A n c, Value.agg #[Value.string f, Value.string t], (Value.func (Fn.func 34) #[] #[Value.pointer (some ⟨B1, 0, none⟩), Value.pointer (some ⟨B2, 0, none⟩), Value.pointer (some ⟨B3, 0, none⟩)]), .int .i64 (x.1 : Int), .agg #[.string x.2.1, .string x.2.2], undef, undef, undef, undef, undef, undef, undef, undef, undef, undef, undef, undef, undef, undef, undef], defers := [] })
    (fun x a' _ X Y row hs hg hr => by
      obtain ⟨Bx, h1, h2, h3⟩ := hs
      exact ⟨Bx, h1, rg_kept h2 hg (fun r e => (hr r e).2), h3⟩)
    ?assign ?body ?done ?stop
  case assign =>
    rintro l pre x W K hI hK
    gi_wp2
    exact hK _ _ ((KeepsOthers.alloc _ _).from _) (.of_below ((Below.refl _ W).alloc (Nat.le_refl _) _) hI.hs) ((mtI_own w (w.heap.size + 4) W0.heap.size W0.heap.size a b hsw).alloc _ hI) ⟨W.heap.size, hI.hs, World.alloc_heap_new W _, rfl⟩
  case body =>
    rintro l pre x a' W hl9 ⟨r, hr⟩ hI ⟨Bx, hBx, bX, rfl⟩ hlt
    have hle := mts_le a b pre
    have hsn := mts_snoc a b pre x
    obtain ⟨s, hs⟩ : ∃ s, mts a b pre = s := ⟨_, rfl⟩
    rw [hs] at hI hle hsn
    obtain ⟨s1, s2⟩ := s
    have cF := hI.first.cell
    have fF := hI.first.frozen
    have cC := hI.cnt.cell
    have fC := hI.cnt.frozen
    have x0 : W.cell? ⟨Bx, 0, none⟩ = some (.string x.2.1) := by simp [World.cell?, bX]
    have x1 : W.cell? ⟨Bx, 1, none⟩ = some (.string x.2.2) := by simp [World.cell?, bX]
    have y0 : W.cell? ⟨w.heap.size + 1, 0, none⟩ = some (.string a) := by simp [World.cell?, hI.box]
    have y1 : W.cell? ⟨w.heap.size + 1, 1, none⟩ = some (.string b) := by simp [World.cell?, hI.box]
    have hn0 : (0 : Int) ≤ (s2 : Int) := by omega
    have hn9 : (s2 : Int) ≤ 1001 := by simp at hle; omega
    have HI := Lib.hid hI
    clear hI hIt2 AL bX hs hle
    cases hmt : (meetF x.2.1 x.2.2 a b).2.2
    · rw [mtS_no hmt] at hsn
      gi_wp2_with (refine ⟨trivial, ?_⟩; gi_at_call 25; refine (CallsIn.inRound l (callsIn_wide.2 (meet_any x.2.1 x.2.2 a b W))).mono ?_; rintro e w1 ⟨rfl, b1⟩; have c2 := bel_later b1 cC; have c1 := bel_later b1 cF; have f1 := (bel_frozen b1 HI.out.first.lt).trans fF; have f2 := (bel_frozen b1 HI.out.cnt.lt).trans fC; have d2 := bel_later (bel_alloc (Below.refl _ w1) (rgc (meetF x.2.1 x.2.2 a b).1 (meetF x.2.1 x.2.2 a b).2.1)) c2; have d1 := bel_later (bel_alloc (Below.refl _ w1) (rgc (meetF x.2.1 x.2.2 a b).1 (meetF x.2.1 x.2.2 a b).2.1)) c1; have g1 := (bel_frozen (bel_alloc (Below.refl _ w1) (rgc (meetF x.2.1 x.2.2 a b).1 (meetF x.2.1 x.2.2 a b).2.1)) (World.block_lt_of_cell? _ _ c1)).trans f1; have g2 := (bel_frozen (bel_alloc (Below.refl _ w1) (rgc (meetF x.2.1 x.2.2 a b).1 (meetF x.2.1 x.2.2 a b).2.1)) (World.block_lt_of_cell? _ _ c2)).trans f2; have BB := Lib.hid b1; unfold mv; rw [hmt]; clear b1)
      have bV : Below W.heap.size W (w1.alloc (rgc (meetF x.2.1 x.2.2 a b).1 (meetF x.2.1 x.2.2 a b).2.1)) := bel_alloc BB.out _
      have R := Rnd.below (lo := w.heap.size + 4) bV HI.out.hs
      refine ⟨R.1, R.2, ?_⟩
      show MtI w (w.heap.size + 4) W0.heap.size a b (mts a b (pre ++ [x])) _
      rw [hsn]
      exact HI.out.later bV
    · rw [mtS_yes hmt] at hsn
      by_cases hz : s2 = 0
      · subst hz
        rw [if_pos rfl] at hsn
        gi_wp2_with (refine ⟨trivial, ?_⟩; gi_at_call 25; refine (CallsIn.inRound l (callsIn_wide.2 (meet_any x.2.1 x.2.2 a b W))).mono ?_; rintro e w1 ⟨rfl, b1⟩; have c2 := bel_later b1 cC; have c1 := bel_later b1 cF; have f1 := (bel_frozen b1 HI.out.first.lt).trans fF; have f2 := (bel_frozen b1 HI.out.cnt.lt).trans fC; have d2 := bel_later (bel_alloc (Below.refl _ w1) (rgc (meetF x.2.1 x.2.2 a b).1 (meetF x.2.1 x.2.2 a b).2.1)) c2; have d1 := bel_later (bel_alloc (Below.refl _ w1) (rgc (meetF x.2.1 x.2.2 a b).1 (meetF x.2.1 x.2.2 a b).2.1)) c1; have g1 := (bel_frozen (bel_alloc (Below.refl _ w1) (rgc (meetF x.2.1 x.2.2 a b).1 (meetF x.2.1 x.2.2 a b).2.1)) (World.block_lt_of_cell? _ _ c1)).trans f1; have g2 := (bel_frozen (bel_alloc (Below.refl _ w1) (rgc (meetF x.2.1 x.2.2 a b).1 (meetF x.2.1 x.2.2 a b).2.1)) (World.block_lt_of_cell? _ _ c2)).trans f2; have BB := Lib.hid b1; unfold mv; rw [hmt]; clear b1)
        have bV : Below W.heap.size W (w1.alloc (rgc (meetF x.2.1 x.2.2 a b).1 (meetF x.2.1 x.2.2 a b).2.1)) := bel_alloc BB.out _
        have R := ((Rnd.below bV HI.out.hs).set (k := w.heap.size + 1 + 1) (by omega) (.int .i64 (x.1 : Int))).set (k := w.heap.size + 1 + 1 + 1) (lo := w.heap.size + 4) (by omega) (.int .i64 1)
        refine ⟨R.1, R.2, ?_⟩
        show MtI w (w.heap.size + 4) W0.heap.size a b (mts a b (pre ++ [x])) _
        rw [hsn]
        exact ((HI.out.later bV).set1 x.1).set2 1
      · have hze : ((s2 : Int) == 0) = false := by rw [beq_eq_false_iff_ne]; omega
        rw [if_neg hz] at hsn
        clear hz
        gi_wp2_with (refine ⟨trivial, ?_⟩; gi_at_call 25; refine (CallsIn.inRound l (callsIn_wide.2 (meet_any x.2.1 x.2.2 a b W))).mono ?_; rintro e w1 ⟨rfl, b1⟩; have c2 := bel_later b1 cC; have c1 := bel_later b1 cF; have f1 := (bel_frozen b1 HI.out.first.lt).trans fF; have f2 := (bel_frozen b1 HI.out.cnt.lt).trans fC; have d2 := bel_later (bel_alloc (Below.refl _ w1) (rgc (meetF x.2.1 x.2.2 a b).1 (meetF x.2.1 x.2.2 a b).2.1)) c2; have d1 := bel_later (bel_alloc (Below.refl _ w1) (rgc (meetF x.2.1 x.2.2 a b).1 (meetF x.2.1 x.2.2 a b).2.1)) c1; have g1 := (bel_frozen (bel_alloc (Below.refl _ w1) (rgc (meetF x.2.1 x.2.2 a b).1 (meetF x.2.1 x.2.2 a b).2.1)) (World.block_lt_of_cell? _ _ c1)).trans f1; have g2 := (bel_frozen (bel_alloc (Below.refl _ w1) (rgc (meetF x.2.1 x.2.2 a b).1 (meetF x.2.1 x.2.2 a b).2.1)) (World.block_lt_of_cell? _ _ c2)).trans f2; have BB := Lib.hid b1; unfold mv; rw [hmt]; clear b1)
        have bV : Below W.heap.size W (w1.alloc (rgc (meetF x.2.1 x.2.2 a b).1 (meetF x.2.1 x.2.2 a b).2.1)) := bel_alloc BB.out _
        have R := (Rnd.below bV HI.out.hs).set (k := w.heap.size + 1 + 1 + 1) (lo := w.heap.size + 4) (by omega) (.int .i64 ((s2 : Int) + 1))
        refine ⟨R.1, R.2, ?_⟩
        show MtI w (w.heap.size + 4) W0.heap.size a b (mts a b (pre ++ [x])) _
        rw [hsn]
        exact (HI.out.later bV).set2 (s2 + 1)
  case done =>
    rintro D ys W hD rfl hI hK
    obtain ⟨s, hs⟩ : ∃ s, mts a b (upto p f t (many p f t)) = s := ⟨_, rfl⟩
    rw [hs] at hI
    have HS := Lib.hid hs
    obtain ⟨s1, s2⟩ := s
    have cF := hI.first.cell
    have cC := hI.cnt.cell
    have HI := Lib.hid hI
    have HK := Lib.hid hK
    clear hI hIt2 AL hs
    gi_wp2
    gi_region
    all_goals gi_wp2
    have hKd : W.drew.heap[D]? = some (.deferred (some [])) := HK.out
    refine ⟨by simp, .inl ⟨_, _, rfl, run_takeDeferred hKd, ?_⟩⟩
    exact ⟨.tuple #[.int .i64 (s1 : Int), .int .i64 (s2 : Int)], by simp [results, Try.results10, go_sem], by rw [HS.out], (bel_dw HI.out.bel).trans (belowK_b (w := w) (Nat.le_refl _) W.drew D _ _ (by omega) hKd rfl rfl)⟩
  case stop =>
    rintro D c' pre W _ _ h _
    exact h.elim
theorem meets_any (A : Option Addr) (p : List ByteArray) (n c : Nat) (f t a b : ByteArray) (w : World) (hl : p.length = n) (hn : n ≤ 1000) (hr : RdS w A p) :
    Calls Try.prog 10 #[.slice A n c, .agg #[.string f, .string t], .agg #[.string a, .string b]] w (MeetsPost w (mts a b (upto p f t (many p f t)))) := callsIn_wide.1 (meets_in A p n c f t a b w hl hn hr)
theorem spans_any (A : Option Addr) (p : List ByteArray) (n c : Nat) (f t : ByteArray) (w : World) (hl : p.length = n) (hn : n ≤ 1000) (hr : RdS w A p) :
    Calls Try.prog 8 #[.slice A n c, .agg #[.string f, .string t]] w (SpansPost w (parts p f t)) := callsIn_wide.1 (spans_in A p n c f t w hl hn hr)
end Go.Proofs.Ytngldfheneegcaa
