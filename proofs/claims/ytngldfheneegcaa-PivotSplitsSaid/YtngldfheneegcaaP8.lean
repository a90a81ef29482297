/- Pivots: all parts in a row. -/
import Derived.Test.YtngldfheneegcaaP7
import Derived.Maps.AppendAt
import Derived.Maps.OwnIn
import Derived.RangeFuncWrites
namespace Go.Proofs.Ytngldfheneegcaa
set_option linter.unusedSimpArgs false
open Go.RowKit Go.Shelf
set_option linter.unusedVariables false
attribute [local go_sem] Oper.semAt_some

theorem info24 : (Try.prog.info? 24).map (fun i => (i.zero, i.size, i.bytes)) = some (some (.agg #[.string ⟨#[]⟩, .string ⟨#[]⟩]), 2, 32) := by kernel_rfl
/-- The cells of parts in a row. -/
def flt (ps : List (ByteArray × ByteArray)) : List Value := ps.flatMap fun x => [.string x.1, .string x.2]
theorem flt_snoc (ps : List (ByteArray × ByteArray)) (x : ByteArray × ByteArray) : flt (ps ++ [x]) = flt ps ++ [.string x.1, .string x.2] := by simp [flt]
abbrev ends (pre : List Part) : List (ByteArray × ByteArray) := pre.map (·.2)
def okL (pre : List Part) : Bool := (pre.zipIdx).all fun x => x.1.1 == x.2
theorem okL_snoc (pre : List Part) (x : Part) : okL (pre ++ [x]) = (okL pre && x.1 == pre.length) := by simp [okL, List.zipIdx_append]
theorem okL_upto (p : List ByteArray) (f t : ByteArray) : ∀ k, okL (upto p f t k) = true
  | 0 => rfl
  | k + 1 => by rw [upto_succ, okL_snoc, okL_upto p f t k, upto_length]; simp [prtOf]
/-- A row that may be written to does not touch the iterator's blocks. -/
def Far (lo hi : Nat) (v : Value) : Prop := ∀ k, v.ownBlock = some k → k < lo ∨ hi ≤ k
structure SpI (w : World) (lo hi : Nat) (pre : List Part) (W : World) : Prop where
  out : ∃ v, Boxed W (w.heap.size + 1 + 1) 26 v ∧ W.ownsRow w.heap.size 24 2 v pre.length (flt (ends pre)) ∧ Far lo hi v
  ok : Boxed W (w.heap.size + 1 + 1 + 1) 4 (.bool (okL pre))
  bel : Below w.heap.size w W
  hs : hi ≤ W.heap.size
theorem spI_own (w : World) (lo hi B : Nat) (hB : w.heap.size ≤ B) : OwnFrom B (SpI w lo hi) := by
  intro s X Y row hs hg hr
  refine ⟨?_, ?_, ?_, Nat.le_trans hs.hs hg.size⟩
  · exact (Own.from (holdsRow_own w.heap.size (w.heap.size + 1 + 1) 26 24 2 (fun pre : List Part => pre.length) (fun pre => flt (ends pre)) (fun _ v => Far lo hi v)) B) s X Y row hs.out hg hr
  · exact (Own.from (boxed_own (w.heap.size + 1 + 1 + 1) 4 (fun pre : List Part => Value.bool (okL pre))) B) s X Y row hs.ok hg hr
  · exact (ownFrom_below (β := List Part) (Nat.le_refl _) hB) s X Y row hs.bel hg hr
def RdP (w : World) (A : Option Addr) (ps : List (ByteArray × ByteArray)) : Prop := Rd w w.heap.size A (flt ps)
def SpansPost (w : World) (ps : List (ByteArray × ByteArray)) (e : Ending) (w' : World) : Prop := ∃ A c, e = .returned (.tuple #[.slice A ps.length c, .bool true]) ∧ RdP w' A ps ∧ Below w.heap.size w w'
def parts (p : List ByteArray) (f t : ByteArray) : List (ByteArray × ByteArray) := (List.range (many p f t)).map fun i => (pF p f i, pT p t i)
theorem ends_upto (p : List ByteArray) (f t : ByteArray) : ends (upto p f t (many p f t)) = parts p f t := by simp [ends, upto, parts, prtOf, List.map_map, Function.comp_def]

theorem run_isnil (g : Fn) (r l : Array Value) (W : World) : Sem.run Try.prog (binOp BinOp.eql 48 (Value.func g r l) Value.nilFunc) W = .ok (.bool false) W := by
  have h0 : ∀ d : Nat, (Op.equalIn (d + 1) 48 (Value.func g r l) Value.nilFunc).run Try.prog W = .ok false W := fun d => by simp [Op.equalIn, run_underlying Try.underlying48]
  have h1 := h0 9999
  have e : Op.equal 48 (Value.func g r l) Value.nilFunc = Op.equalIn (9999 + 1) 48 (Value.func g r l) Value.nilFunc := rfl
  rw [← e] at h1
  simp [binOp, go_sem, h1]
theorem two_new (w : World) (a b : ByteArray) : ∀ j u, [Value.string a, .string b][j]? = some u → (w.alloc (rgc a b)).cell? ((⟨w.heap.size, 0, none⟩ : Addr).add j) = some u := by
  intro j u hj
  match j, hj with
  | 0, hj => simp at hj; subst hj; exact (rgcell (w := w) a b).1
  | 1, hj => simp at hj; subst hj; exact (rgcell (w := w) a b).2

theorem kpR_b {lo hi : Nat} {B : Nat} (hB : hi ≤ B) : ∀ (W : World) (l : Nat) (o o' : Obj), B ≤ l → W.heap[l]? = some o → o.isCells = false → o.isWalk = false → KpR lo hi W (W.putObj l o') := by
  intro W l o o' h1 h2 h3 h4
  have hg := grownBy_putObj' W l o'
  exact ⟨hg.size, fun g a b => hg.block g (Nat.lt_of_lt_of_le b (by have := (Array.getElem?_eq_some_iff.1 h2).1; omega)) (fun e => by cases e; omega)⟩
theorem own_shape {w : World} {base : Nat} {e : TypeId} {size : Nat} {v : Value} {n : Nat} {xs : List Value} (h : w.ownsRow base e size v n xs) : ∃ a c, v = .slice a n c := by
  rcases h.2 with ⟨rfl, rfl⟩ | ⟨g, cap, cur, rfl, _⟩
  · exact ⟨_, _, rfl⟩
  · exact ⟨_, _, rfl⟩
theorem two_new2 (w : World) (N : Nat) (a b : ByteArray) (h : N = w.heap.size) : ∀ j u, [Value.string a, .string b][j]? = some u → (w.alloc (rgc a b)).cell? ((⟨N, 0, none⟩ : Addr).add j) = some u := by subst h; exact two_new w a b
theorem kpR_grown {lo hi : Nat} {A B : World} {v : Value} (h : A.grownBy B v.ownBlock) (hf : Far lo hi v) (hh : hi ≤ A.heap.size) : KpR lo hi A B := ⟨h.size, fun g a b => h.block g (by omega) (fun e => by have := hf g e.symm; omega)⟩
theorem kpR_set {lo hi b : Nat} (W : World) (h : b < lo) (v : Value) : KpR lo hi W (W.setCell ⟨b, 0, none⟩ v) := by
  have hg := grownBy_setCell' W b v
  exact ⟨hg.size, fun g a c => (Below.heap_setCell W ⟨b, 0, none⟩ v g (by simp; omega))⟩
/-- One more part is appended. -/
theorem app_end {w W w1 : World} {lo hi : Nat} {pre : List Part} {x : Part} {b : Bool} {v v' : Value} (hlo : lo = w.heap.size + 4) (hhi : w.heap.size ≤ hi)
    (hI : SpI w lo hi pre W) (hb : okL (pre ++ [x]) = b) (hv : Boxed W (w.heap.size + 1 + 1) 26 v) (hrow : W.ownsRow w.heap.size 24 2 v pre.length (flt (ends pre))) (hf : Far lo hi v)
    (hown' : w1.ownsRow w.heap.size 24 2 v' (pre.length + 1) (flt (ends pre) ++ [.string x.2.1, .string x.2.2]))
    (hgrow : ((W.setCell ⟨w.heap.size + 1 + 1 + 1, 0, none⟩ (.bool b)).alloc (rgc x.2.1 x.2.2)).grownBy w1 v.ownBlock)
    (hat : v'.ownBlock = v.ownBlock ∨ v'.ownBlock = some ((W.setCell ⟨w.heap.size + 1 + 1 + 1, 0, none⟩ (.bool b)).alloc (rgc x.2.1 x.2.2)).heap.size) :
    Boxed w1 (w.heap.size + 1 + 1) 26 v ∧ KeepsFrom hi W (w1.setCell ⟨w.heap.size + 1 + 1, 0, none⟩ v') ∧ KpR lo hi W (w1.setCell ⟨w.heap.size + 1 + 1, 0, none⟩ v') ∧ SpI w lo hi (pre ++ [x]) (w1.setCell ⟨w.heap.size + 1 + 1, 0, none⟩ v') := by
  have hsz := hI.bel.size
  have hsi := hI.hs
  have hv2 : Boxed (W.setCell ⟨w.heap.size + 1 + 1 + 1, 0, none⟩ (.bool b)) (w.heap.size + 1 + 1) 26 v := hv.other (by omega) _
  have hne : v.ownBlock ≠ some (w.heap.size + 1 + 1 + 1) := (hI.ok.not_row (by decide) hrow).symm
  have hrow2 := own_set hrow hne (.bool b) (o := 0)
  have hok2 : Boxed (W.setCell ⟨w.heap.size + 1 + 1 + 1, 0, none⟩ (.bool b)) (w.heap.size + 1 + 1 + 1) 4 (.bool b) := hI.ok.set _
  obtain ⟨q1, q2, q3, q4, q5⟩ := hv2.appended (n₀ := w.heap.size) (by decide) hrow2 (by simp; omega) (by omega) hown' hgrow
  have hok3 : Boxed (w1.setCell ⟨w.heap.size + 1 + 1, 0, none⟩ v') (w.heap.size + 1 + 1 + 1) 4 (.bool b) := (((hok2.alloc _).kept hgrow hne.symm).other (by omega) _)
  have hB : Below w.heap.size W (W.setCell ⟨w.heap.size + 1 + 1 + 1, 0, none⟩ (.bool b)) := (Below.refl _ W).setCell (p := ⟨w.heap.size + 1 + 1 + 1, 0, none⟩) (by simp; omega) _
  have k1 : KpR lo hi W (W.setCell ⟨w.heap.size + 1 + 1 + 1, 0, none⟩ (.bool b)) := kpR_set _ (by omega) _
  have k2 : KpR lo hi (W.setCell ⟨w.heap.size + 1 + 1 + 1, 0, none⟩ (.bool b)) ((W.setCell ⟨w.heap.size + 1 + 1 + 1, 0, none⟩ (.bool b)).alloc (rgc x.2.1 x.2.2)) := .of_below ((Below.refl _ _).alloc (Nat.le_refl _) _) (by simp; omega)
  have k3 := kpR_grown hgrow hf (by simp; omega)
  have k4 : KpR lo hi w1 (w1.setCell ⟨w.heap.size + 1 + 1, 0, none⟩ v') := kpR_set _ (by omega) _
  have k := (k1.trans k2).trans (k3.trans k4)
  refine ⟨q1, ((KeepsOthers.setCell _ _ _).trans q4).from _, k, ⟨⟨v', q2, ?_, ?_⟩, ?_, hI.bel.trans (hB.trans q5), Nat.le_trans hsi k.1⟩⟩
  · rw [show ends (pre ++ [x]) = ends pre ++ [x.2] by simp, flt_snoc, show (pre ++ [x]).length = pre.length + 1 by simp]
    exact q3
  · intro k' e
    rcases hat with h | h
    · exact hf k' (h ▸ e)
    · rw [h] at e; cases e; right; simp; omega
  · rw [hb]; exact hok3
set_option maxRecDepth 100000 in
set_option maxHeartbeats 4000000 in
theorem spans_in (A : Option Addr) (p : List ByteArray) (n c : Nat) (f t : ByteArray) (w : World) (hl : p.length = n) (hn : n ≤ 1000) (hr : RdS w A p) :
    CallsIn Fence.wide 4 Try.prog 8 #[.slice A n c, .agg #[.string f, .string t]] w (SpansPost w (parts p f t)) := by
  have AL := Lib.hid (fun W (hb : Below w.heap.size w W) => all_any A p n c f t W hl hn (Rd.later hr hb))
  have HL := Lib.hid hl
  have hm := many_le p f t
  have hm9 : many p f t ≤ 1001 := by omega
  obtain ⟨i0, hi, hz0, hz1, hz2⟩ := info_parts info24
  clear hr hl
  refine callsIn_of_wp_marks Try.func8 rfl trivial ?_ rfl
  simp only [Try.ntmps8, List.size_toArray, List.length_cons, List.length_nil, Nat.reduceAdd, Nat.reduceSub, Array.replicate_succ, Array.replicate_zero, List.push_toArray, List.append_toArray, List.nil_append, List.cons_append]
  gi_wp2_with fail
  have B0 := Lib.hid (show Below w.heap.size w ((((w.alloc (rgc f t)).alloc (.cells #[] 24)).alloc (.cells #[.slice (some ⟨w.heap.size + 1, 0, none⟩) 0 0] 26)).alloc (.cells #[.bool true] 4)) by go_grown)
  have bO : Boxed ((((w.alloc (rgc f t)).alloc (.cells #[] 24)).alloc (.cells #[.slice (some ⟨w.heap.size + 1, 0, none⟩) 0 0] 26)).alloc (.cells #[.bool true] 4)) (w.heap.size + 1 + 1) 26 (.slice (some ⟨w.heap.size + 1, 0, none⟩) 0 0) := by
    have := (Boxed.new ((w.alloc (rgc f t)).alloc (.cells #[] 24)) 26 (.slice (some ⟨w.heap.size + 1, 0, none⟩) 0 0)).alloc (.cells #[.bool true] 4)
    simpa only [World.size_alloc] using this
  have bK : Boxed ((((w.alloc (rgc f t)).alloc (.cells #[] 24)).alloc (.cells #[.slice (some ⟨w.heap.size + 1, 0, none⟩) 0 0] 26)).alloc (.cells #[.bool true] 4)) (w.heap.size + 1 + 1 + 1) 4 (.bool true) := by
    have := Boxed.new (((w.alloc (rgc f t)).alloc (.cells #[] 24)).alloc (.cells #[.slice (some ⟨w.heap.size + 1, 0, none⟩) 0 0] 26)) 4 (.bool true)
    simpa only [World.size_alloc] using this
  have oR : ((((w.alloc (rgc f t)).alloc (.cells #[] 24)).alloc (.cells #[.slice (some ⟨w.heap.size + 1, 0, none⟩) 0 0] 26)).alloc (.cells #[.bool true] 4)).ownsRow w.heap.size 24 2 (.slice (some ⟨w.heap.size + 1, 0, none⟩) 0 0) 0 [] := by
    have := World.ownsRow_made (w.alloc (rgc f t)) (base := w.heap.size) (e := 24) (size := 2) #[] 0 (by simp) (by simp [maxLen]) (by simp)
    rw [World.size_alloc] at this
    exact (this.alloc _).alloc _
  have Z0 := Lib.hid (show ((((w.alloc (rgc f t)).alloc (.cells #[] 24)).alloc (.cells #[.slice (some ⟨w.heap.size + 1, 0, none⟩) 0 0] 26)).alloc (.cells #[.bool true] 4)).heap.size = w.heap.size + 4 by simp)
  obtain ⟨V, hV⟩ : ∃ V, ((((w.alloc (rgc f t)).alloc (.cells #[] 24)).alloc (.cells #[.slice (some ⟨w.heap.size + 1, 0, none⟩) 0 0] 26)).alloc (.cells #[.bool true] 4)) = V := ⟨_, rfl⟩
  rw [hV] at B0 bO bK oR Z0 ⊢
  clear hV
  refine ⟨trivial, (callsIn_wide.2 (AL.out _ B0.out)).mono ?_⟩
  rintro e W0 ⟨B1, B2, B3, rfl, hIt, hb⟩
  have hsb := hb.size
  have z0 := Z0.out
  have hIt2 := Lib.hid hIt
  have bO1 : Boxed W0 (w.heap.size + 1 + 1) 26 _ := (hb.block _ bO.lt).trans bO
  have bK1 : Boxed W0 (w.heap.size + 1 + 1 + 1) 4 _ := (hb.block _ bK.lt).trans bK
  have oR1 := own_bel oR hb
  have BW := Lib.hid (B0.out.trans (hb.mono B0.out.size))
  clear hIt hb bO bK oR B0
  generalize hlo : V.heap.size = lo at hIt2 hsb Z0 z0 AL
  clear hlo Z0
  have hnil := run_isnil (.func 34) #[] #[.pointer (some ⟨B1, 0, none⟩), .pointer (some ⟨B2, 0, none⟩), .pointer (some ⟨B3, 0, none⟩)]
  unfold itv
  gi_wp2
  have hsw := BW.out.size
  refine wpIn_rangeFunc_ownH rfl (by decide) (gf := 34) (lb := #[.pointer (some ⟨B1, 0, none⟩), .pointer (some ⟨B2, 0, none⟩), .pointer (some ⟨B3, 0, none⟩)]) rfl trivial (enters_of Try.func34 (by kernel_rfl) rfl)
    (it_stops (by rw [HL.out]; exact hn) W0 hIt2.out) KpR.trans (kpR_b (Nat.le_refl _)) (Below.refl _ _) (fun _ => rfl)
    (SpI w lo W0.heap.size)
    (fun _ _ _ => False)
    (spI_own w lo W0.heap.size _ hsw)
    (fun _ _ _ _ _ hs _ _ => hs)
    ⟨⟨_, bO1, oR1, fun k e => by cases e; left; show w.heap.size + 1 < lo; omega⟩, bK1, BW.out, Nat.le_refl _⟩
    (fun x a' W => ∃ Bx, W0.heap.size ≤ Bx ∧ W.heap[Bx]? = some (rgc x.2.1 x.2.2) ∧ a' = { tmps := #[Value.slice A n c, Value.agg #[Value.string f, Value.string t], undef,
          Value.pointer (some ⟨w.heap.size, 0, none⟩), Value.slice none 0 0, Value.bool false,
          Value.pointer (some ⟨w.heap.size + 1 + 1, 0, none⟩),
          Value.pointer (some ⟨w.heap.size + 1 + 1 + 1, 0, none⟩),
          (Value.func (Fn.func 34) #[] #[Value.pointer (some ⟨B1, 0, none⟩), Value.pointer (some ⟨B2, 0, none⟩), Value.pointer (some ⟨B3, 0, none⟩)]), .int .i64 (x.1 : Int), .pointer (some ⟨Bx, 0, none⟩), Value.slice (some ⟨w.heap.size + 1, 0, none⟩) 0 0, Value.slice A n c,
          Value.agg #[Value.string f, Value.string t], (Value.func (Fn.func 34) #[] #[Value.pointer (some ⟨B1, 0, none⟩), Value.pointer (some ⟨B2, 0, none⟩), Value.pointer (some ⟨B3, 0, none⟩)]), (Value.func (Fn.func 34) #[] #[Value.pointer (some ⟨B1, 0, none⟩), Value.pointer (some ⟨B2, 0, none⟩), Value.pointer (some ⟨B3, 0, none⟩)]), Value.bool false, undef, (Value.func (Fn.func 34) #[] #[Value.pointer (some ⟨B1, 0, none⟩), Value.pointer (some ⟨B2, 0, none⟩), Value.pointer (some ⟨B3, 0, none⟩)]),
          .int .i64 (x.1 : Int), .agg #[.string x.2.1, .string x.2.2], undef, undef, undef, undef, undef, undef, undef, undef, undef, undef, undef, undef, undef], defers := [] })
    (fun x a' _ X Y row hs hg hr => by
      obtain ⟨Bx, h1, h2, h3⟩ := hs
      refine ⟨Bx, h1, (hg.block Bx (Array.getElem?_eq_some_iff.1 h2).1 (fun e => ?_)).trans h2, h3⟩
      obtain ⟨_, o, ho, hc⟩ := hr Bx e.symm
      rw [h2] at ho; cases ho; cases hc)
    ?assign ?body ?done ?stop
  case assign =>
    rintro l pre x W K hI hK
    gi_wp2
    exact hK _ _ ((KeepsOthers.alloc _ _).from _) (.of_below ((Below.refl _ W).alloc (Nat.le_refl _) _) hI.hs) ((spI_own w lo W0.heap.size W0.heap.size hsw).alloc _ hI) ⟨W.heap.size, hI.hs, World.alloc_heap_new W _, rfl⟩
  case body =>
    rintro l pre x a' W hl9 ⟨r, hr⟩ hI ⟨Bx, hBx, bX, rfl⟩ hlt
    obtain ⟨v, hv, hrow, hfar⟩ := hI.out
    obtain ⟨a0, c0, rfl⟩ := own_shape hrow
    have cO := hv.cell
    have cK := hI.ok.cell
    have fK := hI.ok.frozen
    have x0 : W.cell? ⟨Bx, 0, none⟩ = some (.string x.2.1) := by simp [World.cell?, bX]
    have x1 : W.cell? ⟨Bx, 1, none⟩ = some (.string x.2.2) := by simp [World.cell?, bX]
    have hmax : (1002 : Nat) ≤ maxLen := by decide
    have hWs := hI.bel.size
    have HI := Lib.hid hI
    have HV := Lib.hid hv
    have HR := Lib.hid hrow
    have HF := Lib.hid hfar
    have ne1 : ¬ (Bx = w.heap.size + 1 + 1 + 1) := by omega
    have okS := okL_snoc pre x
    clear hI hv hrow hfar bX hIt2 AL hnil
    have hx0 : (0 : Int) ≤ (x.1 : Int) := by omega
    cases hok : okL pre
    · rw [hok, Bool.false_and] at okS
      rw [hok] at cK
      have hv2 : Boxed (W.setCell ⟨w.heap.size + 1 + 1 + 1, 0, none⟩ (.bool false)) (w.heap.size + 1 + 1) 26 _ := HV.out.other (by omega) _
      have cO2 := hv2.cell
      have HR2 := Lib.hid (own_set HR.out (HI.out.ok.not_row (by decide) HR.out).symm (.bool false) (o := 0))
      clear hv2
      gi_wp2_with (gi_at_builtin; refine wpListIn_append_own_at _ rfl _ _ 26 rfl w.heap.size 24 i0 (.agg #[.string ⟨#[]⟩, .string ⟨#[]⟩]) 2 32 Try.underlying26 hi hz0 hz1 hz2 rfl (by decide) _ _ _ rfl (HR2.out.alloc _) ⟨W.heap.size, 0, none⟩ 1 1 [.string x.2.1, .string x.2.2] rfl rfl (two_new2 _ _ _ _ (by simp)) (by simp [Value.oneCell']) (by omega) (by omega) (by simp; omega) ?_; intro v' w1 hown' hgrow _ hat; obtain ⟨q1, q2, q3, q4⟩ := app_end z0 hsw HI.out okS HV.out HR.out HF.out hown' hgrow hat; have cO3 := q1.cell; have fO3 := q1.frozen; have Q2 := Lib.hid q2; have Q3 := Lib.hid q3; have Q4 := Lib.hid q4; obtain ⟨g', cap', rfl⟩ := ownsRow_succ hown'; clear q1 q2 q3 q4 hgrow hown' hat)
      exact ⟨Q2.out, Q3.out, Q4.out⟩
    · rw [hok, Bool.true_and] at okS
      rw [hok] at cK
      by_cases hx : x.1 = pre.length
      · have hxi : ((x.1 : Int) == (pre.length : Int)) = true := by rw [beq_iff_eq]; omega
        rw [beq_iff_eq.2 hx] at okS
        clear hx
        have hv2 : Boxed (W.setCell ⟨w.heap.size + 1 + 1 + 1, 0, none⟩ (.bool true)) (w.heap.size + 1 + 1) 26 _ := HV.out.other (by omega) _
        have cO2 := hv2.cell
        have HR2 := Lib.hid (own_set HR.out (HI.out.ok.not_row (by decide) HR.out).symm (.bool true) (o := 0))
        clear hv2
        gi_wp2_with (gi_at_builtin; refine wpListIn_append_own_at _ rfl _ _ 26 rfl w.heap.size 24 i0 (.agg #[.string ⟨#[]⟩, .string ⟨#[]⟩]) 2 32 Try.underlying26 hi hz0 hz1 hz2 rfl (by decide) _ _ _ rfl (HR2.out.alloc _) ⟨W.heap.size, 0, none⟩ 1 1 [.string x.2.1, .string x.2.2] rfl rfl (two_new2 _ _ _ _ (by simp)) (by simp [Value.oneCell']) (by omega) (by omega) (by simp; omega) ?_; intro v' w1 hown' hgrow _ hat; obtain ⟨q1, q2, q3, q4⟩ := app_end z0 hsw HI.out okS HV.out HR.out HF.out hown' hgrow hat; have cO3 := q1.cell; have fO3 := q1.frozen; have Q2 := Lib.hid q2; have Q3 := Lib.hid q3; have Q4 := Lib.hid q4; obtain ⟨g', cap', rfl⟩ := ownsRow_succ hown'; clear q1 q2 q3 q4 hgrow hown' hat)
        exact ⟨Q2.out, Q3.out, Q4.out⟩
      · have hxi : ((x.1 : Int) == (pre.length : Int)) = false := by rw [beq_eq_false_iff_ne]; omega
        rw [beq_eq_false_iff_ne.2 hx] at okS
        clear hx
        have hv2 : Boxed (W.setCell ⟨w.heap.size + 1 + 1 + 1, 0, none⟩ (.bool false)) (w.heap.size + 1 + 1) 26 _ := HV.out.other (by omega) _
        have cO2 := hv2.cell
        have HR2 := Lib.hid (own_set HR.out (HI.out.ok.not_row (by decide) HR.out).symm (.bool false) (o := 0))
        clear hv2
        gi_wp2_with (gi_at_builtin; refine wpListIn_append_own_at _ rfl _ _ 26 rfl w.heap.size 24 i0 (.agg #[.string ⟨#[]⟩, .string ⟨#[]⟩]) 2 32 Try.underlying26 hi hz0 hz1 hz2 rfl (by decide) _ _ _ rfl (HR2.out.alloc _) ⟨W.heap.size, 0, none⟩ 1 1 [.string x.2.1, .string x.2.2] rfl rfl (two_new2 _ _ _ _ (by simp)) (by simp [Value.oneCell']) (by omega) (by omega) (by simp; omega) ?_; intro v' w1 hown' hgrow _ hat; obtain ⟨q1, q2, q3, q4⟩ := app_end z0 hsw HI.out okS HV.out HR.out HF.out hown' hgrow hat; have cO3 := q1.cell; have fO3 := q1.frozen; have Q2 := Lib.hid q2; have Q3 := Lib.hid q3; have Q4 := Lib.hid q4; obtain ⟨g', cap', rfl⟩ := ownsRow_succ hown'; clear q1 q2 q3 q4 hgrow hown' hat)
        exact ⟨Q2.out, Q3.out, Q4.out⟩
  case done =>
    rintro D ys W hD rfl hI hK
    obtain ⟨v, hv, hrow, hfar⟩ := hI.out
    obtain ⟨a0, c0, rfl⟩ := own_shape hrow
    have cO := hv.cell
    have cK := hI.ok.cell
    rw [okL_upto] at cK
    have HI := Lib.hid hI
    have HR := Lib.hid hrow
    have HK := Lib.hid hK
    clear hI hv hrow hfar hIt2 AL hnil
    have hms : (upto p f t (many p f t)).length = (parts p f t).length := by rw [upto_length]; simp [parts]
    gi_wp2
    gi_region
    all_goals gi_wp2
    have hKd : W.drew.heap[D]? = some (.deferred (some [])) := HK.out
    refine ⟨by simp, .inl ⟨_, _, rfl, run_takeDeferred hKd, ?_⟩⟩
    refine ⟨.tuple #[.slice a0 (parts p f t).length c0, .bool true], by rw [← hms]; simp [results, Try.results8, go_sem], a0, c0, rfl, ?_, ?_⟩
    · have h1 : W.drew.ownsRow w.heap.size 24 2 (.slice a0 (upto p f t (many p f t)).length c0) (upto p f t (many p f t)).length (flt (ends (upto p f t (many p f t)))) := HR.out
      have h2 := ownsRow_putObj h1 (.deferred none) hKd rfl
      rw [ends_upto] at h2
      exact Rd.of_own h2 (by decide)
    · exact (bel_dw HI.out.bel).trans (belowK_b (w := w) (Nat.le_refl _) W.drew D _ _ (by omega) hKd rfl rfl)
  case stop =>
    rintro D c' pre W _ _ h _
    exact h.elim
end Go.Proofs.Ytngldfheneegcaa
