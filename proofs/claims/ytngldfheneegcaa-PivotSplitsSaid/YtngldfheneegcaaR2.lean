/- Pivots: all parts in a row, and the row's room. -/
import Derived.Test.YtngldfheneegcaaR1
namespace Go.Proofs.Ytngldfheneegcaa
set_option linter.unusedSimpArgs false
open Go.RowKit Go.Shelf
set_option linter.unusedVariables false
attribute [local go_sem] Oper.semAt_some

def SpansPostC (w : World) (ps : List (ByteArray × ByteArray)) (e : Ending) (w' : World) : Prop := ∃ A c, e = .returned (.tuple #[.slice A ps.length c, .bool true]) ∧ RdP w' A ps ∧ Below w.heap.size w w' ∧ (ps.length ≤ c ∧ c ≤ maxLen)
set_option maxRecDepth 100000 in
set_option maxHeartbeats 4000000 in
theorem spans_capIn (A : Option Addr) (p : List ByteArray) (n c : Nat) (f t : ByteArray) (w : World) (hl : p.length = n) (hn : n ≤ 1000) (hr : RdS w A p) :
    CallsIn Fence.wide 4 Try.prog 8 #[.slice A n c, .agg #[.string f, .string t]] w (SpansPostC w (parts p f t)) := by
  have AL := Lib.hid (fun W (hb : Below w.heap.size w W) => all_any A p n c f t W hl hn (Rd.later hr hb))
  have HL := Lib.hid hl
  have hm := many_le p f t
  have hm9 : many p f t ≤ 1001 := by omega
  obtain ⟨i0, hi, hz0, hz1, hz2⟩ := info_parts info24
  clear hr hl
  refine callsIn_of_wp_marks Try.func8 rfl trivial ?_ rfl
  simp only [Try.ntmps8, List.size_toArray, List.length_cons, List.length_nil, Nat.reduceAdd, Nat.reduceSub, Array.replicate_succ, Array.replicate_zero, List.push_toArray, List.append_toArray, List.nil_append, List.cons_append]
  gi_wp2_with fail
  have B0 := Lib.hid (show Below w.heap.size w ((((w.alloc (rgc f t)).alloc (.cells #[] 24)).alloc (.cells #[.slice (some ⟨w.heap.size + 1, 0, none⟩) 0 0] 26)).alloc (.cells #[.bool true] 4)) by go_grown)
  have bO : Boxed ((((w.alloc (rgc f t)).alloc (.cells #[] 24)).alloc (.cells #[.slice (some ⟨w.heap.size + 1, 0, none⟩) 0 0] 26)).alloc (.cells #[.bool true] 4)) (w.heap.size + 1 + 1) 26 (.slice (some ⟨w.heap.size + 1, 0, none⟩) 0 0) := by
    have := (Boxed.new ((w.alloc (rgc f t)).alloc (.cells #[] 24)) 26 (.slice (some ⟨w.heap.size + 1, 0, none⟩) 0 0)).alloc (.cells #[.bool true] 4)
    simpa only [World.size_alloc] using this
  have bK : Boxed ((((w.alloc (rgc f t)).alloc (.cells #[] 24)).alloc (.cells #[.slice (some ⟨w.heap.size + 1, 0, none⟩) 0 0] 26)).alloc (.cells #[.bool true] 4)) (w.heap.size + 1 + 1 + 1) 4 (.bool true) := by
    have := Boxed.new (((w.alloc (rgc f t)).alloc (.cells #[] 24)).alloc (.cells #[.slice (some ⟨w.heap.size + 1, 0, none⟩) 0 0] 26)) 4 (.bool true)
    simpa only [World.size_alloc] using this
  have oR : ((((w.alloc (rgc f t)).alloc (.cells #[] 24)).alloc (.cells #[.slice (some ⟨w.heap.size + 1, 0, none⟩) 0 0] 26)).alloc (.cells #[.bool true] 4)).ownsRow w.heap.size 24 2 (.slice (some ⟨w.heap.size + 1, 0, none⟩) 0 0) 0 [] := by
    have := World.ownsRow_made (w.alloc (rgc f t)) (base := w.heap.size) (e := 24) (size := 2) #[] 0 (by simp) (by simp [maxLen]) (by simp)
    rw [World.size_alloc] at this
    exact (this.alloc _).alloc _
  have Z0 := Lib.hid (show ((((w.alloc (rgc f t)).alloc (.cells #[] 24)).alloc (.cells #[.slice (some ⟨w.heap.size + 1, 0, none⟩) 0 0] 26)).alloc (.cells #[.bool true] 4)).heap.size = w.heap.size + 4 by simp)
  obtain ⟨V, hV⟩ : ∃ V, ((((w.alloc (rgc f t)).alloc (.cells #[] 24)).alloc (.cells #[.slice (some ⟨w.heap.size + 1, 0, none⟩) 0 0] 26)).alloc (.cells #[.bool true] 4)) = V := ⟨_, rfl⟩
  rw [hV] at B0 bO bK oR Z0 ⊢
  clear hV
  refine ⟨trivial, (callsIn_wide.2 (AL.out _ B0.out)).mono ?_⟩
  rintro e W0 ⟨B1, B2, B3, rfl, hIt, hb⟩
  have hsb := hb.size
  have z0 := Z0.out
  have hIt2 := Lib.hid hIt
  have bO1 : Boxed W0 (w.heap.size + 1 + 1) 26 _ := (hb.block _ bO.lt).trans bO
  have bK1 : Boxed W0 (w.heap.size + 1 + 1 + 1) 4 _ := (hb.block _ bK.lt).trans bK
  have oR1 := own_bel oR hb
  have BW := Lib.hid (B0.out.trans (hb.mono B0.out.size))
  clear hIt hb bO bK oR B0
  generalize hlo : V.heap.size = lo at hIt2 hsb Z0 z0 AL
  clear hlo Z0
  have hnil := run_isnil (.func 34) #[] #[.pointer (some ⟨B1, 0, none⟩), .pointer (some ⟨B2, 0, none⟩), .pointer (some ⟨B3, 0, none⟩)]
  unfold itv
  gi_wp2
  have hsw := BW.out.size
  refine wpIn_rangeFunc_ownH rfl (by decide) (gf := 34) (lb := #[.pointer (some ⟨B1, 0, none⟩), .pointer (some ⟨B2, 0, none⟩), .pointer (some ⟨B3, 0, none⟩)]) rfl trivial (enters_of Try.func34 (by kernel_rfl) rfl)
    (it_stops (by rw [HL.out]; exact hn) W0 hIt2.out) KpR.trans (kpR_b (Nat.le_refl _)) (Below.refl _ _) (fun _ => rfl)
    (SpI w lo W0.heap.size)
    (fun _ _ _ => False)
    (spI_own w lo W0.heap.size _ hsw)
    (fun _ _ _ _ _ hs _ _ => hs)
    ⟨⟨_, bO1, oR1, fun k e => by cases e; left; show w.heap.size + 1 < lo; omega⟩, bK1, BW.out, Nat.le_refl _⟩
    (fun x a' W => ∃ Bx, W0.heap.size ≤ Bx ∧ W.heap[Bx]? = some (rgc x.2.1 x.2.2) ∧ a' = { tmps := #[Value.slice A n c, Value.agg #[Value.string f, Value.string t], undef,
          Value.pointer (some ⟨w.heap.size, 0, none⟩), Value.slice none 0 0, Value.bool false,
          Value.pointer (some ⟨w.heap.size + 1 + 1, 0, none⟩),
          Value.pointer (some ⟨w.heap.size + 1 + 1 + 1, 0, none⟩),
          (Value.func (Fn.func 34) #[] #[Value.pointer (some ⟨B1, 0, none⟩), Value.pointer (some ⟨B2, 0, none⟩), Value.pointer (some ⟨B3, 0, none⟩)]), .int .i64 (x.1 : Int), .pointer (some ⟨Bx, 0, none⟩), Value.slice (some ⟨w.heap.size + 1, 0, none⟩) 0 0, Value.slice A n c,
          Value.agg #[Value.string f, Value.string t], (Value.func (Fn.func 34) #[] #[Value.pointer (some ⟨B1, 0, none⟩), Value.pointer (some ⟨B2, 0, none⟩), Value.pointer (some ⟨B3, 0, none⟩)]), (Value.func (Fn.func 34) #[] #[Value.pointer (some ⟨B1, 0, none⟩), Value.pointer (some ⟨B2, 0, none⟩), Value.pointer (some ⟨B3, 0, none⟩)]), Value.bool false, undef, (Value.func (Fn.func 34) #[] #[Value.pointer (some ⟨B1, 0, none⟩), Value.pointer (some ⟨B2, 0, none⟩), Value.pointer (some ⟨B3, 0, none⟩)]),
          .int .i64 (x.1 : Int), .agg #[.string x.2.1, .string x.2.2], undef, undef, undef, undef, undef, undef, undef, undef, undef, undef, undef, undef, undef], defers := [] })
    (fun x a' _ X Y row hs hg hr => by
      obtain ⟨Bx, h1, h2, h3⟩ := hs
      refine ⟨Bx, h1, (hg.block Bx (Array.getElem?_eq_some_iff.1 h2).1 (fun e => ?_)).trans h2, h3⟩
      obtain ⟨_, o, ho, hc⟩ := hr Bx e.symm
      rw [h2] at ho; cases ho; cases hc)
    ?assign ?body ?done ?stop
  case assign =>
    rintro l pre x W K hI hK
    gi_wp2
    exact hK _ _ ((KeepsOthers.alloc _ _).from _) (.of_below ((Below.refl _ W).alloc (Nat.le_refl _) _) hI.hs) ((spI_own w lo W0.heap.size W0.heap.size hsw).alloc _ hI) ⟨W.heap.size, hI.hs, World.alloc_heap_new W _, rfl⟩
  case body =>
    rintro l pre x a' W hl9 ⟨r, hr⟩ hI ⟨Bx, hBx, bX, rfl⟩ hlt
    obtain ⟨v, hv, hrow, hfar⟩ := hI.out
    obtain ⟨a0, c0, rfl⟩ := own_shape hrow
    have cO := hv.cell
    have cK := hI.ok.cell
    have fK := hI.ok.frozen
    have x0 : W.cell? ⟨Bx, 0, none⟩ = some (.string x.2.1) := by simp [World.cell?, bX]
    have x1 : W.cell? ⟨Bx, 1, none⟩ = some (.string x.2.2) := by simp [World.cell?, bX]
    have hmax : (1002 : Nat) ≤ maxLen := by decide
    have hWs := hI.bel.size
    have HI := Lib.hid hI
    have HV := Lib.hid hv
    have HR := Lib.hid hrow
    have HF := Lib.hid hfar
    have ne1 : ¬ (Bx = w.heap.size + 1 + 1 + 1) := by omega
    have okS := okL_snoc pre x
    clear hI hv hrow hfar bX hIt2 AL hnil
    have hx0 : (0 : Int) ≤ (x.1 : Int) := by omega
    cases hok : okL pre
    · rw [hok, Bool.false_and] at okS
      rw [hok] at cK
      have hv2 : Boxed (W.setCell ⟨w.heap.size + 1 + 1 + 1, 0, none⟩ (.bool false)) (w.heap.size + 1 + 1) 26 _ := HV.out.other (by omega) _
      have cO2 := hv2.cell
      have HR2 := Lib.hid (own_set HR.out (HI.out.ok.not_row (by decide) HR.out).symm (.bool false) (o := 0))
      clear hv2
      gi_wp2_with (gi_at_builtin; refine wpListIn_append_own_at _ rfl _ _ 26 rfl w.heap.size 24 i0 (.agg #[.string ⟨#[]⟩, .string ⟨#[]⟩]) 2 32 Try.underlying26 hi hz0 hz1 hz2 rfl (by decide) _ _ _ rfl (HR2.out.alloc _) ⟨W.heap.size, 0, none⟩ 1 1 [.string x.2.1, .string x.2.2] rfl rfl (two_new2 _ _ _ _ (by simp)) (by simp [Value.oneCell']) (by omega) (by omega) (by simp; omega) ?_; intro v' w1 hown' hgrow _ hat; obtain ⟨q1, q2, q3, q4⟩ := app_end z0 hsw HI.out okS HV.out HR.out HF.out hown' hgrow hat; have cO3 := q1.cell; have fO3 := q1.frozen; have Q2 := Lib.hid q2; have Q3 := Lib.hid q3; have Q4 := Lib.hid q4; obtain ⟨g', cap', rfl⟩ := ownsRow_succ hown'; clear q1 q2 q3 q4 hgrow hown' hat)
      exact ⟨Q2.out, Q3.out, Q4.out⟩
    · rw [hok, Bool.true_and] at okS
      rw [hok] at cK
      by_cases hx : x.1 = pre.length
      · have hxi : ((x.1 : Int) == (pre.length : Int)) = true := by rw [beq_iff_eq]; omega
        rw [beq_iff_eq.2 hx] at okS
        clear hx
        have hv2 : Boxed (W.setCell ⟨w.heap.size + 1 + 1 + 1, 0, none⟩ (.bool true)) (w.heap.size + 1 + 1) 26 _ := HV.out.other (by omega) _
        have cO2 := hv2.cell
        have HR2 := Lib.hid (own_set HR.out (HI.out.ok.not_row (by decide) HR.out).symm (.bool true) (o := 0))
        clear hv2
        gi_wp2_with (gi_at_builtin; refine wpListIn_append_own_at _ rfl _ _ 26 rfl w.heap.size 24 i0 (.agg #[.string ⟨#[]⟩, .string ⟨#[]⟩]) 2 32 Try.underlying26 hi hz0 hz1 hz2 rfl (by decide) _ _ _ rfl (HR2.out.alloc _) ⟨W.heap.size, 0, none⟩ 1 1 [.string x.2.1, .string x.2.2] rfl rfl (two_new2 _ _ _ _ (by simp)) (by simp [Value.oneCell']) (by omega) (by omega) (by simp; omega) ?_; intro v' w1 hown' hgrow _ hat; obtain ⟨q1, q2, q3, q4⟩ := app_end z0 hsw HI.out okS HV.out HR.out HF.out hown' hgrow hat; have cO3 := q1.cell; have fO3 := q1.frozen; have Q2 := Lib.hid q2; have Q3 := Lib.hid q3; have Q4 := Lib.hid q4; obtain ⟨g', cap', rfl⟩ := ownsRow_succ hown'; clear q1 q2 q3 q4 hgrow hown' hat)
        exact ⟨Q2.out, Q3.out, Q4.out⟩
      · have hxi : ((x.1 : Int) == (pre.length : Int)) = false := by rw [beq_eq_false_iff_ne]; omega
        rw [beq_eq_false_iff_ne.2 hx] at okS
        clear hx
        have hv2 : Boxed (W.setCell ⟨w.heap.size + 1 + 1 + 1, 0, none⟩ (.bool false)) (w.heap.size + 1 + 1) 26 _ := HV.out.other (by omega) _
        have cO2 := hv2.cell
        have HR2 := Lib.hid (own_set HR.out (HI.out.ok.not_row (by decide) HR.out).symm (.bool false) (o := 0))
        clear hv2
        gi_wp2_with (gi_at_builtin; refine wpListIn_append_own_at _ rfl _ _ 26 rfl w.heap.size 24 i0 (.agg #[.string ⟨#[]⟩, .string ⟨#[]⟩]) 2 32 Try.underlying26 hi hz0 hz1 hz2 rfl (by decide) _ _ _ rfl (HR2.out.alloc _) ⟨W.heap.size, 0, none⟩ 1 1 [.string x.2.1, .string x.2.2] rfl rfl (two_new2 _ _ _ _ (by simp)) (by simp [Value.oneCell']) (by omega) (by omega) (by simp; omega) ?_; intro v' w1 hown' hgrow _ hat; obtain ⟨q1, q2, q3, q4⟩ := app_end z0 hsw HI.out okS HV.out HR.out HF.out hown' hgrow hat; have cO3 := q1.cell; have fO3 := q1.frozen; have Q2 := Lib.hid q2; have Q3 := Lib.hid q3; have Q4 := Lib.hid q4; obtain ⟨g', cap', rfl⟩ := ownsRow_succ hown'; clear q1 q2 q3 q4 hgrow hown' hat)
        exact ⟨Q2.out, Q3.out, Q4.out⟩
  case done =>
    rintro D ys W hD rfl hI hK
    obtain ⟨v, hv, hrow, hfar⟩ := hI.out
    obtain ⟨a0, c0, rfl⟩ := own_shape hrow
    have cO := hv.cell
    have cK := hI.ok.cell
    rw [okL_upto] at cK
    have HI := Lib.hid hI
    have HR := Lib.hid hrow
    have HK := Lib.hid hK
    clear hI hv hrow hfar hIt2 AL hnil
    have hms : (upto p f t (many p f t)).length = (parts p f t).length := by rw [upto_length]; simp [parts]
    gi_wp2
    gi_region
    all_goals gi_wp2
    have hKd : W.drew.heap[D]? = some (.deferred (some [])) := HK.out
    refine ⟨by simp, .inl ⟨_, _, rfl, run_takeDeferred hKd, ?_⟩⟩
    refine ⟨.tuple #[.slice a0 (parts p f t).length c0, .bool true], by rw [← hms]; simp [results, Try.results8, go_sem], a0, c0, rfl, ?_, ?_, by rw [← hms]; exact own_le HR.out⟩
    · have h1 : W.drew.ownsRow w.heap.size 24 2 (.slice a0 (upto p f t (many p f t)).length c0) (upto p f t (many p f t)).length (flt (ends (upto p f t (many p f t)))) := HR.out
      have h2 := ownsRow_putObj h1 (.deferred none) hKd rfl
      rw [ends_upto] at h2
      exact Rd.of_own h2 (by decide)
    · exact (bel_dw HI.out.bel).trans (belowK_b (w := w) (Nat.le_refl _) W.drew D _ _ (by omega) hKd rfl rfl)
  case stop =>
    rintro D c' pre W _ _ h _
    exact h.elim
theorem spans_cap (A : Option Addr) (p : List ByteArray) (n c : Nat) (f t : ByteArray) (w : World) (hl : p.length = n) (hn : n ≤ 1000) (hr : RdS w A p) :
    Calls Try.prog 8 #[.slice A n c, .agg #[.string f, .string t]] w (SpansPostC w (parts p f t)) := callsIn_wide.1 (spans_capIn A p n c f t w hl hn hr)
theorem rdp_take {w : World} {A : Option Addr} {ps : List PP} (h : RdP w A ps) (k : Nat) : RdP w A (ps.take k) := by
  have e : flt ps = flt (ps.take k) ++ flt (ps.drop k) := by unfold flt; rw [← List.flatMap_append, List.take_append_drop]
  rcases h with h | ⟨b, off, e1, hlt, hc⟩
  · left; rw [e] at h; exact (List.append_eq_nil_iff.1 h).1
  · refine .inr ⟨b, off, e1, hlt, fun j u hj => hc j u ?_⟩
    rw [e, List.getElem?_append_left (List.getElem?_eq_some_iff.1 hj).1]
    exact hj
theorem flt_length (ps : List PP) : (flt ps).length = ps.length * 2 := by
  induction ps with
  | nil => rfl
  | cons x xs ih => simp [flt] at ih ⊢; omega
theorem rdp_dropE {w : World} {A : Option Addr} {ps : List PP} (h : RdP w A ps) (i c : Nat) (hc : ps.length ≤ c) : RdP w (if c = i then A else Option.map (fun x => (⟨x.block, x.off + i * 2, none⟩ : Addr)) A) (ps.drop i) := by
  by_cases e : c = i
  · subst e
    exact .inl (by rw [List.drop_eq_nil_of_le hc]; rfl)
  · rw [if_neg e]
    by_cases hi : ps.length ≤ i
    · exact .inl (by rw [List.drop_eq_nil_of_le hi]; rfl)
    have e2 : flt ps = flt (ps.take i) ++ flt (ps.drop i) := by unfold flt; rw [← List.flatMap_append, List.take_append_drop]
    have hl : (flt (ps.take i)).length = i * 2 := by rw [flt_length, List.length_take, Nat.min_eq_left (by omega)]
    rcases h with h | ⟨b, off, rfl, hlt, hcell⟩
    · left; rw [e2] at h; exact (List.append_eq_nil_iff.1 h).2
    · refine .inr ⟨b, off + i * 2, rfl, hlt, fun j u hj => ?_⟩
      rw [Nat.add_assoc]
      refine hcell _ _ ?_
      rw [e2, List.getElem?_append_right (by omega), hl, Nat.add_sub_cancel_left]
      exact hj
set_option maxHeartbeats 2000000 in
theorem put_no (A : Option Addr) (p : List ByteArray) (n c i : Nat) (s : ByteArray) (w : World) (hl : p.length = n) (hn : n ≤ 900) (hc : n ≤ c) (hm : c ≤ 9223372036854775807) (hi : i ≤ n) (hA : A = none → n = 0) (hr : RdS w A p) (h : risesB (ins p i s) = false) :
    Calls Try.prog 19 #[.slice A n c, .int .i64 i, .string s] w fun e w' => e = .returned (.tuple #[.slice none 0 0, .bool false]) ∧ Below w.heap.size w w' := by
  have i0 : (0 : Int) ≤ (i : Int) := by omega
  have i1 : (i : Int) ≤ (n : Int) := by omega
  have i2 : (i : Int) ≤ (c : Int) := by omega
  have i3 : (n : Int) ≤ (c : Int) := by omega
  have i4 : i ≤ c := by omega
  have i5 : (c : Int) ≤ 9223372036854775807 := by omega
  have HI := Lib.hid h
  have HR := Lib.hid hr
  have HL := Lib.hid hl
  have HA := Lib.hid (show A = none → i = 0 from fun e => by have := hA e; omega)
  have XB : Hid (Below w.heap.size w (w.alloc (.cells #[.string s] 9)).drew) := Lib.hid (bel_dw (bel_alloc (Below.refl _ _) _))
  have R1 := Lib.hid (rd_take (Rd.later hr XB.out) i)
  have R2 := Lib.hid (fun W (hb : Below w.heap.size w W) => rds_drop (Rd.later hr hb) i c (by omega))
  have L1 : Hid ((p.take i).length = i) := Lib.hid (by simp; omega)
  have L2 : Hid ((p.drop i).length = n - i) := Lib.hid (by simp; omega)
  have C1 : Hid ((w.alloc (.cells #[.string s] 9)).drew.cell? ((⟨w.heap.size, 0, none⟩ : Addr).add 0) = some (.string s)) := Lib.hid (by simp [Addr.add, go_sem])
  have E1 : Hid (((p.take i).map Value.string ++ [Value.string s]) ++ (p.drop i).map Value.string = (ins p i s).map Value.string) := Lib.hid (by simp [ins])
  have N1 := Lib.hid (ins_length s (show i ≤ p.length by omega))
  clear hr hl h hA
  go_enter Try.func19, Try.ntmps19
  go_wp2_with fail
  go_region_law (first
    | (refine step_fullS _ rfl (.tmp 19) (.tmp 21) rfl A i (p.take i) ⟨w.heap.size, 0, none⟩ s (by simp [Act.eval, Act.put]) (by simp [Act.eval, Act.put]) L1.out (by omega) HA.out R1.out C1.out ?_; intro v2 w2 o2 g2; have O2 := Lib.hid o2; have B2 := Lib.hid (XB.out.grown g2 XB.out.size (fun k e => by cases e)); have Z2 := Lib.hid g2.size; clear o2 g2)
    | (refine step_putS _ rfl (.tmp 22) (.tmp 25) rfl (v := v2) (if c = i then A else Option.map (fun x => x.add i) A) (n - i) (c - i) (p.drop i) (by simp [Act.eval, Act.put]) (by simp [Act.eval, Act.put]) O2.out (by omega) Z2.out L2.out (by omega) (R2.out _ B2.out) ?_; intro v3 w3 o3 g3; have B3 := Lib.hid (B2.out.grown g3 B2.out.size (fun k e => by have := (O2.out.lt k e).1; simp at this; omega)); obtain ⟨a3, c3, rfl⟩ := own_shape o3; have RD3 : Hid (RdS w3 a3 (ins p i s)) := Lib.hid (by have h := Rd.of_own o3 (by decide); rw [E1.out] at h; exact h); clear o3 g3)
    | (go_simp; go_at_call 32; ((with_reducible refine (risen_no a3 (ins p i s) (i + 1 + (n - i)) c3 w3 (by rw [N1.out, HL.out]; omega) (by omega) RD3.out HI.out).mono ?_); rintro e w4 ⟨rfl, b4⟩; have RD4 := Lib.hid (Rd.later RD3.out b4); have B4 := Lib.hid (B3.out.trans (b4.mono B3.out.size)); clear b4))
    | fail)
  all_goals go_wp2
  all_goals exact bodyPost_ret (v := .tuple #[.slice none 0 0, .bool false]) (by simp [results, Try.results19, go_sem]) rfl ⟨rfl, B4.out⟩
end Go.Proofs.Ytngldfheneegcaa
