/- The law OrderStops: its walk. -/
import Derived.Test.YtfgohbhacldlmaaS4
namespace Go.Proofs.Ytfgohbhacldlmaa
set_option linter.unusedSimpArgs false
open Go.RowKit Go.Shelf
set_option linter.unusedVariables false
attribute [local go_sem] Oper.semAt_some

theorem Deeds.later {w w' : World} {A : Option Addr} {n : Nat} {f : Nat → DD} (h : Deeds w A n f) (hb : Below w.heap.size w w') : Deeds w' A n f := by
  rcases h with h | ⟨b, off, e, hlt, h⟩
  · exact .inl h
  · exact .inr ⟨b, off, e, Nat.lt_of_lt_of_le hlt hb.size, fun i hi => ⟨(bel_cell hb hlt).trans (h i hi).1, (bel_cell hb hlt).trans (h i hi).2.1, (bel_cell hb hlt).trans (h i hi).2.2.1, (bel_cell hb hlt).trans (h i hi).2.2.2⟩⟩
/-- What lies between two rounds: n's box, the result's, the row's, seen's. -/
structure StI (w : World) (Bx Bs : Nat) (nn : Int) (L : PL) (Ax : Option Addr) (cx : Nat) (pre : PL) (W : World) : Prop where
  n : Boxed W w.heap.size 5 (.int .u8 nn)
  res : Boxed W (w.heap.size + 1) 4 (.bool false)
  x : Boxed W Bx 25 (.slice Ax L.length cx)
  seen : Boxed W Bs 3 (.int .i64 (pre.length : Int))
  row : RdP W Ax L
  p : pre <+: L
  le : (pre.length : Int) ≤ nn
  b : Below w.heap.size w W
theorem stI_own {w : World} {Bx Bs : Nat} {nn : Int} {L : PL} {Ax : Option Addr} {cx B : Nat} (hB : w.heap.size ≤ B) : OwnFrom B (StI w Bx Bs nn L Ax cx) := by
  intro s X Y row hs hg hr
  refine ⟨?_, ?_, ?_, ?_, ?_, hs.p, hs.le, ?_⟩
  · exact (Own.from (boxed_own w.heap.size 5 (fun _ : PL => Value.int .u8 nn)) B) s X Y row hs.n hg hr
  · exact (Own.from (boxed_own (w.heap.size + 1) 4 (fun _ : PL => Value.bool false)) B) s X Y row hs.res hg hr
  · exact (Own.from (boxed_own Bx 25 (fun _ : PL => Value.slice Ax L.length cx)) B) s X Y row hs.x hg hr
  · exact (Own.from (boxed_own Bs 3 (fun pre : PL => Value.int .i64 (pre.length : Int))) B) s X Y row hs.seen hg hr
  · rcases hs.row with h | ⟨b, off, e, hlt, hc⟩
    · exact .inl h
    · exact .inr ⟨b, off, e, Nat.lt_of_lt_of_le hlt hg.size, fun j u hj => cell_kept (hc j u hj) hg (fun r e => (hr r e).2)⟩
  · exact (ownFrom_below (β := PL) (Nat.le_refl _) hB) s X Y row hs.b hg hr
/-- How the loop is left: as many were seen as were asked for; or (never) a pair was another one. -/
def StX (w : World) (Bx Bs : Nat) (nn : Int) (L : PL) (Ax : Option Addr) (cx : Nat) (c : Code) (pre : PL) (W : World) : Prop :=
  (c = .exit 0 ∧ ∃ q x, pre = q ++ [x] ∧ (q.length : Int) = nn ∧ StI w Bx Bs nn L Ax cx q W) ∨ (c = .ret ∧ ¬ pre <+: L)
theorem stX_own {w : World} {Bx Bs : Nat} {nn : Int} {L : PL} {Ax : Option Addr} {cx B : Nat} (hB : w.heap.size ≤ B) (c : Code) : OwnFrom B (StX w Bx Bs nn L Ax cx c) := by
  intro s X Y row hs hg hr
  rcases hs with ⟨h1, q, x, h2, h3, h4⟩ | h
  · exact .inl ⟨h1, q, x, h2, h3, stI_own hB q X Y row h4 hg hr⟩
  · exact .inr h
def sX (w w2 : World) (k : Nat) : Prop := k = w.heap.size + 1 ∨ k = w2.heap.size + 1
theorem pre_not {L pre : PL} {x : ByteArray × Int} (h : (pre ++ [x]) <+: L) : L[pre.length]? = some x := by
  obtain ⟨r, rfl⟩ := h
  simp
theorem pre_next {L pre : PL} {x : ByteArray × Int} (h : pre <+: L) (hx : L[pre.length]? = some x) : (pre ++ [x]) <+: L := by
  obtain ⟨r, rfl⟩ := h
  cases r with
  | nil => simp at hx
  | cons y r => simp at hx; subst hx; exact ⟨r, by simp⟩
theorem StI.step {w W : World} {Bx Bs : Nat} {nn : Int} {L : PL} {Ax : Option Addr} {cx : Nat} {pre : PL} {x : ByteArray × Int} (h : StI w Bx Bs nn L Ax cx pre W) (hb : w.heap.size + 1 < Bx) (hbs : Bx < Bs) (hp : (pre ++ [x]) <+: L) (hle : (pre.length : Int) + 1 ≤ nn) : StI w Bx Bs nn L Ax cx (pre ++ [x]) (W.setCell ⟨Bs, 0, none⟩ (.int .i64 ((pre.length : Int) + 1))) := by
  have hg := grownBy_setCell' W Bs (.int .i64 ((pre.length : Int) + 1))
  refine ⟨h.n.other (by omega) _, h.res.other (by omega) _, h.x.other (by omega) _, ?_, ?_, hp, by simp; omega, h.b.setCell (p := ⟨Bs, 0, none⟩) (by simp; omega) _⟩
  · have := h.seen.set (.int .i64 ((pre.length : Int) + 1))
    simpa using this
  · rcases h.row with hr | ⟨b, off, e, hlt, hc⟩
    · exact .inl hr
    · cases L with
      | nil => exact .inl rfl
      | cons y L =>
        have c0 := hc 0 _ rfl
        have hne : some Bs ≠ some b := by
          intro e; cases e
          simp only [World.cell?, show W.heap[Bs]? = _ from h.seen] at c0
          cases off with
          | zero => simp at c0
          | succ o => simp at c0
        exact .inr ⟨b, off, e, Nat.lt_of_lt_of_le hlt hg.size, fun j u hj => (grown_far hg hlt hne).trans (hc j u hj)⟩
set_option maxRecDepth 100000 in
set_option maxHeartbeats 4000000 in
theorem stops_in (A : Option Addr) (n c : Nat) (f : Nat → DD) (at0 : ByteArray) (nn : Int) (h0 : 0 ≤ nn) (h1 : nn ≤ 255) (w : World) (hd : Deeds w A n f) :
    CallsIn Fence.wide 4 Try.prog 6 #[.slice A n c, .string at0, .int .u8 nn] w fun e w' => e = .returned (.bool true) ∧ Below w.heap.size w w' := by
  have HD := Lib.hid hd
  clear hd
  refine callsIn_of_wp_marks Try.func6 rfl trivial ?_ rfl
  simp only [Try.ntmps6, List.size_toArray, List.length_cons, List.length_nil, Nat.reduceAdd, Nat.reduceSub, Array.replicate_succ, Array.replicate_zero, List.push_toArray, List.append_toArray, List.nil_append, List.cons_append]
  gi_wp2_with fail
  have bN : Boxed ((w.alloc (.cells #[.int .u8 nn] 5)).alloc (.cells #[.bool false] 4)) w.heap.size 5 (.int .u8 nn) := (Boxed.new w 5 (.int .u8 nn)).alloc _
  have bR : Boxed ((w.alloc (.cells #[.int .u8 nn] 5)).alloc (.cells #[.bool false] 4)) (w.heap.size + 1) 4 (.bool false) := by
    have := Boxed.new (w.alloc (.cells #[.int .u8 nn] 5)) 4 (.bool false)
    simpa only [World.size_alloc] using this
  have b0 : Below w.heap.size w ((w.alloc (.cells #[.int .u8 nn] 5)).alloc (.cells #[.bool false] 4)) := by go_grown
  have z0 : ((w.alloc (.cells #[.int .u8 nn] 5)).alloc (.cells #[.bool false] 4)).heap.size = w.heap.size + 2 := by simp
  generalize ((w.alloc (.cells #[.int .u8 nn] 5)).alloc (.cells #[.bool false] 4)) = V at *
  have PD := Lib.hid (played_any A n c f V (HD.out.later b0))
  have Z0 := Lib.hid z0
  have BN := Lib.hid bN
  have BR := Lib.hid bR
  have B0 := Lib.hid b0
  clear z0 bN bR b0
  refine ⟨trivial, (callsIn_wide.2 PD.out).mono ?_⟩
  rintro e w1 ⟨rfl, ⟨L, m1, s1, l1⟩, b1⟩
  have M1 := Lib.hid m1
  have S1 := Lib.hid s1
  have L1 := Lib.hid l1
  have B1 := Lib.hid b1
  have FR := Lib.hid (from_row V.heap.size L at0 w1 m1 s1 (by omega))
  clear PD m1 s1 l1 b1
  gi_wp2_with (refine ⟨trivial, ?_⟩; gi_at_call 19; refine (callsIn_wide.2 FR.out).mono ?_; clear FR; rintro e w2 ⟨Ax, cx, rfl, r2, b2, _⟩; have R2 := Lib.hid r2; have B2 := Lib.hid b2; clear r2 b2)
  have z0 := Z0.out
  have bN := BN.out
  have bR := BR.out
  have b0 := B0.out
  obtain ⟨LL, hLL⟩ : ∃ LL, LL = fromL at0 L := ⟨_, rfl⟩
  have SF := Lib.hid (fun W (hW : Below w1.heap.size w1 W) => from_any V.heap.size L at0 W (M1.out.later hW) S1.out (by have := L1.out; omega))
  have hLn : LL.length ≤ 80 := by rw [hLL, ← from_eq S1.out]; exact Nat.le_trans (List.length_filter_le _ _) L1.out
  rw [← hLL] at R2 SF ⊢
  clear hLL M1 S1 L1
  have B02 := Lib.hid (bel_trans b0 (bel_trans B1.out B2.out))
  have z2 : w.heap.size + 2 ≤ w2.heap.size := by have h1 := B1.out.size; have h2 := B2.out.size; omega
  have bN2 := Lib.hid (boxed_later (boxed_later bN B1.out) B2.out)
  have bR2 := Lib.hid (boxed_later (boxed_later bR B1.out) B2.out)
  clear bN bR b0 z0 HD Z0 BN BR B0
  have hA1 : Below w2.heap.size w2 ((w2.alloc (.cells #[.slice Ax LL.length cx] 25)).alloc (.cells #[.int .i64 0] 3)) := bel_alloc (bel_alloc (Below.refl _ _) _) _
  have bX3 : Boxed ((w2.alloc (.cells #[.slice Ax LL.length cx] 25)).alloc (.cells #[.int .i64 0] 3)) w2.heap.size 25 (.slice Ax LL.length cx) := (Boxed.new w2 25 (.slice Ax LL.length cx)).alloc _
  have bS3 : Boxed ((w2.alloc (.cells #[.slice Ax LL.length cx] 25)).alloc (.cells #[.int .i64 0] 3)) (w2.heap.size + 1) 3 (.int .i64 0) := by
    have := Boxed.new (w2.alloc (.cells #[.slice Ax LL.length cx] 25)) 3 (.int .i64 0)
    simpa only [World.size_alloc] using this
  have z3 : ((w2.alloc (.cells #[.slice Ax LL.length cx] 25)).alloc (.cells #[.int .i64 0] 3)).heap.size = w2.heap.size + 2 := by simp
  have bN3 := boxed_later bN2.out hA1
  have bR3 := boxed_later bR2.out hA1
  have r3 := Rd.later R2.out hA1
  have b3 := bel_trans B02.out hA1
  have SQ3 := SF.out _ (bel_trans B2.out hA1)
  generalize ((w2.alloc (.cells #[.slice Ax LL.length cx] 25)).alloc (.cells #[.int .i64 0] 3)) = V3 at *
  refine ⟨trivial, (callsIn_wide.2 SQ3).mono ?_⟩
  rintro e W0 ⟨lb, rfl, hb, hS⟩
  have hsb := hb.size
  have bN4 := boxed_later bN3 hb
  have bR4 := boxed_later bR3 hb
  have bX4 := boxed_later bX3 hb
  have bS4 := boxed_later bS3 hb
  have r4 := Rd.later r3 hb
  have b4 := bel_trans b3 hb
  have hXl : ∀ k, sX w w2 k → k < V3.heap.size ∧ W0.cell? ⟨k, 1, none⟩ = none ∧ W0.cell? ⟨k, 2, none⟩ = none := fun k hk => by
    rcases hk with rfl | rfl
    · exact ⟨by omega, by simp [World.cell?, show W0.heap[_]? = _ from bR4], by simp [World.cell?, show W0.heap[_]? = _ from bR4]⟩
    · exact ⟨by omega, by simp [World.cell?, show W0.heap[_]? = _ from bS4], by simp [World.cell?, show W0.heap[_]? = _ from bS4]⟩
  have SQ := hS (sX w w2) hXl
  have hX0 : ∀ k, sX w w2 k → k < W0.heap.size := fun k hk => by have := (hXl k hk).1; omega
  have hnil := run_isnil (.func 49) #[] lb
  have hI0 : StI w w2.heap.size (w2.heap.size + 1) nn LL Ax cx [] W0 := ⟨bN4, bR4, bX4, bS4, r4, ⟨LL, rfl⟩, by simpa using h0, b4⟩
  have hsw : w.heap.size + 4 ≤ W0.heap.size := by omega
  clear hS hXl SQ3 bN3 bR3 bX3 bS3 r3 b3 bN4 bR4 bX4 bS4 r4 b4 SF hA1 hb bN2 bR2 B02 R2 B2 B1
  gi_wp2
  refine range_L (w0 := W0) (gf := 49) (lb := lb) rfl (enters_of Try.func49 (by kernel_rfl) rfl) SQ (Nat.le_refl _) hX0 (Below.refl _ _) (fun _ => rfl)
    (StI w w2.heap.size (w2.heap.size + 1) nn LL Ax cx) (StX w w2.heap.size (w2.heap.size + 1) nn LL Ax cx) (stI_own (by omega)) (fun c => stX_own (by omega) c) hI0
    (fun x => { tmps := #[.slice A n c, .string at0, .int .u8 nn, undef, undef, .pointer (some ⟨w.heap.size, 0, none⟩), .pointer (some ⟨w.heap.size + 1, 0, none⟩), .pointer (some ⟨V.heap.size, 0, none⟩), .pointer (some ⟨w2.heap.size, 0, none⟩), .pointer (some ⟨w2.heap.size + 1, 0, none⟩), .func (.func 49) #[] lb, .string x.1, .int .i64 x.2, .slice A n c, .pointer (some ⟨V.heap.size, 0, none⟩), .pointer (some ⟨V.heap.size, 0, none⟩), .string at0, .slice Ax LL.length cx, .pointer (some ⟨V.heap.size, 0, none⟩), .string at0, .func (.func 49) #[] lb, .func (.func 49) #[] lb, .bool false, .func (.func 49) #[] lb, .string x.1, .int .i64 x.2, undef, undef, undef, undef, undef, undef, undef, undef, undef, undef, undef, undef, undef, undef, undef, undef, undef, undef, undef, undef, undef, undef, undef, undef, undef, undef, undef, undef, undef, undef, undef, undef, undef, undef, undef, undef, undef, undef], defers := [] }) ?assign ?body ?done ?stop
  case assign =>
    intro m l x W K hK
    gi_wp2
    exact hK
  case body =>
    rintro m l pre x W hl hI hlen
    obtain ⟨k, v⟩ := x
    have cN := hI.n.cell
    have cX := hI.x.cell
    have cS := hI.seen.cell
    have fS := hI.seen.frozen
    have cR := hI.res.cell
    have fR := hI.res.frozen
    have HI := Lib.hid hI
    have q0 : (0 : Int) ≤ (pre.length : Int) := by omega
    have q9 : (pre.length : Int) ≤ 255 := by have := hI.le; omega
    have hw : IntKind.i64.wrap nn = nn := IntWalk.i64_in _ (by omega)
    clear hI SQ hnil hI0 hX0
    have bad : ∀ u, ¬ (pre ++ [(k, v)]) <+: LL → KA W0.heap.size (sX w w2) W (W.setCell ⟨w.heap.size + 1, 0, none⟩ u) ∧ StX w w2.heap.size (w2.heap.size + 1) nn LL Ax cx .ret (pre ++ [(k, v)]) (W.setCell ⟨w.heap.size + 1, 0, none⟩ u) := fun u h => ⟨KA.of_grown (grownBy_setCell' W (w.heap.size + 1) u) (fun j o hj _ => by cases hj; exact .inl (.inl rfl)), .inr ⟨rfl, h⟩⟩
    have BAD := Lib.hid bad
    clear bad
    by_cases hn9 : (pre.length : Int) = nn
    · have g1 : nn ≤ (pre.length : Int) := by omega
      have HN9 := Lib.hid hn9
      clear hn9
      gi_wp2
      exact ⟨KA.refl _ _ _, .inl ⟨rfl, pre, (k, v), rfl, HN9.out, HI.out⟩⟩
    · have g1 : ¬ nn ≤ (pre.length : Int) := by have := HI.out.le; omega
      clear hn9
      by_cases hx9 : pre.length < LL.length
      · have g2 : ¬ (LL.length : Int) ≤ (pre.length : Int) := by omega
        have g3 : (pre.length : Int) < (LL.length : Int) := by omega
        obtain ⟨y, hy⟩ : ∃ y, LL[pre.length]? = some y := ⟨_, List.getElem?_eq_getElem hx9⟩
        obtain ⟨b, off, rfl, hlt, f0, f1⟩ := rdp_get HI.out.row hy
        have f2 : W.cell? ⟨b, off + pre.length * 2 + 1, none⟩ = some (.int .i64 y.2) := f1
        have HY := Lib.hid hy
        have NX := Lib.hid (pre_not (L := LL) (pre := pre) (x := (k, v)))
        have PN := Lib.hid (pre_next HI.out.p hy)
        obtain ⟨y0, y1⟩ := y
        simp only at f0 f2
        clear hy f1 hlt hx9
        by_cases hk : y0 = k
        · subst hk
          by_cases hv : y1 = v
          · subst hv
            gi_wp2
            refine ⟨KA.of_grown (grownBy_setCell' W (w2.heap.size + 1) _) (fun j o hj _ => by cases hj; exact .inl (.inr rfl)), HI.out.step (by omega) (by omega) PN.out (by omega)⟩
          · have hv2 : (y1 == v) = false := by simpa using hv
            have hno : Hid (¬ (pre ++ [(y0, v)]) <+: LL) := Lib.hid (fun h => by have := NX.out h; rw [HY.out] at this; exact hv (by cases this; rfl))
            clear hv
            gi_wp2
            exact BAD.out _ hno.out
        · have hk2 : (y0.toList == k.toList) = false := bytes_ne hk
          have hno : Hid (¬ (pre ++ [(k, v)]) <+: LL) := Lib.hid (fun h => by have := NX.out h; rw [HY.out] at this; exact hk (by cases this; rfl))
          clear hk
          gi_wp2
          exact BAD.out _ hno.out
      · exact absurd hlen hx9
  case done =>
    rintro D ys W hD hys hI hK
    have hys2 : ys = LL := hys
    rw [hys2] at hI
    clear hys hys2 ys
    have LV := Lib.hid (live_any W)
    have HI := Lib.hid hI
    have HK := Lib.hid hK
    have hw : IntKind.i64.wrap nn = nn := IntWalk.i64_in _ (by omega)
    have q0 : (LL.length : Int) ≤ nn := hI.le
    clear hI SQ hnil hI0 hX0 hK
    gi_wp2_with (first
      | (refine ⟨trivial, ?_⟩; gi_at_call 12; refine (callsIn_wide.2 LV.out).mono ?_; clear LV; rintro e w5 ⟨rfl, b5⟩; have cN := (boxed_later HI.out.n b5).cell; have cX := (boxed_later HI.out.x b5).cell; have cS := (boxed_later HI.out.seen b5).cell; have fR := (boxed_later HI.out.res b5).frozen; have cR := (boxed_later HI.out.res b5).cell; have B5 := Lib.hid b5; clear b5)
      | fail)
    all_goals
      have hK6 : ∀ u, (w5.setCell ⟨w.heap.size + 1, 0, none⟩ u).heap[D]? = some (.deferred (some [])) := fun u =>
        ((grownBy_setCell' w5 (w.heap.size + 1) u).block D (Nat.lt_of_lt_of_le (Array.getElem?_eq_some_iff.1 HK.out).1 B5.out.size) (by intro e; cases e; omega)).trans ((B5.out.block D (Array.getElem?_eq_some_iff.1 HK.out).1).trans HK.out)
      have bR6 := (boxed_later HI.out.res B5.out).set (.bool true)
      have BB := ((bel_trans HI.out.b B5.out).setCell (p := ⟨w.heap.size + 1, 0, none⟩) (by simp) (.bool true)).trans (belowK (n₀ := w.heap.size) (D := D) (o := .deferred none) (by have := bR6.lt; omega) (by omega))
      have cRf := (show Boxed ((w5.setCell ⟨w.heap.size + 1, 0, none⟩ (.bool true)).putObj D (.deferred none)) (w.heap.size + 1) 4 (.bool true) from (World.putObj_heap_other (by omega)).trans bR6).cell
      first
        | (refine ⟨by simp, .inl ⟨_, _, rfl, run_takeDeferred (hK6 _), ?_⟩⟩; exact ⟨.bool true, by simp [results, Try.results6, go_sem, cRf], rfl, BB⟩)
        | (rw [show ((LL.length : Int) == nn) = true by rw [beq_iff_eq]; omega]; refine ⟨by simp, .inl ⟨_, _, rfl, run_takeDeferred (hK6 _), ?_⟩⟩; exact ⟨.bool true, by simp [results, Try.results6, go_sem, cRf], rfl, BB⟩)
  case stop =>
    rintro D c pre W hD hp hI hK
    rcases hI with ⟨rfl, q, x, hp2, hq, hI⟩ | ⟨rfl, hn⟩
    · have hlt : q.length < LL.length := by
        have h1 := List.IsPrefix.length_le (show pre <+: LL from hp)
        rw [hp2] at h1; simp at h1; omega
      clear hp hp2
      have LV := Lib.hid (live_any W)
      have HI := Lib.hid hI
      have HK := Lib.hid hK
      have hw : IntKind.i64.wrap nn = nn := IntWalk.i64_in _ (by omega)
      have q0 : nn ≤ (LL.length : Int) := by omega
      clear hI SQ hnil hI0 hX0 hK
      gi_wp2_with (first
        | (refine ⟨trivial, ?_⟩; gi_at_call 12; refine (callsIn_wide.2 LV.out).mono ?_; clear LV; rintro e w5 ⟨rfl, b5⟩; have cN := (boxed_later HI.out.n b5).cell; have cX := (boxed_later HI.out.x b5).cell; have cS := (boxed_later HI.out.seen b5).cell; have fR := (boxed_later HI.out.res b5).frozen; have cR := (boxed_later HI.out.res b5).cell; have B5 := Lib.hid b5; clear b5)
        | fail)
      all_goals
        have hK6 : ∀ u, (w5.setCell ⟨w.heap.size + 1, 0, none⟩ u).heap[D]? = some (.deferred (some [])) := fun u =>
          ((grownBy_setCell' w5 (w.heap.size + 1) u).block D (Nat.lt_of_lt_of_le (Array.getElem?_eq_some_iff.1 HK.out).1 B5.out.size) (by intro e; cases e; omega)).trans ((B5.out.block D (Array.getElem?_eq_some_iff.1 HK.out).1).trans HK.out)
        have bR6 := (boxed_later HI.out.res B5.out).set (.bool true)
        have BB := ((bel_trans HI.out.b B5.out).setCell (p := ⟨w.heap.size + 1, 0, none⟩) (by simp) (.bool true)).trans (belowK (n₀ := w.heap.size) (D := D) (o := .deferred none) (by have := bR6.lt; omega) (by omega))
        have cRf := (show Boxed ((w5.setCell ⟨w.heap.size + 1, 0, none⟩ (.bool true)).putObj D (.deferred none)) (w.heap.size + 1) 4 (.bool true) from (World.putObj_heap_other (by omega)).trans bR6).cell
        first
          | (refine ⟨by simp, .inl ⟨_, _, rfl, run_takeDeferred (hK6 _), ?_⟩⟩; exact ⟨.bool true, by simp [results, Try.results6, go_sem, cRf], rfl, BB⟩)
          | (rw [show ((LL.length : Int) == nn) = true by rw [beq_iff_eq]; omega]; refine ⟨by simp, .inl ⟨_, _, rfl, run_takeDeferred (hK6 _), ?_⟩⟩; exact ⟨.bool true, by simp [results, Try.results6, go_sem, cRf], rfl, BB⟩)
    · exact absurd hp hn
end Go.Proofs.Ytfgohbhacldlmaa
