/- Merge: all things of lists, in order. -/
import Derived.Test.YtpijaphcknoobaaY4
namespace Go.Proofs.Ytpijaphcknoobaa
set_option linter.unusedSimpArgs false
open Go.RowKit Go.Shelf
set_option linter.unusedVariables false
attribute [local go_sem] Oper.semAt_some

/-- How many things are left. -/
def leftN (g m : Nat) (W : World) : Nat := match W.heap[g]? with
  | some (.cells cur _ _) => ((cur.toList.take m).map slen).sum
  | _ => 0
theorem leftN_own {W : World} {g m c base : Nat} {us : List Value} (h : W.ownsRow base 26 1 (.slice (some ⟨g, 0, none⟩) m c) m us) : leftN g m W = (us.map slen).sum := by
  obtain ⟨_, ⟨h, _⟩ | ⟨g2, cap, cur, hv, _, hg, _, _, _, ht⟩⟩ := h
  · cases h
  · cases hv
    simp only [leftN, hg]
    rw [← ht, Nat.mul_one]
theorem sum_set {us : List Nat} {i a b : Nat} (h : us[i]? = some a) (hb : b < a) : (us.set i b).sum < us.sum := by
  obtain ⟨e1, e2⟩ := set_split h b
  rw [e2]
  conv => rhs; rw [e1]
  simp; omega
theorem sls_map {w0 : World} {us : List Value} {qs : List (List TT)} (h : Sls w0 us qs) : us.map slen = qs.map List.length := by
  refine List.ext_getElem? fun i => ?_
  rw [List.getElem?_map, List.getElem?_map]
  by_cases hi : i < qs.length
  · obtain ⟨u, h1, A, c, rfl, _⟩ := h.2 i _ (List.getElem?_eq_getElem hi)
    rw [h1, List.getElem?_eq_getElem hi]; rfl
  · rw [List.getElem?_eq_none (by rw [h.1]; omega), List.getElem?_eq_none (by omega)]; rfl
/-- What lies between the rounds. -/
structure MgI (J : Nat → (Nat → Prop) → World → Prop) (w0 W : World) (D : Nat → Prop) (xs : List TT) (m g cg k : Nat) (E : Nat → Prop) (qs : List (List TT)) (us : List Value) (wr : World) : Prop where
  j : J k E wr
  gr : Gr D E W wr
  ch : Chg D W wr
  ne : ¬ E g
  own : wr.ownsRow W.heap.size 26 1 (.slice (some ⟨g, 0, none⟩) m cg) m us
  sls : Sls w0 us qs
  len : qs.length = m
  srt : ∀ l ∈ qs, Srt l
  left : xs.drop k = sortL [] qs.flatten
  kx : k ≤ xs.length
theorem mgI_next {J : Nat → (Nat → Prop) → World → Prop} {w0 W V W3 : World} {D E E2 : Nat → Prop} {xs : List TT} {m g cg k i : Nat} {qs : List (List TT)} {us : List Value} {x : TT} {rest : List TT} {u u2 : Value}
    (h : MgI J w0 W D xs m g cg k E qs us V) (hx : qs[i]? = some (x :: rest)) (hu2 : us[i]? = some u2) (hk : k < xs.length) (hleft : xs.drop (k + 1) = sortL [] (qs.set i rest).flatten) (hJ : LocB W.heap.size J)
    (hg : Gr D E2 W W3 ∧ Chg D W W3) (hO : W3.ownsRow W.heap.size 26 1 (.slice (some ⟨g, 0, none⟩) m cg) m us) (n2 : ¬ E2 g) (hj : J (k + 1) E2 W3) (gE : W.heap.size ≤ g) (hu : Sl w0 u rest) (e2 : u2 = u2) :
    leftN g m (W3.setCell ⟨g, i, none⟩ u) < leftN g m V ∧ MgI J w0 W D xs m g cg (k + 1) E2 (qs.set i rest) (us.set i u) (W3.setCell ⟨g, i, none⟩ u) := by
  have hO2 := (hO.stored i u).1
  have hS2 := h.sls.set (i := i) hu
  refine ⟨?_, ⟨hJ.set hj n2 gE u, ?_, ?_, n2, hO2, hS2, by rw [List.length_set]; exact h.len, set_srt h.srt hx, hleft, hk⟩⟩
  · rw [leftN_own hO2, leftN_own h.own, sls_map hS2, sls_map h.sls, List.map_set]
    exact sum_set (a := rest.length + 1) (by rw [List.getElem?_map, hx]; rfl) (by omega)
  · exact gr_up hg.1 (by simp [World.setCell])
  · exact hg.2.trans (Chg.set (D := fun q => q = g) W3 u rfl) (fun q hq => .inr (by rw [hq]; exact gE))
set_option maxRecDepth 100000 in
set_option maxHeartbeats 4000000 in
theorem merge_seq (bl bo : Nat) (A : Addr) (c : Nat) (rs : List (List TT)) (vs : List Value) (hm : rs.length ≤ 1000) (w0 : World) (hbl : Boxed w0 bl 22 (.slice (some A) rs.length c)) (hbo : Boxed w0 bo 33 (.func (.func 11) #[] #[]))
    (hR : Rd w0 w0.heap.size (some A) vs) (hS : Sls w0 vs rs) (hs : ∀ l ∈ rs, Srt l) : SeqF Try.prog 33 #[.pointer (some ⟨bl, 0, none⟩), .pointer (some ⟨bo, 0, none⟩)] enc (sortL [] rs.flatten) w0 := by
  intro l J Jx W D hb hD hin hJ hJx hY h0
  refine (callsIn_wide (n := 3)).1 ?_
  have c1 := (boxed_later hbl hb).cell
  have HO := Lib.hid (boxed_later hbo hb)
  have KO : Hid (∀ V, Chg D W V → Boxed V bo 33 (.func (.func 11) #[] #[])) := Lib.hid (fun V hV => boxed_chg (boxed_later hbo hb) hV (fun h => by have := hD _ h; have := hbo.lt; omega))
  have HS := Lib.hid hS
  have CL := Lib.hid (clone_any A rs.length c vs W hS.1 hm hS.one (Rd.later hR hb))
  have HSR := Lib.hid hs
  have HB := Lib.hid hb
  have HD := Lib.hid hD
  have HJ := Lib.hid hJ
  have HJX := Lib.hid hJx
  have HY := Lib.hid hY
  have H0 := Lib.hid h0
  have HI := Lib.hid hin
  clear hbl hbo hR hS hs hb hD hJ hJx hY h0 hin
  refine callsIn_of_wp Try.func33 rfl trivial ?_ rfl
  simp only [Try.ntmps33, List.size_toArray, List.length_cons, List.length_nil, Nat.reduceAdd, Nat.reduceSub, Array.replicate_succ, Array.replicate_zero, List.push_toArray, List.append_toArray, List.nil_append, List.cons_append]
  gi_wp2_with fail
  refine ⟨trivial, (callsIn_wide.2 CL.out).mono ?_⟩
  rintro e W1 ⟨g, cg, rfl, hown, hb1⟩
  have HO1 := Lib.hid hown
  have HB1 := Lib.hid hb1
  clear hown hb1 CL
  gi_wp2
  gi_loopw [5] (fun fv wr => ∃ (k : Nat) (E : Nat → Prop) (qs : List (List TT)) (us : List Value), MgI J w0 W D (sortL [] rs.flatten) rs.length g cg k E qs us wr) (fun _ wr => leftN g rs.length wr)
  case atStart =>
    exact ⟨0, D, rs, vs, HJ.out.bel H0.out HB1.out, Gr.refl _ _ _, Chg.of_below HB1.out, fun h => by have h1 := HI.out _ h; have h2 := (HO1.out.lt g rfl).1; omega, HO1.out, HS.out, rfl, HSR.out, rfl, Nat.zero_le _⟩
  case round =>
    obtain ⟨k, E, qs, us, hI⟩ := hrel
    obtain ⟨V, hV⟩ : ∃ V, V = wr := ⟨_, rfl⟩
    subst hV
    have HM := Lib.hid hI
    clear hI
    gi_wp2
    gi_loopw [5, 12] (fun fv iv wq => ∃ (j : Nat) (f : Int), j ≤ rs.length ∧ iv = .int .i64 j ∧ fv = .int .i64 f ∧ PickK qs j f ∧ Below V.heap.size V wq) (fun _ iv _ => rs.length - (intOf iv).toNat)
    case atStart => exact ⟨0, -1, Nat.zero_le _, rfl, rfl, pick_zero _, Below.refl _ _⟩
    case round =>
      obtain ⟨j, f, hj, rfl, rfl, hp, hbq⟩ := hrel
      have HP := Lib.hid hp
      have HBQ := Lib.hid hbq
      clear hp hbq
      by_cases hlt : j < rs.length
      · have i1 : (j : Int) < (rs.length : Int) := by omega
        have i0 : (0 : Int) ≤ (j : Int) := by omega
        obtain ⟨ys, hys⟩ : ∃ ys, qs[j]? = some ys := ⟨_, List.getElem?_eq_getElem (by rw [HM.out.len]; exact hlt)⟩
        obtain ⟨u, hu, Ay, cy, rfl, hcy1, hcy2, hry⟩ := HM.out.sls.2 j ys hys
        have gl : wr.cell? ⟨g, j, none⟩ = some (.slice Ay ys.length cy) := ((own_bel HM.out.own HBQ.out).cellAt j (by omega)).trans hu
        have j9 : (j : Int) ≤ 1000 := by omega
        cases ys with
        | nil =>
          have HP2 := Lib.hid (pick_empty HP.out hys)
          simp only [List.length_nil] at gl
          clear hu hys hry hcy1 hcy2
          gi_wp2_with fail
          refine wpIn_wide.2 ?_
          go_quiet (fail)
          gi_wp2
          exact ⟨⟨j + 1, f, by omega, by simp, rfl, HP2.out, bel_drewN HBQ.out nq⟩, by simp [intOf]; omega⟩
        | cons y ys =>
          rcases pick_cases HP.out with rfl | ⟨i, x, rest, rfl, hij, hx⟩
          · have HP2 := Lib.hid (pick_first HP.out hys)
            simp only [List.length_cons] at gl
            clear hu hys hry hcy1 hcy2
            gi_wp2_with fail
            refine wpIn_wide.2 ?_
            go_quiet (fail)
            gi_wp2
            exact ⟨⟨j + 1, j, by omega, by simp, rfl, HP2.out, bel_drewN HBQ.out nq⟩, by simp [intOf]; omega⟩
          · obtain ⟨u2, hu2, Ax, cx, rfl, hcx1, hcx2, hrx⟩ := HM.out.sls.2 i _ hx
            have gx : wr.cell? ⟨g, i, none⟩ = some (.slice Ax (rest.length + 1) cx) := ((own_bel HM.out.own HBQ.out).cellAt i (by omega)).trans hu2
            simp only [List.length_cons] at gl
            obtain ⟨y0, y1⟩ := y
            obtain ⟨x0, x1⟩ := x
            obtain ⟨yb, yo, rfl, hyl, fy0, fy1, _, _⟩ := Sl.tail hry hcy1 hcy2
            obtain ⟨xb, xo, rfl, hxl, fx0, fx1, _, _⟩ := Sl.tail hrx hcx1 hcx2
            have hb0 : Below w0.heap.size w0 wr := HB.out.trans (HM.out.ch.below HD.out HB.out.size) |>.trans (HBQ.out.mono (by have := HB.out.size; have := HM.out.ch.size; omega))
            have go := (KO.out V HM.out.ch)
            have SK : Hid (∀ U, Below wr.heap.size wr U → U.cell? ⟨g, j, none⟩ = some (.slice (some ⟨yb, yo, none⟩) (ys.length + 1) cy) ∧ U.cell? ⟨g, i, none⟩ = some (.slice (some ⟨xb, xo, none⟩) (rest.length + 1) cx) ∧ U.cell? ⟨bo, 0, none⟩ = some (.func (.func 11) #[] #[]) ∧
              U.cell? ⟨yb, yo, none⟩ = some (.int .i64 y0) ∧ U.cell? ⟨yb, yo + 1, none⟩ = some (.int .i64 y1) ∧ U.cell? ⟨xb, xo, none⟩ = some (.int .i64 x0) ∧ U.cell? ⟨xb, xo + 1, none⟩ = some (.int .i64 x1)) := Lib.hid (fun U hU =>
              ⟨bel_later hU gl, bel_later hU gx, bel_later hU (bel_later HBQ.out go.cell), bel_later hU ((bel_cell hb0 hyl).trans fy0), bel_later hU ((bel_cell hb0 hyl).trans fy1), bel_later hU ((bel_cell hb0 hxl).trans fx0), bel_later hU ((bel_cell hb0 hxl).trans fx1)⟩)
            have i2 : (i : Int) < (rs.length : Int) := by omega
            have i3 : (0 : Int) ≤ (i : Int) := by omega
            have i4 : ((i : Int) < 0) = False := eq_false (by omega)
            have HPL := Lib.hid (fun h : y0 < x0 => pick_lt HP.out hx hys h)
            have HPG := Lib.hid (fun h : ¬ y0 < x0 => pick_ge HP.out hx hys h)
            clear hu hu2 hys hx hry hrx fy0 fy1 fx0 fx1 hcx1 hcx2 hcy1 hcy2 hb0 go
            by_cases q1 : y0 < x0
            · skip
              have OC : Hid (∀ U, Calls Try.prog 11 #[.agg #[.int .i64 y0, .int .i64 y1], .agg #[.int .i64 x0, .int .i64 x1]] U fun e w' => e = .returned (.int .i64 (-1)) ∧ Below U.heap.size U w') := Lib.hid (fun U => (ord_any (y0, y1) (x0, x1) U).mono (fun e w' h => ⟨by rw [h.1]; simp [ordT, q1], h.2⟩))
              gi_wp2_with fail
              refine wpIn_wide.2 ?_
              refine wp_region_held_drew (S := (fun U => U.cell? ⟨g, j, none⟩ = some (.slice (some ⟨yb, yo, none⟩) (ys.length + 1) cy) ∧ U.cell? ⟨g, i, none⟩ = some (.slice (some ⟨xb, xo, none⟩) (rest.length + 1) cx) ∧ U.cell? ⟨bo, 0, none⟩ = some (.func (.func 11) #[] #[]) ∧ U.cell? ⟨yb, yo, none⟩ = some (.int .i64 y0) ∧ U.cell? ⟨yb, yo + 1, none⟩ = some (.int .i64 y1) ∧ U.cell? ⟨xb, xo, none⟩ = some (.int .i64 x0) ∧ U.cell? ⟨xb, xo + 1, none⟩ = some (.int .i64 x1))) (by kernel_rfl) ?_ (fun hHeld => ?_)
              · first | exact SK.out _ HBC.out | exact SK.out _ (bel_dw (Below.refl _ _))
              refine wpAnyH_take (i := 0) (oi := { dst := some 17, op := Op.move (Operand.tmp 7), type := 26, pos := "merge.go:105", after := #[], guard := none }) (v := ?_) rfl (by kernel_rfl) (by kernel_rfl) (by kernel_rfl) (fun _ _ _ h => h) (Or.inl ⟨by rfl, ?_⟩) (by assumption) ?_
              rotate_left
              · intro w hSw; (try dsimp only at hSw); go_simp; try with_reducible rfl
              try simp only [Act.put, List.setIfInBounds_toArray, List.set_cons_zero, List.set_cons_succ]
              refine wpAnyH_take (i := 1) (oi := { dst := some 18, op := Op.call { callee := Callee.builtin Builtin.len, args := #[Operand.tmp 17], argTypes := #[26] }, type := 3, pos := "merge.go:105", after := #[{ on := 0, ground := Ground.data }], guard := none }) (v := ?_) rfl (by kernel_rfl) (by kernel_rfl) (by kernel_rfl) (fun _ _ _ h => h) (Or.inl ⟨by rfl, ?_⟩) (by assumption) ?_
              rotate_left
              · intro w hSw; (try dsimp only at hSw); go_simp; try with_reducible rfl
              try simp only [Act.put, List.setIfInBounds_toArray, List.set_cons_zero, List.set_cons_succ]
              refine wpAnyH_take (i := 2) (oi := { dst := some 19, op := Op.binOp BinOp.gtr 3 (Operand.tmp 18) (Operand.const (Value.int IntKind.i64 0)) 3, type := 4, pos := "merge.go:105", after := #[{ on := 1, ground := Ground.data }], guard := none }) (v := ?_) rfl (by kernel_rfl) (by kernel_rfl) (by kernel_rfl) (fun _ _ _ h => h) (Or.inl ⟨by rfl, ?_⟩) (by assumption) ?_
              rotate_left
              · intro w hSw; (try dsimp only at hSw); go_simp; try with_reducible rfl
              try simp only [Act.put, List.setIfInBounds_toArray, List.set_cons_zero, List.set_cons_succ]
              refine wpAnyH_take (i := 3) (oi := { dst := some 20, op := Op.move (Operand.tmp 19), type := 4, pos := "merge.go:105", after := #[{ on := 2, ground := Ground.data }], guard := none }) (v := ?_) rfl (by kernel_rfl) (by kernel_rfl) (by kernel_rfl) (fun _ _ _ h => h) (Or.inl ⟨by rfl, ?_⟩) (by assumption) ?_
              rotate_left
              · intro w hSw; (try dsimp only at hSw); go_simp; try with_reducible rfl
              try simp only [Act.put, List.setIfInBounds_toArray, List.set_cons_zero, List.set_cons_succ]
              refine wpAnyH_take (i := 4) (oi := { dst := some 21, op := Op.move (Operand.tmp 5), type := 3, pos := "merge.go:105", after := #[{ on := 3, ground := Ground.guard }], guard := some (3, true) }) (v := ?_) rfl (by kernel_rfl) (by kernel_rfl) (by kernel_rfl) (fun _ _ _ h => h) (Or.inl ⟨by rfl, ?_⟩) (by assumption) ?_
              rotate_left
              · intro w hSw; (try dsimp only at hSw); go_simp; try with_reducible rfl
              try simp only [Act.put, List.setIfInBounds_toArray, List.set_cons_zero, List.set_cons_succ]
              refine wpAnyH_take (i := 5) (oi := { dst := some 22, op := Op.binOp BinOp.lss 3 (Operand.tmp 21) (Operand.const (Value.int IntKind.i64 0)) 3, type := 4, pos := "merge.go:105", after := #[{ on := 4, ground := Ground.data }, { on := 3, ground := Ground.guard }], guard := some (3, true) }) (v := ?_) rfl (by kernel_rfl) (by kernel_rfl) (by kernel_rfl) (fun _ _ _ h => h) (Or.inl ⟨by rfl, ?_⟩) (by assumption) ?_
              rotate_left
              · intro w hSw; (try dsimp only at hSw); go_simp; try with_reducible rfl
              try simp only [Act.put, List.setIfInBounds_toArray, List.set_cons_zero, List.set_cons_succ]
              refine wpAnyH_take (i := 6) (oi := { dst := some 23, op := Op.move (Operand.tmp 22), type := 4, pos := "merge.go:105", after := #[{ on := 5, ground := Ground.data }, { on := 3, ground := Ground.chain }, { on := 3, ground := Ground.guard }], guard := some (3, true) }) (v := ?_) rfl (by kernel_rfl) (by kernel_rfl) (by kernel_rfl) (fun _ _ _ h => h) (Or.inl ⟨by rfl, ?_⟩) (by assumption) ?_
              rotate_left
              · intro w hSw; (try dsimp only at hSw); go_simp; try with_reducible rfl
              try simp only [Act.put, List.setIfInBounds_toArray, List.set_cons_zero, List.set_cons_succ]
              refine wpAnyH_take (i := 7) (oi := { dst := some 24, op := Op.load 33 (Operand.tmp 2), type := 33, pos := "merge.go:105", after := #[{ on := 6, ground := Ground.guard }], guard := some (6, false) }) (v := ?_) rfl (by kernel_rfl) (by kernel_rfl) (by kernel_rfl) (fun _ _ _ h => h) (Or.inl ⟨by rfl, ?_⟩) (by assumption) ?_
              rotate_left
              · intro w hSw; (try dsimp only at hSw); go_simp; try with_reducible rfl
              try simp only [Act.put, List.setIfInBounds_toArray, List.set_cons_zero, List.set_cons_succ]
              refine wpAnyH_take (i := 8) (oi := { dst := some 25, op := Op.move (Operand.tmp 7), type := 26, pos := "merge.go:105", after := #[{ on := 6, ground := Ground.guard }], guard := some (6, false) }) (v := ?_) rfl (by kernel_rfl) (by kernel_rfl) (by kernel_rfl) (fun _ _ _ h => h) (Or.inl ⟨by rfl, ?_⟩) (by assumption) ?_
              rotate_left
              · intro w hSw; (try dsimp only at hSw); go_simp; try with_reducible rfl
              try simp only [Act.put, List.setIfInBounds_toArray, List.set_cons_zero, List.set_cons_succ]
              refine wpAnyH_take (i := 9) (oi := { dst := some 26, op := Op.indexAddr 26 (Operand.tmp 25) (Operand.const (Value.int IntKind.i64 0)), type := 0, pos := "merge.go:105", after := #[{ on := 8, ground := Ground.data }, { on := 6, ground := Ground.guard }], guard := some (6, false) }) (v := ?_) rfl (by kernel_rfl) (by kernel_rfl) (by kernel_rfl) (fun _ _ _ h => h) (Or.inl ⟨by rfl, ?_⟩) (by assumption) ?_
              rotate_left
              · intro w hSw; (try dsimp only at hSw); go_simp; try with_reducible rfl
              try simp only [Act.put, List.setIfInBounds_toArray, List.set_cons_zero, List.set_cons_succ]
              refine wpAnyH_take (i := 10) (oi := { dst := some 27, op := Op.load 29 (Operand.tmp 26), type := 29, pos := "merge.go:105", after := #[{ on := 9, ground := Ground.data }, { on := 6, ground := Ground.guard }], guard := some (6, false) }) (v := ?_) rfl (by kernel_rfl) (by kernel_rfl) (by kernel_rfl) (fun _ _ _ h => h) (Or.inl ⟨by rfl, ?_⟩) (by assumption) ?_
              rotate_left
              · intro w hSw; (try dsimp only at hSw); go_simp; try with_reducible rfl
              try simp only [Act.put, List.setIfInBounds_toArray, List.set_cons_zero, List.set_cons_succ]
              refine wpAnyH_take (i := 11) (oi := { dst := some 28, op := Op.move (Operand.tmp 4), type := 22, pos := "merge.go:105", after := #[{ on := 6, ground := Ground.guard }], guard := some (6, false) }) (v := ?_) rfl (by kernel_rfl) (by kernel_rfl) (by kernel_rfl) (fun _ _ _ h => h) (Or.inl ⟨by rfl, ?_⟩) (by assumption) ?_
              rotate_left
              · intro w hSw; (try dsimp only at hSw); go_simp; try with_reducible rfl
              try simp only [Act.put, List.setIfInBounds_toArray, List.set_cons_zero, List.set_cons_succ]
              refine wpAnyH_take (i := 12) (oi := { dst := some 29, op := Op.move (Operand.tmp 5), type := 3, pos := "merge.go:105", after := #[{ on := 6, ground := Ground.guard }], guard := some (6, false) }) (v := ?_) rfl (by kernel_rfl) (by kernel_rfl) (by kernel_rfl) (fun _ _ _ h => h) (Or.inl ⟨by rfl, ?_⟩) (by assumption) ?_
              rotate_left
              · intro w hSw; (try dsimp only at hSw); go_simp; try with_reducible rfl
              try simp only [Act.put, List.setIfInBounds_toArray, List.set_cons_zero, List.set_cons_succ]
              refine wpAnyH_take (i := 13) (oi := { dst := some 30, op := Op.indexAddr 22 (Operand.tmp 28) (Operand.tmp 29), type := 0, pos := "merge.go:105", after := #[{ on := 11, ground := Ground.data }, { on := 12, ground := Ground.data }, { on := 6, ground := Ground.guard }], guard := some (6, false) }) (v := ?_) rfl (by kernel_rfl) (by kernel_rfl) (by kernel_rfl) (fun _ _ _ h => h) (Or.inl ⟨by rfl, ?_⟩) (by assumption) ?_
              rotate_left
              · intro w hSw; (try dsimp only at hSw); go_simp; try with_reducible rfl
              try simp only [Act.put, List.setIfInBounds_toArray, List.set_cons_zero, List.set_cons_succ]
              refine wpAnyH_take (i := 14) (oi := { dst := some 31, op := Op.load 26 (Operand.tmp 30), type := 26, pos := "merge.go:105", after := #[{ on := 13, ground := Ground.data }, { on := 6, ground := Ground.guard }], guard := some (6, false) }) (v := ?_) rfl (by kernel_rfl) (by kernel_rfl) (by kernel_rfl) (fun _ _ _ h => h) (Or.inl ⟨by rfl, ?_⟩) (by assumption) ?_
              rotate_left
              · intro w hSw; (try dsimp only at hSw); go_simp; try with_reducible rfl
              try simp only [Act.put, List.setIfInBounds_toArray, List.set_cons_zero, List.set_cons_succ]
              refine wpAnyH_take (i := 15) (oi := { dst := some 32, op := Op.indexAddr 26 (Operand.tmp 31) (Operand.const (Value.int IntKind.i64 0)), type := 0, pos := "merge.go:105", after := #[{ on := 14, ground := Ground.data }, { on := 6, ground := Ground.guard }], guard := some (6, false) }) (v := ?_) rfl (by kernel_rfl) (by kernel_rfl) (by kernel_rfl) (fun _ _ _ h => h) (Or.inl ⟨by rfl, ?_⟩) (by assumption) ?_
              rotate_left
              · intro w hSw; (try dsimp only at hSw); go_simp; try with_reducible rfl
              try simp only [Act.put, List.setIfInBounds_toArray, List.set_cons_zero, List.set_cons_succ]
              refine wpAnyH_take (i := 16) (oi := { dst := some 33, op := Op.load 29 (Operand.tmp 32), type := 29, pos := "merge.go:105", after := #[{ on := 15, ground := Ground.data }, { on := 6, ground := Ground.guard }], guard := some (6, false) }) (v := ?_) rfl (by kernel_rfl) (by kernel_rfl) (by kernel_rfl) (fun _ _ _ h => h) (Or.inl ⟨by rfl, ?_⟩) (by assumption) ?_
              rotate_left
              · intro w hSw; (try dsimp only at hSw); go_simp; try with_reducible rfl
              try simp only [Act.put, List.setIfInBounds_toArray, List.set_cons_zero, List.set_cons_succ]
              refine wpAnyH_ready (rs := [17]) (by kernel_rfl) (by simp) ?_
              refine AllReadyH.cons (o := { dst := some 34, op := Op.call { callee := Callee.value (Operand.tmp 24), args := #[Operand.tmp 27, Operand.tmp 33], argTypes := #[29, 29] }, type := 3, pos := "merge.go:105", after := #[{ on := 7, ground := Ground.data }, { on := 10, ground := Ground.data }, { on := 16, ground := Ground.data }, { on := 6, ground := Ground.chain }, { on := 6, ground := Ground.guard }], guard := some (6, false) }) rfl (fun K hK => ?_) AllReadyH.nil
              go_simp
              (refine (OC.out _).mono ?_; rintro e w' ⟨rfl, hb⟩; have HBC : Hid (Below wr.heap.size wr w') := Lib.hid (bel_dr hb); clear hb)
              try go_wp2_with fail
              refine hK.out _ _ ?_ (fun hHeld => ?_)
              · first | exact SK.out _ HBC.out | exact SK.out _ (bel_dw (Below.refl _ _))
              clear hK K
              try simp only [Act.put, List.setIfInBounds_toArray, List.set_cons_zero, List.set_cons_succ]
              refine wpAnyH_take (i := 18) (oi := { dst := some 35, op := Op.binOp BinOp.lss 3 (Operand.tmp 34) (Operand.const (Value.int IntKind.i64 0)) 3, type := 4, pos := "merge.go:105", after := #[{ on := 17, ground := Ground.data }, { on := 6, ground := Ground.guard }], guard := some (6, false) }) (v := ?_) rfl (by kernel_rfl) (by kernel_rfl) (by kernel_rfl) (fun _ _ _ h => h) (Or.inl ⟨by rfl, ?_⟩) (by assumption) ?_
              rotate_left
              · intro w hSw; (try dsimp only at hSw); go_simp; try with_reducible rfl
              try simp only [Act.put, List.setIfInBounds_toArray, List.set_cons_zero, List.set_cons_succ]
              refine wpAnyH_take (i := 19) (oi := { dst := some 36, op := Op.pick (Operand.tmp 23) (Operand.const (Value.bool true)) (Operand.tmp 35), type := 4, pos := "merge.go:105", after := #[{ on := 6, ground := Ground.data }, { on := 18, ground := Ground.data }, { on := 3, ground := Ground.guard }], guard := some (3, true) }) (v := ?_) rfl (by kernel_rfl) (by kernel_rfl) (by kernel_rfl) (fun _ _ _ h => h) (Or.inl ⟨by rfl, ?_⟩) (by assumption) ?_
              rotate_left
              · intro w hSw; (try dsimp only at hSw); go_simp; try with_reducible rfl
              try simp only [Act.put, List.setIfInBounds_toArray, List.set_cons_zero, List.set_cons_succ]
              refine wpAnyH_take (i := 20) (oi := { dst := some 37, op := Op.pick (Operand.tmp 20) (Operand.tmp 36) (Operand.const (Value.bool false)), type := 4, pos := "merge.go:105", after := #[{ on := 3, ground := Ground.data }, { on := 19, ground := Ground.data }], guard := none }) (v := ?_) rfl (by kernel_rfl) (by kernel_rfl) (by kernel_rfl) (fun _ _ _ h => h) (Or.inl ⟨by rfl, ?_⟩) (by assumption) ?_
              rotate_left
              · intro w hSw; (try dsimp only at hSw); go_simp; try with_reducible rfl
              try simp only [Act.put, List.setIfInBounds_toArray, List.set_cons_zero, List.set_cons_succ]
              refine wpAnyH_done (by kernel_rfl) ?_ _
              clear hHeld
              gi_wp2
              exact ⟨⟨j + 1, j, by omega, by simp, rfl, HPL.out q1, bel_trans HBQ.out HBC.out⟩, by simp [intOf]; omega⟩
            · by_cases q2 : x0 < y0
              · skip
                have OC : Hid (∀ U, Calls Try.prog 11 #[.agg #[.int .i64 y0, .int .i64 y1], .agg #[.int .i64 x0, .int .i64 x1]] U fun e w' => e = .returned (.int .i64 (1)) ∧ Below U.heap.size U w') := Lib.hid (fun U => (ord_any (y0, y1) (x0, x1) U).mono (fun e w' h => ⟨by rw [h.1]; simp [ordT, q1, q2], h.2⟩))
                gi_wp2_with fail
                refine wpIn_wide.2 ?_
                refine wp_region_held_drew (S := (fun U => U.cell? ⟨g, j, none⟩ = some (.slice (some ⟨yb, yo, none⟩) (ys.length + 1) cy) ∧ U.cell? ⟨g, i, none⟩ = some (.slice (some ⟨xb, xo, none⟩) (rest.length + 1) cx) ∧ U.cell? ⟨bo, 0, none⟩ = some (.func (.func 11) #[] #[]) ∧ U.cell? ⟨yb, yo, none⟩ = some (.int .i64 y0) ∧ U.cell? ⟨yb, yo + 1, none⟩ = some (.int .i64 y1) ∧ U.cell? ⟨xb, xo, none⟩ = some (.int .i64 x0) ∧ U.cell? ⟨xb, xo + 1, none⟩ = some (.int .i64 x1))) (by kernel_rfl) ?_ (fun hHeld => ?_)
                · first | exact SK.out _ HBC.out | exact SK.out _ (bel_dw (Below.refl _ _))
                refine wpAnyH_take (i := 0) (oi := { dst := some 17, op := Op.move (Operand.tmp 7), type := 26, pos := "merge.go:105", after := #[], guard := none }) (v := ?_) rfl (by kernel_rfl) (by kernel_rfl) (by kernel_rfl) (fun _ _ _ h => h) (Or.inl ⟨by rfl, ?_⟩) (by assumption) ?_
                rotate_left
                · intro w hSw; (try dsimp only at hSw); go_simp; try with_reducible rfl
                try simp only [Act.put, List.setIfInBounds_toArray, List.set_cons_zero, List.set_cons_succ]
                refine wpAnyH_take (i := 1) (oi := { dst := some 18, op := Op.call { callee := Callee.builtin Builtin.len, args := #[Operand.tmp 17], argTypes := #[26] }, type := 3, pos := "merge.go:105", after := #[{ on := 0, ground := Ground.data }], guard := none }) (v := ?_) rfl (by kernel_rfl) (by kernel_rfl) (by kernel_rfl) (fun _ _ _ h => h) (Or.inl ⟨by rfl, ?_⟩) (by assumption) ?_
                rotate_left
                · intro w hSw; (try dsimp only at hSw); go_simp; try with_reducible rfl
                try simp only [Act.put, List.setIfInBounds_toArray, List.set_cons_zero, List.set_cons_succ]
                refine wpAnyH_take (i := 2) (oi := { dst := some 19, op := Op.binOp BinOp.gtr 3 (Operand.tmp 18) (Operand.const (Value.int IntKind.i64 0)) 3, type := 4, pos := "merge.go:105", after := #[{ on := 1, ground := Ground.data }], guard := none }) (v := ?_) rfl (by kernel_rfl) (by kernel_rfl) (by kernel_rfl) (fun _ _ _ h => h) (Or.inl ⟨by rfl, ?_⟩) (by assumption) ?_
                rotate_left
                · intro w hSw; (try dsimp only at hSw); go_simp; try with_reducible rfl
                try simp only [Act.put, List.setIfInBounds_toArray, List.set_cons_zero, List.set_cons_succ]
                refine wpAnyH_take (i := 3) (oi := { dst := some 20, op := Op.move (Operand.tmp 19), type := 4, pos := "merge.go:105", after := #[{ on := 2, ground := Ground.data }], guard := none }) (v := ?_) rfl (by kernel_rfl) (by kernel_rfl) (by kernel_rfl) (fun _ _ _ h => h) (Or.inl ⟨by rfl, ?_⟩) (by assumption) ?_
                rotate_left
                · intro w hSw; (try dsimp only at hSw); go_simp; try with_reducible rfl
                try simp only [Act.put, List.setIfInBounds_toArray, List.set_cons_zero, List.set_cons_succ]
                refine wpAnyH_take (i := 4) (oi := { dst := some 21, op := Op.move (Operand.tmp 5), type := 3, pos := "merge.go:105", after := #[{ on := 3, ground := Ground.guard }], guard := some (3, true) }) (v := ?_) rfl (by kernel_rfl) (by kernel_rfl) (by kernel_rfl) (fun _ _ _ h => h) (Or.inl ⟨by rfl, ?_⟩) (by assumption) ?_
                rotate_left
                · intro w hSw; (try dsimp only at hSw); go_simp; try with_reducible rfl
                try simp only [Act.put, List.setIfInBounds_toArray, List.set_cons_zero, List.set_cons_succ]
                refine wpAnyH_take (i := 5) (oi := { dst := some 22, op := Op.binOp BinOp.lss 3 (Operand.tmp 21) (Operand.const (Value.int IntKind.i64 0)) 3, type := 4, pos := "merge.go:105", after := #[{ on := 4, ground := Ground.data }, { on := 3, ground := Ground.guard }], guard := some (3, true) }) (v := ?_) rfl (by kernel_rfl) (by kernel_rfl) (by kernel_rfl) (fun _ _ _ h => h) (Or.inl ⟨by rfl, ?_⟩) (by assumption) ?_
                rotate_left
                · intro w hSw; (try dsimp only at hSw); go_simp; try with_reducible rfl
                try simp only [Act.put, List.setIfInBounds_toArray, List.set_cons_zero, List.set_cons_succ]
                refine wpAnyH_take (i := 6) (oi := { dst := some 23, op := Op.move (Operand.tmp 22), type := 4, pos := "merge.go:105", after := #[{ on := 5, ground := Ground.data }, { on := 3, ground := Ground.chain }, { on := 3, ground := Ground.guard }], guard := some (3, true) }) (v := ?_) rfl (by kernel_rfl) (by kernel_rfl) (by kernel_rfl) (fun _ _ _ h => h) (Or.inl ⟨by rfl, ?_⟩) (by assumption) ?_
                rotate_left
                · intro w hSw; (try dsimp only at hSw); go_simp; try with_reducible rfl
                try simp only [Act.put, List.setIfInBounds_toArray, List.set_cons_zero, List.set_cons_succ]
                refine wpAnyH_take (i := 7) (oi := { dst := some 24, op := Op.load 33 (Operand.tmp 2), type := 33, pos := "merge.go:105", after := #[{ on := 6, ground := Ground.guard }], guard := some (6, false) }) (v := ?_) rfl (by kernel_rfl) (by kernel_rfl) (by kernel_rfl) (fun _ _ _ h => h) (Or.inl ⟨by rfl, ?_⟩) (by assumption) ?_
                rotate_left
                · intro w hSw; (try dsimp only at hSw); go_simp; try with_reducible rfl
                try simp only [Act.put, List.setIfInBounds_toArray, List.set_cons_zero, List.set_cons_succ]
                refine wpAnyH_take (i := 8) (oi := { dst := some 25, op := Op.move (Operand.tmp 7), type := 26, pos := "merge.go:105", after := #[{ on := 6, ground := Ground.guard }], guard := some (6, false) }) (v := ?_) rfl (by kernel_rfl) (by kernel_rfl) (by kernel_rfl) (fun _ _ _ h => h) (Or.inl ⟨by rfl, ?_⟩) (by assumption) ?_
                rotate_left
                · intro w hSw; (try dsimp only at hSw); go_simp; try with_reducible rfl
                try simp only [Act.put, List.setIfInBounds_toArray, List.set_cons_zero, List.set_cons_succ]
                refine wpAnyH_take (i := 9) (oi := { dst := some 26, op := Op.indexAddr 26 (Operand.tmp 25) (Operand.const (Value.int IntKind.i64 0)), type := 0, pos := "merge.go:105", after := #[{ on := 8, ground := Ground.data }, { on := 6, ground := Ground.guard }], guard := some (6, false) }) (v := ?_) rfl (by kernel_rfl) (by kernel_rfl) (by kernel_rfl) (fun _ _ _ h => h) (Or.inl ⟨by rfl, ?_⟩) (by assumption) ?_
                rotate_left
                · intro w hSw; (try dsimp only at hSw); go_simp; try with_reducible rfl
                try simp only [Act.put, List.setIfInBounds_toArray, List.set_cons_zero, List.set_cons_succ]
                refine wpAnyH_take (i := 10) (oi := { dst := some 27, op := Op.load 29 (Operand.tmp 26), type := 29, pos := "merge.go:105", after := #[{ on := 9, ground := Ground.data }, { on := 6, ground := Ground.guard }], guard := some (6, false) }) (v := ?_) rfl (by kernel_rfl) (by kernel_rfl) (by kernel_rfl) (fun _ _ _ h => h) (Or.inl ⟨by rfl, ?_⟩) (by assumption) ?_
                rotate_left
                · intro w hSw; (try dsimp only at hSw); go_simp; try with_reducible rfl
                try simp only [Act.put, List.setIfInBounds_toArray, List.set_cons_zero, List.set_cons_succ]
                refine wpAnyH_take (i := 11) (oi := { dst := some 28, op := Op.move (Operand.tmp 4), type := 22, pos := "merge.go:105", after := #[{ on := 6, ground := Ground.guard }], guard := some (6, false) }) (v := ?_) rfl (by kernel_rfl) (by kernel_rfl) (by kernel_rfl) (fun _ _ _ h => h) (Or.inl ⟨by rfl, ?_⟩) (by assumption) ?_
                rotate_left
                · intro w hSw; (try dsimp only at hSw); go_simp; try with_reducible rfl
                try simp only [Act.put, List.setIfInBounds_toArray, List.set_cons_zero, List.set_cons_succ]
                refine wpAnyH_take (i := 12) (oi := { dst := some 29, op := Op.move (Operand.tmp 5), type := 3, pos := "merge.go:105", after := #[{ on := 6, ground := Ground.guard }], guard := some (6, false) }) (v := ?_) rfl (by kernel_rfl) (by kernel_rfl) (by kernel_rfl) (fun _ _ _ h => h) (Or.inl ⟨by rfl, ?_⟩) (by assumption) ?_
                rotate_left
                · intro w hSw; (try dsimp only at hSw); go_simp; try with_reducible rfl
                try simp only [Act.put, List.setIfInBounds_toArray, List.set_cons_zero, List.set_cons_succ]
                refine wpAnyH_take (i := 13) (oi := { dst := some 30, op := Op.indexAddr 22 (Operand.tmp 28) (Operand.tmp 29), type := 0, pos := "merge.go:105", after := #[{ on := 11, ground := Ground.data }, { on := 12, ground := Ground.data }, { on := 6, ground := Ground.guard }], guard := some (6, false) }) (v := ?_) rfl (by kernel_rfl) (by kernel_rfl) (by kernel_rfl) (fun _ _ _ h => h) (Or.inl ⟨by rfl, ?_⟩) (by assumption) ?_
                rotate_left
                · intro w hSw; (try dsimp only at hSw); go_simp; try with_reducible rfl
                try simp only [Act.put, List.setIfInBounds_toArray, List.set_cons_zero, List.set_cons_succ]
                refine wpAnyH_take (i := 14) (oi := { dst := some 31, op := Op.load 26 (Operand.tmp 30), type := 26, pos := "merge.go:105", after := #[{ on := 13, ground := Ground.data }, { on := 6, ground := Ground.guard }], guard := some (6, false) }) (v := ?_) rfl (by kernel_rfl) (by kernel_rfl) (by kernel_rfl) (fun _ _ _ h => h) (Or.inl ⟨by rfl, ?_⟩) (by assumption) ?_
                rotate_left
                · intro w hSw; (try dsimp only at hSw); go_simp; try with_reducible rfl
                try simp only [Act.put, List.setIfInBounds_toArray, List.set_cons_zero, List.set_cons_succ]
                refine wpAnyH_take (i := 15) (oi := { dst := some 32, op := Op.indexAddr 26 (Operand.tmp 31) (Operand.const (Value.int IntKind.i64 0)), type := 0, pos := "merge.go:105", after := #[{ on := 14, ground := Ground.data }, { on := 6, ground := Ground.guard }], guard := some (6, false) }) (v := ?_) rfl (by kernel_rfl) (by kernel_rfl) (by kernel_rfl) (fun _ _ _ h => h) (Or.inl ⟨by rfl, ?_⟩) (by assumption) ?_
                rotate_left
                · intro w hSw; (try dsimp only at hSw); go_simp; try with_reducible rfl
                try simp only [Act.put, List.setIfInBounds_toArray, List.set_cons_zero, List.set_cons_succ]
                refine wpAnyH_take (i := 16) (oi := { dst := some 33, op := Op.load 29 (Operand.tmp 32), type := 29, pos := "merge.go:105", after := #[{ on := 15, ground := Ground.data }, { on := 6, ground := Ground.guard }], guard := some (6, false) }) (v := ?_) rfl (by kernel_rfl) (by kernel_rfl) (by kernel_rfl) (fun _ _ _ h => h) (Or.inl ⟨by rfl, ?_⟩) (by assumption) ?_
                rotate_left
                · intro w hSw; (try dsimp only at hSw); go_simp; try with_reducible rfl
                try simp only [Act.put, List.setIfInBounds_toArray, List.set_cons_zero, List.set_cons_succ]
                refine wpAnyH_ready (rs := [17]) (by kernel_rfl) (by simp) ?_
                refine AllReadyH.cons (o := { dst := some 34, op := Op.call { callee := Callee.value (Operand.tmp 24), args := #[Operand.tmp 27, Operand.tmp 33], argTypes := #[29, 29] }, type := 3, pos := "merge.go:105", after := #[{ on := 7, ground := Ground.data }, { on := 10, ground := Ground.data }, { on := 16, ground := Ground.data }, { on := 6, ground := Ground.chain }, { on := 6, ground := Ground.guard }], guard := some (6, false) }) rfl (fun K hK => ?_) AllReadyH.nil
                go_simp
                (refine (OC.out _).mono ?_; rintro e w' ⟨rfl, hb⟩; have HBC : Hid (Below wr.heap.size wr w') := Lib.hid (bel_dr hb); clear hb)
                try go_wp2_with fail
                refine hK.out _ _ ?_ (fun hHeld => ?_)
                · first | exact SK.out _ HBC.out | exact SK.out _ (bel_dw (Below.refl _ _))
                clear hK K
                try simp only [Act.put, List.setIfInBounds_toArray, List.set_cons_zero, List.set_cons_succ]
                refine wpAnyH_take (i := 18) (oi := { dst := some 35, op := Op.binOp BinOp.lss 3 (Operand.tmp 34) (Operand.const (Value.int IntKind.i64 0)) 3, type := 4, pos := "merge.go:105", after := #[{ on := 17, ground := Ground.data }, { on := 6, ground := Ground.guard }], guard := some (6, false) }) (v := ?_) rfl (by kernel_rfl) (by kernel_rfl) (by kernel_rfl) (fun _ _ _ h => h) (Or.inl ⟨by rfl, ?_⟩) (by assumption) ?_
                rotate_left
                · intro w hSw; (try dsimp only at hSw); go_simp; try with_reducible rfl
                try simp only [Act.put, List.setIfInBounds_toArray, List.set_cons_zero, List.set_cons_succ]
                refine wpAnyH_take (i := 19) (oi := { dst := some 36, op := Op.pick (Operand.tmp 23) (Operand.const (Value.bool true)) (Operand.tmp 35), type := 4, pos := "merge.go:105", after := #[{ on := 6, ground := Ground.data }, { on := 18, ground := Ground.data }, { on := 3, ground := Ground.guard }], guard := some (3, true) }) (v := ?_) rfl (by kernel_rfl) (by kernel_rfl) (by kernel_rfl) (fun _ _ _ h => h) (Or.inl ⟨by rfl, ?_⟩) (by assumption) ?_
                rotate_left
                · intro w hSw; (try dsimp only at hSw); go_simp; try with_reducible rfl
                try simp only [Act.put, List.setIfInBounds_toArray, List.set_cons_zero, List.set_cons_succ]
                refine wpAnyH_take (i := 20) (oi := { dst := some 37, op := Op.pick (Operand.tmp 20) (Operand.tmp 36) (Operand.const (Value.bool false)), type := 4, pos := "merge.go:105", after := #[{ on := 3, ground := Ground.data }, { on := 19, ground := Ground.data }], guard := none }) (v := ?_) rfl (by kernel_rfl) (by kernel_rfl) (by kernel_rfl) (fun _ _ _ h => h) (Or.inl ⟨by rfl, ?_⟩) (by assumption) ?_
                rotate_left
                · intro w hSw; (try dsimp only at hSw); go_simp; try with_reducible rfl
                try simp only [Act.put, List.setIfInBounds_toArray, List.set_cons_zero, List.set_cons_succ]
                refine wpAnyH_done (by kernel_rfl) ?_ _
                clear hHeld
                gi_wp2
                exact ⟨⟨j + 1, i, by omega, by simp, rfl, HPG.out q1, bel_trans HBQ.out HBC.out⟩, by simp [intOf]; omega⟩
              · skip
                have OC : Hid (∀ U, Calls Try.prog 11 #[.agg #[.int .i64 y0, .int .i64 y1], .agg #[.int .i64 x0, .int .i64 x1]] U fun e w' => e = .returned (.int .i64 (0)) ∧ Below U.heap.size U w') := Lib.hid (fun U => (ord_any (y0, y1) (x0, x1) U).mono (fun e w' h => ⟨by rw [h.1]; simp [ordT, q1, q2], h.2⟩))
                gi_wp2_with fail
                refine wpIn_wide.2 ?_
                refine wp_region_held_drew (S := (fun U => U.cell? ⟨g, j, none⟩ = some (.slice (some ⟨yb, yo, none⟩) (ys.length + 1) cy) ∧ U.cell? ⟨g, i, none⟩ = some (.slice (some ⟨xb, xo, none⟩) (rest.length + 1) cx) ∧ U.cell? ⟨bo, 0, none⟩ = some (.func (.func 11) #[] #[]) ∧ U.cell? ⟨yb, yo, none⟩ = some (.int .i64 y0) ∧ U.cell? ⟨yb, yo + 1, none⟩ = some (.int .i64 y1) ∧ U.cell? ⟨xb, xo, none⟩ = some (.int .i64 x0) ∧ U.cell? ⟨xb, xo + 1, none⟩ = some (.int .i64 x1))) (by kernel_rfl) ?_ (fun hHeld => ?_)
                · first | exact SK.out _ HBC.out | exact SK.out _ (bel_dw (Below.refl _ _))
                refine wpAnyH_take (i := 0) (oi := { dst := some 17, op := Op.move (Operand.tmp 7), type := 26, pos := "merge.go:105", after := #[], guard := none }) (v := ?_) rfl (by kernel_rfl) (by kernel_rfl) (by kernel_rfl) (fun _ _ _ h => h) (Or.inl ⟨by rfl, ?_⟩) (by assumption) ?_
                rotate_left
                · intro w hSw; (try dsimp only at hSw); go_simp; try with_reducible rfl
                try simp only [Act.put, List.setIfInBounds_toArray, List.set_cons_zero, List.set_cons_succ]
                refine wpAnyH_take (i := 1) (oi := { dst := some 18, op := Op.call { callee := Callee.builtin Builtin.len, args := #[Operand.tmp 17], argTypes := #[26] }, type := 3, pos := "merge.go:105", after := #[{ on := 0, ground := Ground.data }], guard := none }) (v := ?_) rfl (by kernel_rfl) (by kernel_rfl) (by kernel_rfl) (fun _ _ _ h => h) (Or.inl ⟨by rfl, ?_⟩) (by assumption) ?_
                rotate_left
                · intro w hSw; (try dsimp only at hSw); go_simp; try with_reducible rfl
                try simp only [Act.put, List.setIfInBounds_toArray, List.set_cons_zero, List.set_cons_succ]
                refine wpAnyH_take (i := 2) (oi := { dst := some 19, op := Op.binOp BinOp.gtr 3 (Operand.tmp 18) (Operand.const (Value.int IntKind.i64 0)) 3, type := 4, pos := "merge.go:105", after := #[{ on := 1, ground := Ground.data }], guard := none }) (v := ?_) rfl (by kernel_rfl) (by kernel_rfl) (by kernel_rfl) (fun _ _ _ h => h) (Or.inl ⟨by rfl, ?_⟩) (by assumption) ?_
                rotate_left
                · intro w hSw; (try dsimp only at hSw); go_simp; try with_reducible rfl
                try simp only [Act.put, List.setIfInBounds_toArray, List.set_cons_zero, List.set_cons_succ]
                refine wpAnyH_take (i := 3) (oi := { dst := some 20, op := Op.move (Operand.tmp 19), type := 4, pos := "merge.go:105", after := #[{ on := 2, ground := Ground.data }], guard := none }) (v := ?_) rfl (by kernel_rfl) (by kernel_rfl) (by kernel_rfl) (fun _ _ _ h => h) (Or.inl ⟨by rfl, ?_⟩) (by assumption) ?_
                rotate_left
                · intro w hSw; (try dsimp only at hSw); go_simp; try with_reducible rfl
                try simp only [Act.put, List.setIfInBounds_toArray, List.set_cons_zero, List.set_cons_succ]
                refine wpAnyH_take (i := 4) (oi := { dst := some 21, op := Op.move (Operand.tmp 5), type := 3, pos := "merge.go:105", after := #[{ on := 3, ground := Ground.guard }], guard := some (3, true) }) (v := ?_) rfl (by kernel_rfl) (by kernel_rfl) (by kernel_rfl) (fun _ _ _ h => h) (Or.inl ⟨by rfl, ?_⟩) (by assumption) ?_
                rotate_left
                · intro w hSw; (try dsimp only at hSw); go_simp; try with_reducible rfl
                try simp only [Act.put, List.setIfInBounds_toArray, List.set_cons_zero, List.set_cons_succ]
                refine wpAnyH_take (i := 5) (oi := { dst := some 22, op := Op.binOp BinOp.lss 3 (Operand.tmp 21) (Operand.const (Value.int IntKind.i64 0)) 3, type := 4, pos := "merge.go:105", after := #[{ on := 4, ground := Ground.data }, { on := 3, ground := Ground.guard }], guard := some (3, true) }) (v := ?_) rfl (by kernel_rfl) (by kernel_rfl) (by kernel_rfl) (fun _ _ _ h => h) (Or.inl ⟨by rfl, ?_⟩) (by assumption) ?_
                rotate_left
                · intro w hSw; (try dsimp only at hSw); go_simp; try with_reducible rfl
                try simp only [Act.put, List.setIfInBounds_toArray, List.set_cons_zero, List.set_cons_succ]
                refine wpAnyH_take (i := 6) (oi := { dst := some 23, op := Op.move (Operand.tmp 22), type := 4, pos := "merge.go:105", after := #[{ on := 5, ground := Ground.data }, { on := 3, ground := Ground.chain }, { on := 3, ground := Ground.guard }], guard := some (3, true) }) (v := ?_) rfl (by kernel_rfl) (by kernel_rfl) (by kernel_rfl) (fun _ _ _ h => h) (Or.inl ⟨by rfl, ?_⟩) (by assumption) ?_
                rotate_left
                · intro w hSw; (try dsimp only at hSw); go_simp; try with_reducible rfl
                try simp only [Act.put, List.setIfInBounds_toArray, List.set_cons_zero, List.set_cons_succ]
                refine wpAnyH_take (i := 7) (oi := { dst := some 24, op := Op.load 33 (Operand.tmp 2), type := 33, pos := "merge.go:105", after := #[{ on := 6, ground := Ground.guard }], guard := some (6, false) }) (v := ?_) rfl (by kernel_rfl) (by kernel_rfl) (by kernel_rfl) (fun _ _ _ h => h) (Or.inl ⟨by rfl, ?_⟩) (by assumption) ?_
                rotate_left
                · intro w hSw; (try dsimp only at hSw); go_simp; try with_reducible rfl
                try simp only [Act.put, List.setIfInBounds_toArray, List.set_cons_zero, List.set_cons_succ]
                refine wpAnyH_take (i := 8) (oi := { dst := some 25, op := Op.move (Operand.tmp 7), type := 26, pos := "merge.go:105", after := #[{ on := 6, ground := Ground.guard }], guard := some (6, false) }) (v := ?_) rfl (by kernel_rfl) (by kernel_rfl) (by kernel_rfl) (fun _ _ _ h => h) (Or.inl ⟨by rfl, ?_⟩) (by assumption) ?_
                rotate_left
                · intro w hSw; (try dsimp only at hSw); go_simp; try with_reducible rfl
                try simp only [Act.put, List.setIfInBounds_toArray, List.set_cons_zero, List.set_cons_succ]
                refine wpAnyH_take (i := 9) (oi := { dst := some 26, op := Op.indexAddr 26 (Operand.tmp 25) (Operand.const (Value.int IntKind.i64 0)), type := 0, pos := "merge.go:105", after := #[{ on := 8, ground := Ground.data }, { on := 6, ground := Ground.guard }], guard := some (6, false) }) (v := ?_) rfl (by kernel_rfl) (by kernel_rfl) (by kernel_rfl) (fun _ _ _ h => h) (Or.inl ⟨by rfl, ?_⟩) (by assumption) ?_
                rotate_left
                · intro w hSw; (try dsimp only at hSw); go_simp; try with_reducible rfl
                try simp only [Act.put, List.setIfInBounds_toArray, List.set_cons_zero, List.set_cons_succ]
                refine wpAnyH_take (i := 10) (oi := { dst := some 27, op := Op.load 29 (Operand.tmp 26), type := 29, pos := "merge.go:105", after := #[{ on := 9, ground := Ground.data }, { on := 6, ground := Ground.guard }], guard := some (6, false) }) (v := ?_) rfl (by kernel_rfl) (by kernel_rfl) (by kernel_rfl) (fun _ _ _ h => h) (Or.inl ⟨by rfl, ?_⟩) (by assumption) ?_
                rotate_left
                · intro w hSw; (try dsimp only at hSw); go_simp; try with_reducible rfl
                try simp only [Act.put, List.setIfInBounds_toArray, List.set_cons_zero, List.set_cons_succ]
                refine wpAnyH_take (i := 11) (oi := { dst := some 28, op := Op.move (Operand.tmp 4), type := 22, pos := "merge.go:105", after := #[{ on := 6, ground := Ground.guard }], guard := some (6, false) }) (v := ?_) rfl (by kernel_rfl) (by kernel_rfl) (by kernel_rfl) (fun _ _ _ h => h) (Or.inl ⟨by rfl, ?_⟩) (by assumption) ?_
                rotate_left
                · intro w hSw; (try dsimp only at hSw); go_simp; try with_reducible rfl
                try simp only [Act.put, List.setIfInBounds_toArray, List.set_cons_zero, List.set_cons_succ]
                refine wpAnyH_take (i := 12) (oi := { dst := some 29, op := Op.move (Operand.tmp 5), type := 3, pos := "merge.go:105", after := #[{ on := 6, ground := Ground.guard }], guard := some (6, false) }) (v := ?_) rfl (by kernel_rfl) (by kernel_rfl) (by kernel_rfl) (fun _ _ _ h => h) (Or.inl ⟨by rfl, ?_⟩) (by assumption) ?_
                rotate_left
                · intro w hSw; (try dsimp only at hSw); go_simp; try with_reducible rfl
                try simp only [Act.put, List.setIfInBounds_toArray, List.set_cons_zero, List.set_cons_succ]
                refine wpAnyH_take (i := 13) (oi := { dst := some 30, op := Op.indexAddr 22 (Operand.tmp 28) (Operand.tmp 29), type := 0, pos := "merge.go:105", after := #[{ on := 11, ground := Ground.data }, { on := 12, ground := Ground.data }, { on := 6, ground := Ground.guard }], guard := some (6, false) }) (v := ?_) rfl (by kernel_rfl) (by kernel_rfl) (by kernel_rfl) (fun _ _ _ h => h) (Or.inl ⟨by rfl, ?_⟩) (by assumption) ?_
                rotate_left
                · intro w hSw; (try dsimp only at hSw); go_simp; try with_reducible rfl
                try simp only [Act.put, List.setIfInBounds_toArray, List.set_cons_zero, List.set_cons_succ]
                refine wpAnyH_take (i := 14) (oi := { dst := some 31, op := Op.load 26 (Operand.tmp 30), type := 26, pos := "merge.go:105", after := #[{ on := 13, ground := Ground.data }, { on := 6, ground := Ground.guard }], guard := some (6, false) }) (v := ?_) rfl (by kernel_rfl) (by kernel_rfl) (by kernel_rfl) (fun _ _ _ h => h) (Or.inl ⟨by rfl, ?_⟩) (by assumption) ?_
                rotate_left
                · intro w hSw; (try dsimp only at hSw); go_simp; try with_reducible rfl
                try simp only [Act.put, List.setIfInBounds_toArray, List.set_cons_zero, List.set_cons_succ]
                refine wpAnyH_take (i := 15) (oi := { dst := some 32, op := Op.indexAddr 26 (Operand.tmp 31) (Operand.const (Value.int IntKind.i64 0)), type := 0, pos := "merge.go:105", after := #[{ on := 14, ground := Ground.data }, { on := 6, ground := Ground.guard }], guard := some (6, false) }) (v := ?_) rfl (by kernel_rfl) (by kernel_rfl) (by kernel_rfl) (fun _ _ _ h => h) (Or.inl ⟨by rfl, ?_⟩) (by assumption) ?_
                rotate_left
                · intro w hSw; (try dsimp only at hSw); go_simp; try with_reducible rfl
                try simp only [Act.put, List.setIfInBounds_toArray, List.set_cons_zero, List.set_cons_succ]
                refine wpAnyH_take (i := 16) (oi := { dst := some 33, op := Op.load 29 (Operand.tmp 32), type := 29, pos := "merge.go:105", after := #[{ on := 15, ground := Ground.data }, { on := 6, ground := Ground.guard }], guard := some (6, false) }) (v := ?_) rfl (by kernel_rfl) (by kernel_rfl) (by kernel_rfl) (fun _ _ _ h => h) (Or.inl ⟨by rfl, ?_⟩) (by assumption) ?_
                rotate_left
                · intro w hSw; (try dsimp only at hSw); go_simp; try with_reducible rfl
                try simp only [Act.put, List.setIfInBounds_toArray, List.set_cons_zero, List.set_cons_succ]
                refine wpAnyH_ready (rs := [17]) (by kernel_rfl) (by simp) ?_
                refine AllReadyH.cons (o := { dst := some 34, op := Op.call { callee := Callee.value (Operand.tmp 24), args := #[Operand.tmp 27, Operand.tmp 33], argTypes := #[29, 29] }, type := 3, pos := "merge.go:105", after := #[{ on := 7, ground := Ground.data }, { on := 10, ground := Ground.data }, { on := 16, ground := Ground.data }, { on := 6, ground := Ground.chain }, { on := 6, ground := Ground.guard }], guard := some (6, false) }) rfl (fun K hK => ?_) AllReadyH.nil
                go_simp
                (refine (OC.out _).mono ?_; rintro e w' ⟨rfl, hb⟩; have HBC : Hid (Below wr.heap.size wr w') := Lib.hid (bel_dr hb); clear hb)
                try go_wp2_with fail
                refine hK.out _ _ ?_ (fun hHeld => ?_)
                · first | exact SK.out _ HBC.out | exact SK.out _ (bel_dw (Below.refl _ _))
                clear hK K
                try simp only [Act.put, List.setIfInBounds_toArray, List.set_cons_zero, List.set_cons_succ]
                refine wpAnyH_take (i := 18) (oi := { dst := some 35, op := Op.binOp BinOp.lss 3 (Operand.tmp 34) (Operand.const (Value.int IntKind.i64 0)) 3, type := 4, pos := "merge.go:105", after := #[{ on := 17, ground := Ground.data }, { on := 6, ground := Ground.guard }], guard := some (6, false) }) (v := ?_) rfl (by kernel_rfl) (by kernel_rfl) (by kernel_rfl) (fun _ _ _ h => h) (Or.inl ⟨by rfl, ?_⟩) (by assumption) ?_
                rotate_left
                · intro w hSw; (try dsimp only at hSw); go_simp; try with_reducible rfl
                try simp only [Act.put, List.setIfInBounds_toArray, List.set_cons_zero, List.set_cons_succ]
                refine wpAnyH_take (i := 19) (oi := { dst := some 36, op := Op.pick (Operand.tmp 23) (Operand.const (Value.bool true)) (Operand.tmp 35), type := 4, pos := "merge.go:105", after := #[{ on := 6, ground := Ground.data }, { on := 18, ground := Ground.data }, { on := 3, ground := Ground.guard }], guard := some (3, true) }) (v := ?_) rfl (by kernel_rfl) (by kernel_rfl) (by kernel_rfl) (fun _ _ _ h => h) (Or.inl ⟨by rfl, ?_⟩) (by assumption) ?_
                rotate_left
                · intro w hSw; (try dsimp only at hSw); go_simp; try with_reducible rfl
                try simp only [Act.put, List.setIfInBounds_toArray, List.set_cons_zero, List.set_cons_succ]
                refine wpAnyH_take (i := 20) (oi := { dst := some 37, op := Op.pick (Operand.tmp 20) (Operand.tmp 36) (Operand.const (Value.bool false)), type := 4, pos := "merge.go:105", after := #[{ on := 3, ground := Ground.data }, { on := 19, ground := Ground.data }], guard := none }) (v := ?_) rfl (by kernel_rfl) (by kernel_rfl) (by kernel_rfl) (fun _ _ _ h => h) (Or.inl ⟨by rfl, ?_⟩) (by assumption) ?_
                rotate_left
                · intro w hSw; (try dsimp only at hSw); go_simp; try with_reducible rfl
                try simp only [Act.put, List.setIfInBounds_toArray, List.set_cons_zero, List.set_cons_succ]
                refine wpAnyH_done (by kernel_rfl) ?_ _
                clear hHeld
                gi_wp2
                exact ⟨⟨j + 1, i, by omega, by simp, rfl, HPG.out q1, bel_trans HBQ.out HBC.out⟩, by simp [intOf]; omega⟩
      · have i1 : ¬ (j : Int) < (rs.length : Int) := by omega
        obtain rfl : j = rs.length := by omega
        have gE : W.heap.size ≤ g := (HM.out.own.lt g rfl).1
        have JW : J k E wr := HJ.out.bel HM.out.j HBQ.out
        have GW : Gr D E W wr := gr_up HM.out.gr HBQ.out.size
        have CW : Chg D W wr := HM.out.ch.trans (Chg.of_below (D := fun _ => False) HBQ.out) (fun g hg => hg.elim)
        have OW := own_bel HM.out.own HBQ.out
        have hpl := HP.out
        rw [← HM.out.len] at hpl
        rcases pick_cases HP.out with rfl | ⟨i, x, rest, rfl, hij, hx⟩
        · have ek : k = (sortL [] rs.flatten).length := by
            have h1 := HM.out.left
            rw [pick_none hpl] at h1
            have h2 := congrArg List.length h1
            rw [List.length_drop] at h2
            have h3 := HM.out.kx
            have h4 : (sortL [] ([] : List TT)).length = 0 := rfl
            rw [h4] at h2
            omega
          have EK := Lib.hid ek
          have FIN : Hid (SeqPost (sortL [] rs.flatten).length J Jx D W wr) := Lib.hid ⟨E, GW, CW, .inl (by rw [← ek]; exact JW)⟩
          clear ek JW GW CW OW hpl
          gi_wp2
          refine ⟨fun f h => (by cases h), ?_⟩
          gi_wp2
          refine bodyPost_ret (results_none rfl _ _ _) rfl ?_
          exact ⟨⟨_, rfl⟩, FIN.out⟩
        · obtain ⟨x', rest', hpk⟩ := pick_all hpl
          obtain ⟨rfl, rfl⟩ : x' = x ∧ rest' = rest := by have h := hpk.1.symm.trans hx; simpa using h
          have hps := picked_sort HM.out.srt hpk
          have hxk : (sortL [] rs.flatten)[k]? = some x' := by
            have h1 := HM.out.left
            rw [hps] at h1
            have h2 := congrArg (fun z : List TT => z[0]?) h1
            simpa using h2
          have hleft : (sortL [] rs.flatten).drop (k + 1) = sortL [] (qs.set i rest').flatten := by
            have h1 := HM.out.left
            rw [hps] at h1
            rw [← List.drop_drop, h1]; rfl
          obtain ⟨u2, hu2, Ax, cx, rfl, hcx1, hcx2, hrx⟩ := HM.out.sls.2 i _ hx
          obtain ⟨x0, x1⟩ := x'
          simp only [List.length_cons] at hcx1
          obtain ⟨xb, xo, rfl, hxl, fx0, fx1, hs1, hs2⟩ := Sl.tail hrx hcx1 hcx2
          have hb0 : Below w0.heap.size w0 wr := HB.out.trans (HM.out.ch.below HD.out HB.out.size) |>.trans (HBQ.out.mono (by have := HB.out.size; have := HM.out.ch.size; omega))
          have gx : wr.cell? ⟨g, i, none⟩ = some (.slice (some ⟨xb, xo, none⟩) (rest'.length + 1) cx) := (OW.cellAt i (by omega)).trans hu2
          have g0 : wr.cell? ⟨xb, xo, none⟩ = some (.int .i64 x0) := (bel_cell hb0 hxl).trans fx0
          have g1 : wr.cell? ⟨xb, xo + 1, none⟩ = some (.int .i64 x1) := (bel_cell hb0 hxl).trans fx1
          obtain ⟨fn, tmps, assign, body, hy, hRd⟩ := HY.out 2 k (x0, x1) E wr hxk JW (HI.out.gr GW CW.size)
          have HRD := Lib.hid hRd
          simp only [enc] at hy
          have i2 : (i : Int) < (rs.length : Int) := by omega
          have i3 : (0 : Int) ≤ (i : Int) := by omega
          have HX := Lib.hid hx
          have HXK : Hid (k < (sortL [] rs.flatten).length) := Lib.hid (List.getElem?_eq_some_iff.1 hxk).1
          have HLF := Lib.hid hleft
          have HU2 := Lib.hid hu2
          have HGW := Lib.hid GW
          have HCW := Lib.hid CW
          have HOW := Lib.hid OW
          have HS1 := Lib.hid hs1
          have HS2 := Lib.hid hs2
          have HWS : Hid (wr.heap.size ≥ V.heap.size) := Lib.hid HBQ.out.size
          clear hRd hxk hps hpk hpl JW GW CW OW hx hu2 hleft hs1 hs2 hrx fx0 fx1 hb0
          gi_wp2
          refine HRD.out.mono ?_
          rintro e W3 ⟨E2, hg2, hc2, (⟨rfl, hj⟩ | ⟨rfl, hj⟩)⟩
          · have HG := Lib.hid (gc_step HGW.out HCW.out (Below.refl _ _) hg2 hc2)
            have hO3 := own_chg HOW.out hc2 (fun q e => by simp [Value.ownBlock] at e; rw [← e]; exact HM.out.ne)
            have n2 : Hid (¬ E2 g) := Lib.hid (gr_not hg2 HM.out.ne (HOW.out.lt g rfl).2)
            have gx3 : W3.cell? ⟨g, i, none⟩ = some (.slice (some ⟨xb, xo, none⟩) (rest'.length + 1) cx) := (hO3.cellAt i (by omega)).trans HU2.out
            have fx3 := hO3.frozenAt i
            have HO3 := Lib.hid hO3
            have HJ3 := Lib.hid hj
            clear hg2 hc2 hj hO3
            by_cases hc1 : cx = 1
            · subst hc1
              have e0 : rest'.length = 0 := by omega
              have fin := mgI_next HM.out HX.out HU2.out HXK.out HLF.out HJ.out HG.out HO3.out n2.out HJ3.out gE (HS2.out rfl) rfl
              rw [e0] at fin
              have FIN := Lib.hid fin
              clear fin e0
              gi_wp2
              exact ⟨⟨k + 1, E2, _, _, FIN.out.2⟩, FIN.out.1⟩
            · have hc2 : 1 < cx := by omega
              have FIN : Hid (leftN g rs.length (W3.setCell ⟨g, i, none⟩ (.slice (some ⟨xb, xo + 2, none⟩) rest'.length (cx - 1))) < leftN g rs.length V ∧ MgI J w0 W D (sortL [] rs.flatten) rs.length g cg (k + 1) E2 (qs.set i rest') (us.set i (.slice (some ⟨xb, xo + 2, none⟩) rest'.length (cx - 1))) (W3.setCell ⟨g, i, none⟩ (.slice (some ⟨xb, xo + 2, none⟩) rest'.length (cx - 1)))) :=
                Lib.hid (mgI_next HM.out HX.out HU2.out HXK.out HLF.out HJ.out HG.out HO3.out n2.out HJ3.out gE HS1.out rfl)
              gi_wp2
              exact ⟨⟨k + 1, E2, _, _, FIN.out.2⟩, FIN.out.1⟩
          · have HG := Lib.hid (gc_step HGW.out HCW.out (Below.refl _ _) hg2 hc2)
            have HJ3 := Lib.hid hj
            clear hg2 hc2 hj
            gi_wp2
            refine bodyPost_ret (results_none rfl _ _ _) rfl ?_
            exact ⟨⟨_, rfl⟩, E2, HG.out.1, HG.out.2, .inr ⟨k + 1, HXK.out, HJ3.out⟩⟩
theorem merge_any (A : Addr) (m c : Nat) (rs : List (List TT)) (vs : List Value) (hl : rs.length = m) (hm : m ≤ 1000) (w : World) (hR : Rd w w.heap.size (some A) vs) (hS : Sls w vs rs) (hs : ∀ l ∈ rs, Srt l) :
    Calls Try.prog 10 #[.func (.func 11) #[] #[], .slice (some A) m c] w (SeqBack Try.prog 33 w (sortL [] rs.flatten)) := by
  subst hl
  have hb : Below w.heap.size w ((w.alloc (.cells #[.func (.func 11) #[] #[]] 33)).alloc (.cells #[.slice (some A) rs.length c] 22)) := bel_alloc (bel_alloc (Below.refl _ _) _) _
  have S := Lib.hid (merge_seq (w.heap.size + 1) w.heap.size A c rs vs hm ((w.alloc (.cells #[.func (.func 11) #[] #[]] 33)).alloc (.cells #[.slice (some A) rs.length c] 22)) (by simpa only [World.size_alloc] using Boxed.new (w.alloc (.cells #[.func (.func 11) #[] #[]] 33)) 22 (.slice (some A) rs.length c)) ((Boxed.new w 33 (.func (.func 11) #[] #[])).alloc _) (Rd.later hR hb) (hS.later hb) hs)
  have HB := Lib.hid hb
  clear hb hR hS hs
  go_enter Try.func10, Try.ntmps10
  go_wp2
  exact bodyPost_ret (v := .func (.func 33) #[] #[.pointer (some ⟨w.heap.size + 1, 0, none⟩), .pointer (some ⟨w.heap.size, 0, none⟩)]) (by simp [results, Try.results10, go_sem]) rfl ⟨_, rfl, HB.out, S.out⟩
end Go.Proofs.Ytpijaphcknoobaa
