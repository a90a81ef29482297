/- Both: each pair of things alike. -/
import Derived.Test.YtpijaphcknoobaaV2
namespace Go.Proofs.Ytpijaphcknoobaa
set_option linter.unusedSimpArgs false
open Go.RowKit Go.Shelf
set_option linter.unusedVariables false
attribute [local go_sem] Oper.semAt_some

abbrev enc2 (p : TT × TT) : Array Value := #[.agg #[.int .i64 p.1.1, .int .i64 p.1.2], .agg #[.int .i64 p.2.1, .int .i64 p.2.2]]
set_option maxRecDepth 100000 in
set_option maxHeartbeats 8000000 in
theorem both_seq (ba bb bo : Nat) (A B : Option Addr) (na nb ca cb : Nat) (a b : List TT) (hla : a.length = na) (hlb : b.length = nb) (hna : na ≤ 20) (hnb : nb ≤ 20) (hcb : nb ≤ cb) (hcm : cb ≤ maxLen) (hBn : B = none → cb = 0) (w0 : World)
    (hba : Boxed w0 ba 26 (.slice A na ca)) (hbb : Boxed w0 bb 26 (.slice B nb cb)) (hbo : Boxed w0 bo 33 (.func (.func 11) #[] #[])) (hRA : RdT w0 A a) (hRB : RdT w0 B b) (hsa : Srt a) (hsb : Srt b) :
    SeqF Try.prog 38 #[.pointer (some ⟨ba, 0, none⟩), .pointer (some ⟨bb, 0, none⟩), .pointer (some ⟨bo, 0, none⟩)] enc2 (bothL a b) w0 := by
  intro l J Jx W D hb hD hin hJ hJx hY h0
  refine (callsIn_wide (n := 3)).1 ?_
  have c1 := (boxed_later hba hb).cell
  have KB : Hid (∀ V, Chg D W V → V.cell? ⟨bb, 0, none⟩ = some (.slice B nb cb) ∧ V.cell? ⟨bo, 0, none⟩ = some (.func (.func 11) #[] #[])) := Lib.hid (fun V hV => ⟨(boxed_chg (boxed_later hbb hb) hV (fun h => by have := hD _ h; have := hbb.lt; omega)).cell, (boxed_chg (boxed_later hbo hb) hV (fun h => by have := hD _ h; have := hbo.lt; omega)).cell⟩)
  have KA : Hid (∀ V, Chg D W V → RdT V A a ∧ RdT V B b) := Lib.hid (fun V hV => ⟨Rd.later hRA (hb.trans (hV.below hD hb.size)), Rd.later hRB (hb.trans (hV.below hD hb.size))⟩)
  have HLA := Lib.hid hla
  have HLB := Lib.hid hlb
  have HSA := Lib.hid hsa
  have HSB := Lib.hid hsb
  have HBN := Lib.hid hBn
  have HB := Lib.hid hb
  have HD := Lib.hid hD
  have HJ := Lib.hid hJ
  have HJX := Lib.hid hJx
  have HY := Lib.hid hY
  have H0 := Lib.hid h0
  have HI := Lib.hid hin
  have hcb9 : cb ≤ 9223372036854775807 := Nat.le_trans hcm (by decide)
  clear hba hbb hbo hRA hRB hsa hsb hb hD hJ hJx hY h0 hin hla hlb hBn hcm
  refine callsIn_of_wp Try.func38 rfl trivial ?_ rfl
  simp only [Try.ntmps38, List.size_toArray, List.length_cons, List.length_nil, Nat.reduceAdd, Nat.reduceSub, Array.replicate_succ, Array.replicate_zero, List.push_toArray, List.append_toArray, List.nil_append, List.cons_append]
  gi_wp2
  gi_loopw [5, 12] (fun fv iv wr => ∃ (i f : Nat) (E : Nat → Prop), i ≤ na ∧ f ≤ nb ∧ iv = .int .i64 i ∧ fv = .int .i64 f ∧ (∀ (j : Nat) (y : TT) (i' : Nat) (x : TT), j < f → b[j]? = some y → i ≤ i' → a[i']? = some x → y.1 < x.1) ∧ J (bothL (a.take i) b).length E wr ∧ Gr D E W wr ∧ Chg D W wr) (fun _ iv _ => na - (intOf iv).toNat)
  case atStart => exact ⟨0, 0, D, Nat.zero_le _, Nat.zero_le _, rfl, rfl, fun j y i' x h => by omega, H0.out, Gr.refl _ _ _, Chg.refl _ _⟩
  case round =>
    obtain ⟨i, f, E, hi, hf, rfl, rfl, hbel, hj, hgr, hch⟩ := hrel
    have HBEL := Lib.hid hbel
    have HGR := Lib.hid hgr
    have HCH := Lib.hid hch
    have HJK := Lib.hid hj
    clear hbel hgr hch hj
    by_cases hlt : i < na
    · obtain ⟨x, hx⟩ : ∃ x, a[i]? = some x := ⟨_, List.getElem?_eq_getElem (by rw [HLA.out]; exact hlt)⟩
      obtain ⟨bA, oA, rfl, hAl, g0, g1⟩ := rdt_get (KA.out wr HCH.out).1 hx
      have i1 : (i : Int) < (na : Int) := by omega
      have i0 : (0 : Int) ≤ (i : Int) := by omega
      have i9 : (i : Int) ≤ 20 := by omega
      have HX := Lib.hid hx
      have BELX : Hid (∀ (j : Nat) (y : TT), j < f → b[j]? = some y → y.1 < x.1) := Lib.hid (fun j y h1 h2 => HBEL.out j y i x h1 h2 (Nat.le_refl _) hx)
      obtain ⟨x0, x1⟩ := x
      simp only at g0 g1
      obtain ⟨V0, hV0⟩ : ∃ V0, V0 = wr := ⟨_, rfl⟩
      subst hV0
      obtain ⟨V, hVe⟩ : ∃ V, V = V0.alloc (kv (x0, x1)) := ⟨_, rfl⟩
      have hV : Below V0.heap.size V0 V := by rw [hVe]; exact bel_alloc (Below.refl _ _) _
      have hVx : V.heap[V0.heap.size]? = some (.cells #[.int .i64 x0, .int .i64 x1] 29 (0, 0)) := by rw [hVe]; exact World.alloc_heap_new V0 _
      have HV := Lib.hid hV
      have HVX := Lib.hid hVx
      have HCV : Hid (Chg D W V) := Lib.hid (HCH.out.trans (Chg.of_below (D := fun _ => False) hV) (fun g h => h.elim))
      have HJV : Hid (J (bothL (a.take i) b).length E V) := Lib.hid (HJ.out.bel HJK.out hV)
      have HGV : Hid (Gr D E W V) := Lib.hid (gr_up HGR.out hV.size)
      have NX : Hid (¬ E V0.heap.size) := Lib.hid (fun h => by have := (HI.out.gr HGR.out HCH.out.size) _ h; omega)
      have HVE := Lib.hid hVe
      clear hx hV hVx hAl hVe
      gi_wp2
      gi_loopw [5] (fun fv wq => ∃ f2 : Nat, f2 ≤ nb ∧ fv = .int .i64 f2 ∧ (∀ (j : Nat) (y : TT), j < f2 → b[j]? = some y → y.1 < x0) ∧ Below V.heap.size V wq) (fun fv _ => nb - (intOf fv).toNat)
      case atStart => exact ⟨f, hf, rfl, BELX.out, by rw [HVE.out]; exact Below.refl _ _⟩
      case round =>
        obtain ⟨f2, hf2, rfl, hb2, hbq⟩ := hrel
        have HB2 := Lib.hid hb2
        have HBQ := Lib.hid hbq
        have f29 : (f2 : Int) ≤ 20 := by omega
        have cw : Chg D W wr := HCV.out.trans (Chg.of_below (D := fun _ => False) hbq) (fun g h => h.elim)
        have CW := Lib.hid cw
        have cbb := (KB.out wr cw).1
        have cbo := (KB.out wr cw).2
        have cx0 : wr.cell? ⟨V0.heap.size, 0, none⟩ = some (.int .i64 x0) := bel_later hbq (cell_at HVX.out 0)
        have cx1 : wr.cell? ⟨V0.heap.size, 1, none⟩ = some (.int .i64 x1) := bel_later hbq (cell_at HVX.out 1)
        clear hb2 hbq cw
        by_cases hfn : f2 < nb
        · obtain ⟨z, hz⟩ : ∃ z, b[f2]? = some z := ⟨_, List.getElem?_eq_getElem (by rw [HLB.out]; exact hfn)⟩
          obtain ⟨bB, oB, rfl, hBl, z0, z1⟩ := rdt_get (KA.out wr CW.out).2 hz
          have f21 : (f2 : Int) < (nb : Int) := by omega
          have f20 : (0 : Int) ≤ (f2 : Int) := by omega
          have HZ := Lib.hid hz
          obtain ⟨z0', z1'⟩ := z
          simp only at z0 z1
          clear hz hBl
          have SK : Hid (∀ U, Below wr.heap.size wr U → U.cell? ⟨bb, 0, none⟩ = some (.slice (some ⟨bB, oB, none⟩) nb cb) ∧ U.cell? ⟨bo, 0, none⟩ = some (.func (.func 11) #[] #[]) ∧ U.cell? ⟨bB, oB + f2 * 2, none⟩ = some (.int .i64 z0') ∧ U.cell? ⟨bB, oB + f2 * 2 + 1, none⟩ = some (.int .i64 z1') ∧ U.cell? ⟨V0.heap.size, 0, none⟩ = some (.int .i64 x0) ∧ U.cell? ⟨V0.heap.size, 1, none⟩ = some (.int .i64 x1)) := Lib.hid (fun U hU => ⟨bel_later hU cbb, bel_later hU cbo, bel_later hU z0, bel_later hU z1, bel_later hU cx0, bel_later hU cx1⟩)
          by_cases q1 : z0' < x0
          · skip
            have OC : Hid (∀ U, Calls Try.prog 11 #[.agg #[.int .i64 z0', .int .i64 z1'], .agg #[.int .i64 x0, .int .i64 x1]] U fun e w' => e = .returned (.int .i64 (-1)) ∧ Below U.heap.size U w') := Lib.hid (fun U => (ord_any (z0', z1') (x0, x1) U).mono (fun e w' h => ⟨by rw [h.1]; simp [ordT, q1], h.2⟩))
            gi_wp2_with fail
            refine wpIn_wide.2 ?_
            refine wp_region_held_drew (S := (fun U => U.cell? ⟨bb, 0, none⟩ = some (.slice (some ⟨bB, oB, none⟩) nb cb) ∧ U.cell? ⟨bo, 0, none⟩ = some (.func (.func 11) #[] #[]) ∧ U.cell? ⟨bB, oB + f2 * 2, none⟩ = some (.int .i64 z0') ∧ U.cell? ⟨bB, oB + f2 * 2 + 1, none⟩ = some (.int .i64 z1') ∧ U.cell? ⟨V0.heap.size, 0, none⟩ = some (.int .i64 x0) ∧ U.cell? ⟨V0.heap.size, 1, none⟩ = some (.int .i64 x1))) (by kernel_rfl) ?_ (fun hHeld => ?_)
            · first | exact SK.out _ HBC.out | exact SK.out _ (bel_dw (Below.refl _ _))
            refine wpAnyH_take (i := 0) (oi := { dst := some 16, op := Op.move (Operand.tmp 5), type := 3, pos := "merge.go:136", after := #[], guard := none }) (v := ?_) rfl (by kernel_rfl) (by kernel_rfl) (by kernel_rfl) (fun _ _ _ h => h) (Or.inl ⟨by rfl, ?_⟩) (by assumption) ?_
            rotate_left
            · intro w hSw; (try dsimp only at hSw); go_simp; try with_reducible rfl
            try simp only [Act.put, List.setIfInBounds_toArray, List.set_cons_zero, List.set_cons_succ]
            refine wpAnyH_take (i := 1) (oi := { dst := some 17, op := Op.load 26 (Operand.tmp 2), type := 26, pos := "merge.go:136", after := #[], guard := none }) (v := ?_) rfl (by kernel_rfl) (by kernel_rfl) (by kernel_rfl) (fun _ _ _ h => h) (Or.inl ⟨by rfl, ?_⟩) (by assumption) ?_
            rotate_left
            · intro w hSw; (try dsimp only at hSw); go_simp; try with_reducible rfl
            try simp only [Act.put, List.setIfInBounds_toArray, List.set_cons_zero, List.set_cons_succ]
            refine wpAnyH_take (i := 2) (oi := { dst := some 18, op := Op.call { callee := Callee.builtin Builtin.len, args := #[Operand.tmp 17], argTypes := #[26] }, type := 3, pos := "merge.go:136", after := #[{ on := 1, ground := Ground.data }], guard := none }) (v := ?_) rfl (by kernel_rfl) (by kernel_rfl) (by kernel_rfl) (fun _ _ _ h => h) (Or.inl ⟨by rfl, ?_⟩) (by assumption) ?_
            rotate_left
            · intro w hSw; (try dsimp only at hSw); go_simp; try with_reducible rfl
            try simp only [Act.put, List.setIfInBounds_toArray, List.set_cons_zero, List.set_cons_succ]
            refine wpAnyH_take (i := 3) (oi := { dst := some 19, op := Op.binOp BinOp.lss 3 (Operand.tmp 16) (Operand.tmp 18) 3, type := 4, pos := "merge.go:136", after := #[{ on := 0, ground := Ground.data }, { on := 2, ground := Ground.data }], guard := none }) (v := ?_) rfl (by kernel_rfl) (by kernel_rfl) (by kernel_rfl) (fun _ _ _ h => h) (Or.inl ⟨by rfl, ?_⟩) (by assumption) ?_
            rotate_left
            · intro w hSw; (try dsimp only at hSw); go_simp; try with_reducible rfl
            try simp only [Act.put, List.setIfInBounds_toArray, List.set_cons_zero, List.set_cons_succ]
            refine wpAnyH_take (i := 4) (oi := { dst := some 20, op := Op.move (Operand.tmp 19), type := 4, pos := "merge.go:136", after := #[{ on := 3, ground := Ground.data }], guard := none }) (v := ?_) rfl (by kernel_rfl) (by kernel_rfl) (by kernel_rfl) (fun _ _ _ h => h) (Or.inl ⟨by rfl, ?_⟩) (by assumption) ?_
            rotate_left
            · intro w hSw; (try dsimp only at hSw); go_simp; try with_reducible rfl
            try simp only [Act.put, List.setIfInBounds_toArray, List.set_cons_zero, List.set_cons_succ]
            refine wpAnyH_take (i := 5) (oi := { dst := some 21, op := Op.load 33 (Operand.tmp 3), type := 33, pos := "merge.go:136", after := #[{ on := 4, ground := Ground.guard }], guard := some (4, true) }) (v := ?_) rfl (by kernel_rfl) (by kernel_rfl) (by kernel_rfl) (fun _ _ _ h => h) (Or.inl ⟨by rfl, ?_⟩) (by assumption) ?_
            rotate_left
            · intro w hSw; (try dsimp only at hSw); go_simp; try with_reducible rfl
            try simp only [Act.put, List.setIfInBounds_toArray, List.set_cons_zero, List.set_cons_succ]
            refine wpAnyH_take (i := 6) (oi := { dst := some 22, op := Op.load 26 (Operand.tmp 2), type := 26, pos := "merge.go:136", after := #[{ on := 4, ground := Ground.guard }], guard := some (4, true) }) (v := ?_) rfl (by kernel_rfl) (by kernel_rfl) (by kernel_rfl) (fun _ _ _ h => h) (Or.inl ⟨by rfl, ?_⟩) (by assumption) ?_
            rotate_left
            · intro w hSw; (try dsimp only at hSw); go_simp; try with_reducible rfl
            try simp only [Act.put, List.setIfInBounds_toArray, List.set_cons_zero, List.set_cons_succ]
            refine wpAnyH_take (i := 7) (oi := { dst := some 23, op := Op.move (Operand.tmp 5), type := 3, pos := "merge.go:136", after := #[{ on := 4, ground := Ground.guard }], guard := some (4, true) }) (v := ?_) rfl (by kernel_rfl) (by kernel_rfl) (by kernel_rfl) (fun _ _ _ h => h) (Or.inl ⟨by rfl, ?_⟩) (by assumption) ?_
            rotate_left
            · intro w hSw; (try dsimp only at hSw); go_simp; try with_reducible rfl
            try simp only [Act.put, List.setIfInBounds_toArray, List.set_cons_zero, List.set_cons_succ]
            refine wpAnyH_take (i := 8) (oi := { dst := some 24, op := Op.indexAddr 26 (Operand.tmp 22) (Operand.tmp 23), type := 0, pos := "merge.go:136", after := #[{ on := 6, ground := Ground.data }, { on := 7, ground := Ground.data }, { on := 4, ground := Ground.guard }], guard := some (4, true) }) (v := ?_) rfl (by kernel_rfl) (by kernel_rfl) (by kernel_rfl) (fun _ _ _ h => h) (Or.inl ⟨by rfl, ?_⟩) (by assumption) ?_
            rotate_left
            · intro w hSw; (try dsimp only at hSw); go_simp; try with_reducible rfl
            try simp only [Act.put, List.setIfInBounds_toArray, List.set_cons_zero, List.set_cons_succ]
            refine wpAnyH_take (i := 9) (oi := { dst := some 25, op := Op.load 29 (Operand.tmp 24), type := 29, pos := "merge.go:136", after := #[{ on := 8, ground := Ground.data }, { on := 4, ground := Ground.guard }], guard := some (4, true) }) (v := ?_) rfl (by kernel_rfl) (by kernel_rfl) (by kernel_rfl) (fun _ _ _ h => h) (Or.inl ⟨by rfl, ?_⟩) (by assumption) ?_
            rotate_left
            · intro w hSw; (try dsimp only at hSw); go_simp; try with_reducible rfl
            try simp only [Act.put, List.setIfInBounds_toArray, List.set_cons_zero, List.set_cons_succ]
            refine wpAnyH_take (i := 10) (oi := { dst := some 26, op := Op.load 29 (Operand.tmp 7), type := 29, pos := "merge.go:136", after := #[{ on := 4, ground := Ground.guard }], guard := some (4, true) }) (v := ?_) rfl (by kernel_rfl) (by kernel_rfl) (by kernel_rfl) (fun _ _ _ h => h) (Or.inl ⟨by rfl, ?_⟩) (by assumption) ?_
            rotate_left
            · intro w hSw; (try dsimp only at hSw); go_simp; try with_reducible rfl
            try simp only [Act.put, List.setIfInBounds_toArray, List.set_cons_zero, List.set_cons_succ]
            refine wpAnyH_ready (rs := [11]) (by kernel_rfl) (by simp) ?_
            refine AllReadyH.cons (o := { dst := some 27, op := Op.call { callee := Callee.value (Operand.tmp 21), args := #[Operand.tmp 25, Operand.tmp 26], argTypes := #[29, 29] }, type := 3, pos := "merge.go:136", after := #[{ on := 5, ground := Ground.data }, { on := 9, ground := Ground.data }, { on := 10, ground := Ground.data }, { on := 4, ground := Ground.chain }, { on := 4, ground := Ground.guard }], guard := some (4, true) }) rfl (fun K hK => ?_) AllReadyH.nil
            go_simp
            (refine (OC.out _).mono ?_; rintro e w' ⟨rfl, hb⟩; have HBC : Hid (Below wr.heap.size wr w') := Lib.hid (bel_dr hb); clear hb)
            try go_wp2_with fail
            refine hK.out _ _ ?_ (fun hHeld => ?_)
            · first | exact SK.out _ HBC.out | exact SK.out _ (bel_dw (Below.refl _ _))
            clear hK K
            try simp only [Act.put, List.setIfInBounds_toArray, List.set_cons_zero, List.set_cons_succ]
            refine wpAnyH_take (i := 12) (oi := { dst := some 28, op := Op.binOp BinOp.lss 3 (Operand.tmp 27) (Operand.const (Value.int IntKind.i64 0)) 3, type := 4, pos := "merge.go:136", after := #[{ on := 11, ground := Ground.data }, { on := 4, ground := Ground.guard }], guard := some (4, true) }) (v := ?_) rfl (by kernel_rfl) (by kernel_rfl) (by kernel_rfl) (fun _ _ _ h => h) (Or.inl ⟨by rfl, ?_⟩) (by assumption) ?_
            rotate_left
            · intro w hSw; (try dsimp only at hSw); go_simp; try with_reducible rfl
            try simp only [Act.put, List.setIfInBounds_toArray, List.set_cons_zero, List.set_cons_succ]
            refine wpAnyH_take (i := 13) (oi := { dst := some 29, op := Op.pick (Operand.tmp 20) (Operand.tmp 28) (Operand.const (Value.bool false)), type := 4, pos := "merge.go:136", after := #[{ on := 4, ground := Ground.data }, { on := 12, ground := Ground.data }], guard := none }) (v := ?_) rfl (by kernel_rfl) (by kernel_rfl) (by kernel_rfl) (fun _ _ _ h => h) (Or.inl ⟨by rfl, ?_⟩) (by assumption) ?_
            rotate_left
            · intro w hSw; (try dsimp only at hSw); go_simp; try with_reducible rfl
            try simp only [Act.put, List.setIfInBounds_toArray, List.set_cons_zero, List.set_cons_succ]
            refine wpAnyH_done (by kernel_rfl) ?_ _
            clear hHeld
            have HVU := Lib.hid (bel_trans HBQ.out HBC.out)
            clear z0 z1 cbb cbo cx0 cx1
            gi_wp2
            exact ⟨⟨f2 + 1, by omega, by simp, fun j y hj hy => by
              by_cases e : j = f2
              · subst e; have h := HZ.out; rw [h] at hy; cases hy; exact q1
              · exact HB2.out j y (by omega) hy, HVU.out⟩, by simp [intOf]; omega⟩
          · by_cases q2 : x0 < z0'
            · skip
              have OC : Hid (∀ U, Calls Try.prog 11 #[.agg #[.int .i64 z0', .int .i64 z1'], .agg #[.int .i64 x0, .int .i64 x1]] U fun e w' => e = .returned (.int .i64 (1)) ∧ Below U.heap.size U w') := Lib.hid (fun U => (ord_any (z0', z1') (x0, x1) U).mono (fun e w' h => ⟨by rw [h.1]; simp [ordT, q1, q2], h.2⟩))
              gi_wp2_with fail
              refine wpIn_wide.2 ?_
              refine wp_region_held_drew (S := (fun U => U.cell? ⟨bb, 0, none⟩ = some (.slice (some ⟨bB, oB, none⟩) nb cb) ∧ U.cell? ⟨bo, 0, none⟩ = some (.func (.func 11) #[] #[]) ∧ U.cell? ⟨bB, oB + f2 * 2, none⟩ = some (.int .i64 z0') ∧ U.cell? ⟨bB, oB + f2 * 2 + 1, none⟩ = some (.int .i64 z1') ∧ U.cell? ⟨V0.heap.size, 0, none⟩ = some (.int .i64 x0) ∧ U.cell? ⟨V0.heap.size, 1, none⟩ = some (.int .i64 x1))) (by kernel_rfl) ?_ (fun hHeld => ?_)
              · first | exact SK.out _ HBC.out | exact SK.out _ (bel_dw (Below.refl _ _))
              refine wpAnyH_take (i := 0) (oi := { dst := some 16, op := Op.move (Operand.tmp 5), type := 3, pos := "merge.go:136", after := #[], guard := none }) (v := ?_) rfl (by kernel_rfl) (by kernel_rfl) (by kernel_rfl) (fun _ _ _ h => h) (Or.inl ⟨by rfl, ?_⟩) (by assumption) ?_
              rotate_left
              · intro w hSw; (try dsimp only at hSw); go_simp; try with_reducible rfl
              try simp only [Act.put, List.setIfInBounds_toArray, List.set_cons_zero, List.set_cons_succ]
              refine wpAnyH_take (i := 1) (oi := { dst := some 17, op := Op.load 26 (Operand.tmp 2), type := 26, pos := "merge.go:136", after := #[], guard := none }) (v := ?_) rfl (by kernel_rfl) (by kernel_rfl) (by kernel_rfl) (fun _ _ _ h => h) (Or.inl ⟨by rfl, ?_⟩) (by assumption) ?_
              rotate_left
              · intro w hSw; (try dsimp only at hSw); go_simp; try with_reducible rfl
              try simp only [Act.put, List.setIfInBounds_toArray, List.set_cons_zero, List.set_cons_succ]
              refine wpAnyH_take (i := 2) (oi := { dst := some 18, op := Op.call { callee := Callee.builtin Builtin.len, args := #[Operand.tmp 17], argTypes := #[26] }, type := 3, pos := "merge.go:136", after := #[{ on := 1, ground := Ground.data }], guard := none }) (v := ?_) rfl (by kernel_rfl) (by kernel_rfl) (by kernel_rfl) (fun _ _ _ h => h) (Or.inl ⟨by rfl, ?_⟩) (by assumption) ?_
              rotate_left
              · intro w hSw; (try dsimp only at hSw); go_simp; try with_reducible rfl
              try simp only [Act.put, List.setIfInBounds_toArray, List.set_cons_zero, List.set_cons_succ]
              refine wpAnyH_take (i := 3) (oi := { dst := some 19, op := Op.binOp BinOp.lss 3 (Operand.tmp 16) (Operand.tmp 18) 3, type := 4, pos := "merge.go:136", after := #[{ on := 0, ground := Ground.data }, { on := 2, ground := Ground.data }], guard := none }) (v := ?_) rfl (by kernel_rfl) (by kernel_rfl) (by kernel_rfl) (fun _ _ _ h => h) (Or.inl ⟨by rfl, ?_⟩) (by assumption) ?_
              rotate_left
              · intro w hSw; (try dsimp only at hSw); go_simp; try with_reducible rfl
              try simp only [Act.put, List.setIfInBounds_toArray, List.set_cons_zero, List.set_cons_succ]
              refine wpAnyH_take (i := 4) (oi := { dst := some 20, op := Op.move (Operand.tmp 19), type := 4, pos := "merge.go:136", after := #[{ on := 3, ground := Ground.data }], guard := none }) (v := ?_) rfl (by kernel_rfl) (by kernel_rfl) (by kernel_rfl) (fun _ _ _ h => h) (Or.inl ⟨by rfl, ?_⟩) (by assumption) ?_
              rotate_left
              · intro w hSw; (try dsimp only at hSw); go_simp; try with_reducible rfl
              try simp only [Act.put, List.setIfInBounds_toArray, List.set_cons_zero, List.set_cons_succ]
              refine wpAnyH_take (i := 5) (oi := { dst := some 21, op := Op.load 33 (Operand.tmp 3), type := 33, pos := "merge.go:136", after := #[{ on := 4, ground := Ground.guard }], guard := some (4, true) }) (v := ?_) rfl (by kernel_rfl) (by kernel_rfl) (by kernel_rfl) (fun _ _ _ h => h) (Or.inl ⟨by rfl, ?_⟩) (by assumption) ?_
              rotate_left
              · intro w hSw; (try dsimp only at hSw); go_simp; try with_reducible rfl
              try simp only [Act.put, List.setIfInBounds_toArray, List.set_cons_zero, List.set_cons_succ]
              refine wpAnyH_take (i := 6) (oi := { dst := some 22, op := Op.load 26 (Operand.tmp 2), type := 26, pos := "merge.go:136", after := #[{ on := 4, ground := Ground.guard }], guard := some (4, true) }) (v := ?_) rfl (by kernel_rfl) (by kernel_rfl) (by kernel_rfl) (fun _ _ _ h => h) (Or.inl ⟨by rfl, ?_⟩) (by assumption) ?_
              rotate_left
              · intro w hSw; (try dsimp only at hSw); go_simp; try with_reducible rfl
              try simp only [Act.put, List.setIfInBounds_toArray, List.set_cons_zero, List.set_cons_succ]
              refine wpAnyH_take (i := 7) (oi := { dst := some 23, op := Op.move (Operand.tmp 5), type := 3, pos := "merge.go:136", after := #[{ on := 4, ground := Ground.guard }], guard := some (4, true) }) (v := ?_) rfl (by kernel_rfl) (by kernel_rfl) (by kernel_rfl) (fun _ _ _ h => h) (Or.inl ⟨by rfl, ?_⟩) (by assumption) ?_
              rotate_left
              · intro w hSw; (try dsimp only at hSw); go_simp; try with_reducible rfl
              try simp only [Act.put, List.setIfInBounds_toArray, List.set_cons_zero, List.set_cons_succ]
              refine wpAnyH_take (i := 8) (oi := { dst := some 24, op := Op.indexAddr 26 (Operand.tmp 22) (Operand.tmp 23), type := 0, pos := "merge.go:136", after := #[{ on := 6, ground := Ground.data }, { on := 7, ground := Ground.data }, { on := 4, ground := Ground.guard }], guard := some (4, true) }) (v := ?_) rfl (by kernel_rfl) (by kernel_rfl) (by kernel_rfl) (fun _ _ _ h => h) (Or.inl ⟨by rfl, ?_⟩) (by assumption) ?_
              rotate_left
              · intro w hSw; (try dsimp only at hSw); go_simp; try with_reducible rfl
              try simp only [Act.put, List.setIfInBounds_toArray, List.set_cons_zero, List.set_cons_succ]
              refine wpAnyH_take (i := 9) (oi := { dst := some 25, op := Op.load 29 (Operand.tmp 24), type := 29, pos := "merge.go:136", after := #[{ on := 8, ground := Ground.data }, { on := 4, ground := Ground.guard }], guard := some (4, true) }) (v := ?_) rfl (by kernel_rfl) (by kernel_rfl) (by kernel_rfl) (fun _ _ _ h => h) (Or.inl ⟨by rfl, ?_⟩) (by assumption) ?_
              rotate_left
              · intro w hSw; (try dsimp only at hSw); go_simp; try with_reducible rfl
              try simp only [Act.put, List.setIfInBounds_toArray, List.set_cons_zero, List.set_cons_succ]
              refine wpAnyH_take (i := 10) (oi := { dst := some 26, op := Op.load 29 (Operand.tmp 7), type := 29, pos := "merge.go:136", after := #[{ on := 4, ground := Ground.guard }], guard := some (4, true) }) (v := ?_) rfl (by kernel_rfl) (by kernel_rfl) (by kernel_rfl) (fun _ _ _ h => h) (Or.inl ⟨by rfl, ?_⟩) (by assumption) ?_
              rotate_left
              · intro w hSw; (try dsimp only at hSw); go_simp; try with_reducible rfl
              try simp only [Act.put, List.setIfInBounds_toArray, List.set_cons_zero, List.set_cons_succ]
              refine wpAnyH_ready (rs := [11]) (by kernel_rfl) (by simp) ?_
              refine AllReadyH.cons (o := { dst := some 27, op := Op.call { callee := Callee.value (Operand.tmp 21), args := #[Operand.tmp 25, Operand.tmp 26], argTypes := #[29, 29] }, type := 3, pos := "merge.go:136", after := #[{ on := 5, ground := Ground.data }, { on := 9, ground := Ground.data }, { on := 10, ground := Ground.data }, { on := 4, ground := Ground.chain }, { on := 4, ground := Ground.guard }], guard := some (4, true) }) rfl (fun K hK => ?_) AllReadyH.nil
              go_simp
              (refine (OC.out _).mono ?_; rintro e w' ⟨rfl, hb⟩; have HBC : Hid (Below wr.heap.size wr w') := Lib.hid (bel_dr hb); clear hb)
              try go_wp2_with fail
              refine hK.out _ _ ?_ (fun hHeld => ?_)
              · first | exact SK.out _ HBC.out | exact SK.out _ (bel_dw (Below.refl _ _))
              clear hK K
              try simp only [Act.put, List.setIfInBounds_toArray, List.set_cons_zero, List.set_cons_succ]
              refine wpAnyH_take (i := 12) (oi := { dst := some 28, op := Op.binOp BinOp.lss 3 (Operand.tmp 27) (Operand.const (Value.int IntKind.i64 0)) 3, type := 4, pos := "merge.go:136", after := #[{ on := 11, ground := Ground.data }, { on := 4, ground := Ground.guard }], guard := some (4, true) }) (v := ?_) rfl (by kernel_rfl) (by kernel_rfl) (by kernel_rfl) (fun _ _ _ h => h) (Or.inl ⟨by rfl, ?_⟩) (by assumption) ?_
              rotate_left
              · intro w hSw; (try dsimp only at hSw); go_simp; try with_reducible rfl
              try simp only [Act.put, List.setIfInBounds_toArray, List.set_cons_zero, List.set_cons_succ]
              refine wpAnyH_take (i := 13) (oi := { dst := some 29, op := Op.pick (Operand.tmp 20) (Operand.tmp 28) (Operand.const (Value.bool false)), type := 4, pos := "merge.go:136", after := #[{ on := 4, ground := Ground.data }, { on := 12, ground := Ground.data }], guard := none }) (v := ?_) rfl (by kernel_rfl) (by kernel_rfl) (by kernel_rfl) (fun _ _ _ h => h) (Or.inl ⟨by rfl, ?_⟩) (by assumption) ?_
              rotate_left
              · intro w hSw; (try dsimp only at hSw); go_simp; try with_reducible rfl
              try simp only [Act.put, List.setIfInBounds_toArray, List.set_cons_zero, List.set_cons_succ]
              refine wpAnyH_done (by kernel_rfl) ?_ _
              clear hHeld
              have HVU := Lib.hid (bel_trans HBQ.out HBC.out)
              clear z0 z1 cbb cbo cx0 cx1
              have f2c : (f2 : Int) < (cb : Int) := by omega
              generalize w' = U at *
              have hUV := HVU.out
              have CU : Hid (Chg D W U) := Lib.hid (HCV.out.trans (Chg.of_below (D := fun _ => False) hUV) (fun g h => h.elim))
              have cb' := (KB.out U CU.out).1
              have JU := Lib.hid (HJ.out.bel HJV.out hUV)
              have GU := Lib.hid (gr_up HGV.out hUV.size)
              have XU : Hid (U.heap[V0.heap.size]? = some (.cells #[.int .i64 x0, .int .i64 x1] 29 (0, 0))) := Lib.hid ((hUV.block _ (Array.getElem?_eq_some_iff.1 HVX.out).1).trans HVX.out)
              clear hUV
              gi_wp2
              gi_loopw [36] (fun qv wr => ∃ (q : Nat) (E' : Nat → Prop), q ≤ nb - f2 ∧ qv = .int .i64 q ∧ (∀ (j : Nat) (y : TT), j < q → b[f2 + j]? = some y → y.1 = x0) ∧ J ((bothL (a.take i) b).length + q) E' wr ∧ Gr D E' W wr ∧ Chg D W wr ∧ ¬ E' V0.heap.size ∧ wr.heap[V0.heap.size]? = some (.cells #[.int .i64 x0, .int .i64 x1] 29 (0, 0))) (fun qv _ => nb - f2 - (intOf qv).toNat)
              case atStart => exact ⟨0, E, Nat.zero_le _, rfl, fun j y h => by omega, JU.out, GU.out, CU.out, NX.out, XU.out⟩
              case round =>
                obtain ⟨q, E2, hq, rfl, hqe, hj, hgr, hch, hne, hxb⟩ := hrel
                have HQE := Lib.hid hqe
                have HJ2 := Lib.hid hj
                have HG2 := Lib.hid hgr
                have HC2 := Lib.hid hch
                have HXB := Lib.hid hxb
                clear hqe hj hgr hch hxb
                by_cases hqn : q < nb - f2
                · obtain ⟨y, hy⟩ : ∃ y, b[f2 + q]? = some y := ⟨_, List.getElem?_eq_getElem (by rw [HLB.out]; omega)⟩
                  obtain ⟨_, _, e2, hyl, y0c, y1c⟩ := rdt_get (KA.out wr HC2.out).2 hy
                  cases e2
                  have g0 : wr.cell? ⟨bB, oB + f2 * 2 + q * 2, none⟩ = some (.int .i64 y.1) := by rw [show oB + f2 * 2 + q * 2 = oB + (f2 + q) * 2 by omega]; exact y0c
                  have g1 : wr.cell? ⟨bB, oB + f2 * 2 + q * 2 + 1, none⟩ = some (.int .i64 y.2) := by rw [show oB + f2 * 2 + q * 2 = oB + (f2 + q) * 2 by omega]; exact y1c
                  have hge := srt_le HSB.out HZ.out hy (by omega)
                  have HYB := Lib.hid hy
                  obtain ⟨y0, y1⟩ := y
                  simp only at g0 g1 hge
                  have p1 : (q : Int) < ((nb - f2 : Nat) : Int) := by omega
                  have p0 : (0 : Int) ≤ (q : Int) := by omega
                  have p9 : (q : Int) ≤ 20 := by omega
                  have hV2 : Below wr.heap.size wr (wr.alloc (kv (y0, y1))) := bel_alloc (Below.refl _ _) _
                  have o2 : (wr.alloc (kv (y0, y1))).cell? ⟨bo, 0, none⟩ = some (.func (.func 11) #[] #[]) := bel_later hV2 (KB.out wr HC2.out).2
                  have x20 : (wr.alloc (kv (y0, y1))).cell? ⟨V0.heap.size, 0, none⟩ = some (.int .i64 x0) := bel_later hV2 (cell_at HXB.out 0)
                  have x21 : (wr.alloc (kv (y0, y1))).cell? ⟨V0.heap.size, 1, none⟩ = some (.int .i64 x1) := bel_later hV2 (cell_at HXB.out 1)
                  have HV2 := Lib.hid hV2
                  clear hy y0c y1c hyl hV2
                  by_cases hyx : y0 = x0
                  · have OC : Hid (∀ U, Calls Try.prog 11 #[.agg #[.int .i64 x0, .int .i64 x1], .agg #[.int .i64 y0, .int .i64 y1]] U fun e w' => e = .returned (.int .i64 0) ∧ Below U.heap.size U w') := Lib.hid (fun U => (ord_any (x0, x1) (y0, y1) U).mono (fun e w' h => ⟨by rw [h.1]; simp [ordT, hyx], h.2⟩))
                    have HYX := Lib.hid hyx
                    clear hyx hge
                    gi_wp2_with fail
                    refine ⟨trivial, (callsIn_wide.2 (OC.out _)).mono ?_⟩
                    rintro e w1 ⟨rfl, hb⟩
                    have hw1 := HV2.out.trans (hb.mono HV2.out.size)
                    have r0 := bel_later hb x20
                    have r1 := bel_later hb x21
                    have r2 : w1.cell? ⟨wr.heap.size, 0, none⟩ = some (.int .i64 y0) := bel_later hb (by simp [go_sem])
                    have r3 : w1.cell? ⟨wr.heap.size, 1, none⟩ = some (.int .i64 y1) := bel_later hb (by simp [go_sem])
                    have J1 := HJ.out.bel HJ2.out hw1
                    have I1 := (HI.out.gr HG2.out HC2.out.size).more hw1.size
                    have GET := Lib.hid (both_get HX.out (fun j y h1 h2 => HB2.out j y h1 h2) (fun j y h1 h2 => HQE.out j y h1 h2) HYB.out HYX.out.symm)
                    obtain ⟨fn, tmps, assign, body, hy, hRd⟩ := HY.out 2 _ ((x0, x1), (y0, y1)) E2 w1 GET.out J1 I1
                    have HRD := Lib.hid hRd
                    have HW1 := Lib.hid hw1
                    simp only [enc2] at hy
                    clear hb hw1 J1 I1 hRd x20 x21 o2 g0 g1
                    gi_wp2
                    refine HRD.out.mono ?_
                    rintro e W3 ⟨E3, hg3, hc3, (⟨rfl, hj⟩ | ⟨rfl, hj⟩)⟩
                    · have HG := Lib.hid (gc_step HG2.out HC2.out HW1.out hg3 hc3)
                      have HJ3 := Lib.hid hj
                      have N3 := Lib.hid (gr_not hg3 hne (Nat.lt_of_lt_of_le (Array.getElem?_eq_some_iff.1 HXB.out).1 HW1.out.size))
                      have X3 : Hid (W3.heap[V0.heap.size]? = some (.cells #[.int .i64 x0, .int .i64 x1] 29 (0, 0))) := Lib.hid ((hc3.block _ (Nat.lt_of_lt_of_le (Array.getElem?_eq_some_iff.1 HXB.out).1 HW1.out.size) hne).trans ((HW1.out.block _ (Array.getElem?_eq_some_iff.1 HXB.out).1).trans HXB.out))
                      clear hg3 hc3 hj r0 r1 r2 r3
                      gi_wp2
                      refine ⟨⟨q + 1, E3, by omega, by simp, fun j y hj hy => ?_, HJ3.out, HG.out.1, HG.out.2, N3.out, X3.out⟩, by simp [intOf]; omega⟩
                      by_cases e : j = q
                      · subst e; have h := HYB.out; rw [h] at hy; cases hy; exact HYX.out
                      · exact HQE.out j y (by omega) hy
                    · have HG := Lib.hid (gc_step HG2.out HC2.out HW1.out hg3 hc3)
                      have HJ3 := Lib.hid hj
                      clear hg3 hc3 hj r0 r1 r2 r3
                      gi_wp2
                      refine bodyPost_ret (results_none rfl _ _ _) rfl ?_
                      exact ⟨⟨_, rfl⟩, E3, HG.out.1, HG.out.2, .inr ⟨_, (List.getElem?_eq_some_iff.1 GET.out).1, HJ3.out⟩⟩
                  · have hgt : x0 < y0 := by omega
                    have OC : Hid (∀ U, Calls Try.prog 11 #[.agg #[.int .i64 x0, .int .i64 x1], .agg #[.int .i64 y0, .int .i64 y1]] U fun e w' => e = .returned (.int .i64 (-1)) ∧ Below U.heap.size U w') := Lib.hid (fun U => (ord_any (x0, x1) (y0, y1) U).mono (fun e w' h => ⟨by rw [h.1]; simp [ordT, hgt], h.2⟩))
                    clear hyx hge
                    gi_wp2_with fail
                    refine ⟨trivial, (callsIn_wide.2 (OC.out _)).mono ?_⟩
                    rintro e w1 ⟨rfl, hb⟩
                    have HW1 := Lib.hid (HV2.out.trans (hb.mono HV2.out.size))
                    clear hb x20 x21 o2 g0 g1
                    gi_wp2
                    refine ⟨⟨i + 1, f2, E2, by omega, hf2, by simp, rfl, fun j y i' x' hj hy hi' hx' => ?_, ?_, gr_up HG2.out HW1.out.size, HC2.out.trans (Chg.of_below (D := fun _ => False) HW1.out) (fun g h => h.elim)⟩, by simp [intOf]; omega⟩
                    · have hlt1 := HB2.out j y hj hy
                      have hle1 := srt_le HSA.out HX.out hx' (by omega)
                      simp only at hle1
                      omega
                    · rw [both_snoc HX.out, List.length_append, List.length_map, (eqs_all (f := f2) (q := q) HSB.out (fun j y hj hy => HB2.out j y hj hy) HQE.out (.inr ⟨(y0, y1), HYB.out, hgt⟩) (by rw [HLB.out]; omega)).1]
                      exact HJ.out.bel HJ2.out HW1.out
                · have hq0 : ¬ (q : Int) < ((nb - f2 : Nat) : Int) := by omega
                  gi_wp2
                  refine ⟨⟨i + 1, f2, E2, by omega, hf2, by simp, rfl, fun j y i' x' hj hy hi' hx' => ?_, ?_, HG2.out, HC2.out⟩, by simp [intOf]; omega⟩
                  · have hlt1 := HB2.out j y hj hy
                    have hle1 := srt_le HSA.out HX.out hx' (by omega)
                    simp only at hle1
                    omega
                  · rw [both_snoc HX.out, List.length_append, List.length_map, (eqs_all (f := f2) (q := q) HSB.out (fun j y hj hy => HB2.out j y hj hy) HQE.out (.inl (by rw [HLB.out]; omega)) (by rw [HLB.out]; omega)).1]
                    exact HJ2.out
            · skip
              have OC : Hid (∀ U, Calls Try.prog 11 #[.agg #[.int .i64 z0', .int .i64 z1'], .agg #[.int .i64 x0, .int .i64 x1]] U fun e w' => e = .returned (.int .i64 (0)) ∧ Below U.heap.size U w') := Lib.hid (fun U => (ord_any (z0', z1') (x0, x1) U).mono (fun e w' h => ⟨by rw [h.1]; simp [ordT, q1, q2], h.2⟩))
              gi_wp2_with fail
              refine wpIn_wide.2 ?_
              refine wp_region_held_drew (S := (fun U => U.cell? ⟨bb, 0, none⟩ = some (.slice (some ⟨bB, oB, none⟩) nb cb) ∧ U.cell? ⟨bo, 0, none⟩ = some (.func (.func 11) #[] #[]) ∧ U.cell? ⟨bB, oB + f2 * 2, none⟩ = some (.int .i64 z0') ∧ U.cell? ⟨bB, oB + f2 * 2 + 1, none⟩ = some (.int .i64 z1') ∧ U.cell? ⟨V0.heap.size, 0, none⟩ = some (.int .i64 x0) ∧ U.cell? ⟨V0.heap.size, 1, none⟩ = some (.int .i64 x1))) (by kernel_rfl) ?_ (fun hHeld => ?_)
              · first | exact SK.out _ HBC.out | exact SK.out _ (bel_dw (Below.refl _ _))
              refine wpAnyH_take (i := 0) (oi := { dst := some 16, op := Op.move (Operand.tmp 5), type := 3, pos := "merge.go:136", after := #[], guard := none }) (v := ?_) rfl (by kernel_rfl) (by kernel_rfl) (by kernel_rfl) (fun _ _ _ h => h) (Or.inl ⟨by rfl, ?_⟩) (by assumption) ?_
              rotate_left
              · intro w hSw; (try dsimp only at hSw); go_simp; try with_reducible rfl
              try simp only [Act.put, List.setIfInBounds_toArray, List.set_cons_zero, List.set_cons_succ]
              refine wpAnyH_take (i := 1) (oi := { dst := some 17, op := Op.load 26 (Operand.tmp 2), type := 26, pos := "merge.go:136", after := #[], guard := none }) (v := ?_) rfl (by kernel_rfl) (by kernel_rfl) (by kernel_rfl) (fun _ _ _ h => h) (Or.inl ⟨by rfl, ?_⟩) (by assumption) ?_
              rotate_left
              · intro w hSw; (try dsimp only at hSw); go_simp; try with_reducible rfl
              try simp only [Act.put, List.setIfInBounds_toArray, List.set_cons_zero, List.set_cons_succ]
              refine wpAnyH_take (i := 2) (oi := { dst := some 18, op := Op.call { callee := Callee.builtin Builtin.len, args := #[Operand.tmp 17], argTypes := #[26] }, type := 3, pos := "merge.go:136", after := #[{ on := 1, ground := Ground.data }], guard := none }) (v := ?_) rfl (by kernel_rfl) (by kernel_rfl) (by kernel_rfl) (fun _ _ _ h => h) (Or.inl ⟨by rfl, ?_⟩) (by assumption) ?_
              rotate_left
              · intro w hSw; (try dsimp only at hSw); go_simp; try with_reducible rfl
              try simp only [Act.put, List.setIfInBounds_toArray, List.set_cons_zero, List.set_cons_succ]
              refine wpAnyH_take (i := 3) (oi := { dst := some 19, op := Op.binOp BinOp.lss 3 (Operand.tmp 16) (Operand.tmp 18) 3, type := 4, pos := "merge.go:136", after := #[{ on := 0, ground := Ground.data }, { on := 2, ground := Ground.data }], guard := none }) (v := ?_) rfl (by kernel_rfl) (by kernel_rfl) (by kernel_rfl) (fun _ _ _ h => h) (Or.inl ⟨by rfl, ?_⟩) (by assumption) ?_
              rotate_left
              · intro w hSw; (try dsimp only at hSw); go_simp; try with_reducible rfl
              try simp only [Act.put, List.setIfInBounds_toArray, List.set_cons_zero, List.set_cons_succ]
              refine wpAnyH_take (i := 4) (oi := { dst := some 20, op := Op.move (Operand.tmp 19), type := 4, pos := "merge.go:136", after := #[{ on := 3, ground := Ground.data }], guard := none }) (v := ?_) rfl (by kernel_rfl) (by kernel_rfl) (by kernel_rfl) (fun _ _ _ h => h) (Or.inl ⟨by rfl, ?_⟩) (by assumption) ?_
              rotate_left
              · intro w hSw; (try dsimp only at hSw); go_simp; try with_reducible rfl
              try simp only [Act.put, List.setIfInBounds_toArray, List.set_cons_zero, List.set_cons_succ]
              refine wpAnyH_take (i := 5) (oi := { dst := some 21, op := Op.load 33 (Operand.tmp 3), type := 33, pos := "merge.go:136", after := #[{ on := 4, ground := Ground.guard }], guard := some (4, true) }) (v := ?_) rfl (by kernel_rfl) (by kernel_rfl) (by kernel_rfl) (fun _ _ _ h => h) (Or.inl ⟨by rfl, ?_⟩) (by assumption) ?_
              rotate_left
              · intro w hSw; (try dsimp only at hSw); go_simp; try with_reducible rfl
              try simp only [Act.put, List.setIfInBounds_toArray, List.set_cons_zero, List.set_cons_succ]
              refine wpAnyH_take (i := 6) (oi := { dst := some 22, op := Op.load 26 (Operand.tmp 2), type := 26, pos := "merge.go:136", after := #[{ on := 4, ground := Ground.guard }], guard := some (4, true) }) (v := ?_) rfl (by kernel_rfl) (by kernel_rfl) (by kernel_rfl) (fun _ _ _ h => h) (Or.inl ⟨by rfl, ?_⟩) (by assumption) ?_
              rotate_left
              · intro w hSw; (try dsimp only at hSw); go_simp; try with_reducible rfl
              try simp only [Act.put, List.setIfInBounds_toArray, List.set_cons_zero, List.set_cons_succ]
              refine wpAnyH_take (i := 7) (oi := { dst := some 23, op := Op.move (Operand.tmp 5), type := 3, pos := "merge.go:136", after := #[{ on := 4, ground := Ground.guard }], guard := some (4, true) }) (v := ?_) rfl (by kernel_rfl) (by kernel_rfl) (by kernel_rfl) (fun _ _ _ h => h) (Or.inl ⟨by rfl, ?_⟩) (by assumption) ?_
              rotate_left
              · intro w hSw; (try dsimp only at hSw); go_simp; try with_reducible rfl
              try simp only [Act.put, List.setIfInBounds_toArray, List.set_cons_zero, List.set_cons_succ]
              refine wpAnyH_take (i := 8) (oi := { dst := some 24, op := Op.indexAddr 26 (Operand.tmp 22) (Operand.tmp 23), type := 0, pos := "merge.go:136", after := #[{ on := 6, ground := Ground.data }, { on := 7, ground := Ground.data }, { on := 4, ground := Ground.guard }], guard := some (4, true) }) (v := ?_) rfl (by kernel_rfl) (by kernel_rfl) (by kernel_rfl) (fun _ _ _ h => h) (Or.inl ⟨by rfl, ?_⟩) (by assumption) ?_
              rotate_left
              · intro w hSw; (try dsimp only at hSw); go_simp; try with_reducible rfl
              try simp only [Act.put, List.setIfInBounds_toArray, List.set_cons_zero, List.set_cons_succ]
              refine wpAnyH_take (i := 9) (oi := { dst := some 25, op := Op.load 29 (Operand.tmp 24), type := 29, pos := "merge.go:136", after := #[{ on := 8, ground := Ground.data }, { on := 4, ground := Ground.guard }], guard := some (4, true) }) (v := ?_) rfl (by kernel_rfl) (by kernel_rfl) (by kernel_rfl) (fun _ _ _ h => h) (Or.inl ⟨by rfl, ?_⟩) (by assumption) ?_
              rotate_left
              · intro w hSw; (try dsimp only at hSw); go_simp; try with_reducible rfl
              try simp only [Act.put, List.setIfInBounds_toArray, List.set_cons_zero, List.set_cons_succ]
              refine wpAnyH_take (i := 10) (oi := { dst := some 26, op := Op.load 29 (Operand.tmp 7), type := 29, pos := "merge.go:136", after := #[{ on := 4, ground := Ground.guard }], guard := some (4, true) }) (v := ?_) rfl (by kernel_rfl) (by kernel_rfl) (by kernel_rfl) (fun _ _ _ h => h) (Or.inl ⟨by rfl, ?_⟩) (by assumption) ?_
              rotate_left
              · intro w hSw; (try dsimp only at hSw); go_simp; try with_reducible rfl
              try simp only [Act.put, List.setIfInBounds_toArray, List.set_cons_zero, List.set_cons_succ]
              refine wpAnyH_ready (rs := [11]) (by kernel_rfl) (by simp) ?_
              refine AllReadyH.cons (o := { dst := some 27, op := Op.call { callee := Callee.value (Operand.tmp 21), args := #[Operand.tmp 25, Operand.tmp 26], argTypes := #[29, 29] }, type := 3, pos := "merge.go:136", after := #[{ on := 5, ground := Ground.data }, { on := 9, ground := Ground.data }, { on := 10, ground := Ground.data }, { on := 4, ground := Ground.chain }, { on := 4, ground := Ground.guard }], guard := some (4, true) }) rfl (fun K hK => ?_) AllReadyH.nil
              go_simp
              (refine (OC.out _).mono ?_; rintro e w' ⟨rfl, hb⟩; have HBC : Hid (Below wr.heap.size wr w') := Lib.hid (bel_dr hb); clear hb)
              try go_wp2_with fail
              refine hK.out _ _ ?_ (fun hHeld => ?_)
              · first | exact SK.out _ HBC.out | exact SK.out _ (bel_dw (Below.refl _ _))
              clear hK K
              try simp only [Act.put, List.setIfInBounds_toArray, List.set_cons_zero, List.set_cons_succ]
              refine wpAnyH_take (i := 12) (oi := { dst := some 28, op := Op.binOp BinOp.lss 3 (Operand.tmp 27) (Operand.const (Value.int IntKind.i64 0)) 3, type := 4, pos := "merge.go:136", after := #[{ on := 11, ground := Ground.data }, { on := 4, ground := Ground.guard }], guard := some (4, true) }) (v := ?_) rfl (by kernel_rfl) (by kernel_rfl) (by kernel_rfl) (fun _ _ _ h => h) (Or.inl ⟨by rfl, ?_⟩) (by assumption) ?_
              rotate_left
              · intro w hSw; (try dsimp only at hSw); go_simp; try with_reducible rfl
              try simp only [Act.put, List.setIfInBounds_toArray, List.set_cons_zero, List.set_cons_succ]
              refine wpAnyH_take (i := 13) (oi := { dst := some 29, op := Op.pick (Operand.tmp 20) (Operand.tmp 28) (Operand.const (Value.bool false)), type := 4, pos := "merge.go:136", after := #[{ on := 4, ground := Ground.data }, { on := 12, ground := Ground.data }], guard := none }) (v := ?_) rfl (by kernel_rfl) (by kernel_rfl) (by kernel_rfl) (fun _ _ _ h => h) (Or.inl ⟨by rfl, ?_⟩) (by assumption) ?_
              rotate_left
              · intro w hSw; (try dsimp only at hSw); go_simp; try with_reducible rfl
              try simp only [Act.put, List.setIfInBounds_toArray, List.set_cons_zero, List.set_cons_succ]
              refine wpAnyH_done (by kernel_rfl) ?_ _
              clear hHeld
              have HVU := Lib.hid (bel_trans HBQ.out HBC.out)
              clear z0 z1 cbb cbo cx0 cx1
              have f2c : (f2 : Int) < (cb : Int) := by omega
              generalize w' = U at *
              have hUV := HVU.out
              have CU : Hid (Chg D W U) := Lib.hid (HCV.out.trans (Chg.of_below (D := fun _ => False) hUV) (fun g h => h.elim))
              have cb' := (KB.out U CU.out).1
              have JU := Lib.hid (HJ.out.bel HJV.out hUV)
              have GU := Lib.hid (gr_up HGV.out hUV.size)
              have XU : Hid (U.heap[V0.heap.size]? = some (.cells #[.int .i64 x0, .int .i64 x1] 29 (0, 0))) := Lib.hid ((hUV.block _ (Array.getElem?_eq_some_iff.1 HVX.out).1).trans HVX.out)
              clear hUV
              gi_wp2
              gi_loopw [36] (fun qv wr => ∃ (q : Nat) (E' : Nat → Prop), q ≤ nb - f2 ∧ qv = .int .i64 q ∧ (∀ (j : Nat) (y : TT), j < q → b[f2 + j]? = some y → y.1 = x0) ∧ J ((bothL (a.take i) b).length + q) E' wr ∧ Gr D E' W wr ∧ Chg D W wr ∧ ¬ E' V0.heap.size ∧ wr.heap[V0.heap.size]? = some (.cells #[.int .i64 x0, .int .i64 x1] 29 (0, 0))) (fun qv _ => nb - f2 - (intOf qv).toNat)
              case atStart => exact ⟨0, E, Nat.zero_le _, rfl, fun j y h => by omega, JU.out, GU.out, CU.out, NX.out, XU.out⟩
              case round =>
                obtain ⟨q, E2, hq, rfl, hqe, hj, hgr, hch, hne, hxb⟩ := hrel
                have HQE := Lib.hid hqe
                have HJ2 := Lib.hid hj
                have HG2 := Lib.hid hgr
                have HC2 := Lib.hid hch
                have HXB := Lib.hid hxb
                clear hqe hj hgr hch hxb
                by_cases hqn : q < nb - f2
                · obtain ⟨y, hy⟩ : ∃ y, b[f2 + q]? = some y := ⟨_, List.getElem?_eq_getElem (by rw [HLB.out]; omega)⟩
                  obtain ⟨_, _, e2, hyl, y0c, y1c⟩ := rdt_get (KA.out wr HC2.out).2 hy
                  cases e2
                  have g0 : wr.cell? ⟨bB, oB + f2 * 2 + q * 2, none⟩ = some (.int .i64 y.1) := by rw [show oB + f2 * 2 + q * 2 = oB + (f2 + q) * 2 by omega]; exact y0c
                  have g1 : wr.cell? ⟨bB, oB + f2 * 2 + q * 2 + 1, none⟩ = some (.int .i64 y.2) := by rw [show oB + f2 * 2 + q * 2 = oB + (f2 + q) * 2 by omega]; exact y1c
                  have hge := srt_le HSB.out HZ.out hy (by omega)
                  have HYB := Lib.hid hy
                  obtain ⟨y0, y1⟩ := y
                  simp only at g0 g1 hge
                  have p1 : (q : Int) < ((nb - f2 : Nat) : Int) := by omega
                  have p0 : (0 : Int) ≤ (q : Int) := by omega
                  have p9 : (q : Int) ≤ 20 := by omega
                  have hV2 : Below wr.heap.size wr (wr.alloc (kv (y0, y1))) := bel_alloc (Below.refl _ _) _
                  have o2 : (wr.alloc (kv (y0, y1))).cell? ⟨bo, 0, none⟩ = some (.func (.func 11) #[] #[]) := bel_later hV2 (KB.out wr HC2.out).2
                  have x20 : (wr.alloc (kv (y0, y1))).cell? ⟨V0.heap.size, 0, none⟩ = some (.int .i64 x0) := bel_later hV2 (cell_at HXB.out 0)
                  have x21 : (wr.alloc (kv (y0, y1))).cell? ⟨V0.heap.size, 1, none⟩ = some (.int .i64 x1) := bel_later hV2 (cell_at HXB.out 1)
                  have HV2 := Lib.hid hV2
                  clear hy y0c y1c hyl hV2
                  by_cases hyx : y0 = x0
                  · have OC : Hid (∀ U, Calls Try.prog 11 #[.agg #[.int .i64 x0, .int .i64 x1], .agg #[.int .i64 y0, .int .i64 y1]] U fun e w' => e = .returned (.int .i64 0) ∧ Below U.heap.size U w') := Lib.hid (fun U => (ord_any (x0, x1) (y0, y1) U).mono (fun e w' h => ⟨by rw [h.1]; simp [ordT, hyx], h.2⟩))
                    have HYX := Lib.hid hyx
                    clear hyx hge
                    gi_wp2_with fail
                    refine ⟨trivial, (callsIn_wide.2 (OC.out _)).mono ?_⟩
                    rintro e w1 ⟨rfl, hb⟩
                    have hw1 := HV2.out.trans (hb.mono HV2.out.size)
                    have r0 := bel_later hb x20
                    have r1 := bel_later hb x21
                    have r2 : w1.cell? ⟨wr.heap.size, 0, none⟩ = some (.int .i64 y0) := bel_later hb (by simp [go_sem])
                    have r3 : w1.cell? ⟨wr.heap.size, 1, none⟩ = some (.int .i64 y1) := bel_later hb (by simp [go_sem])
                    have J1 := HJ.out.bel HJ2.out hw1
                    have I1 := (HI.out.gr HG2.out HC2.out.size).more hw1.size
                    have GET := Lib.hid (both_get HX.out (fun j y h1 h2 => HB2.out j y h1 h2) (fun j y h1 h2 => HQE.out j y h1 h2) HYB.out HYX.out.symm)
                    obtain ⟨fn, tmps, assign, body, hy, hRd⟩ := HY.out 2 _ ((x0, x1), (y0, y1)) E2 w1 GET.out J1 I1
                    have HRD := Lib.hid hRd
                    have HW1 := Lib.hid hw1
                    simp only [enc2] at hy
                    clear hb hw1 J1 I1 hRd x20 x21 o2 g0 g1
                    gi_wp2
                    refine HRD.out.mono ?_
                    rintro e W3 ⟨E3, hg3, hc3, (⟨rfl, hj⟩ | ⟨rfl, hj⟩)⟩
                    · have HG := Lib.hid (gc_step HG2.out HC2.out HW1.out hg3 hc3)
                      have HJ3 := Lib.hid hj
                      have N3 := Lib.hid (gr_not hg3 hne (Nat.lt_of_lt_of_le (Array.getElem?_eq_some_iff.1 HXB.out).1 HW1.out.size))
                      have X3 : Hid (W3.heap[V0.heap.size]? = some (.cells #[.int .i64 x0, .int .i64 x1] 29 (0, 0))) := Lib.hid ((hc3.block _ (Nat.lt_of_lt_of_le (Array.getElem?_eq_some_iff.1 HXB.out).1 HW1.out.size) hne).trans ((HW1.out.block _ (Array.getElem?_eq_some_iff.1 HXB.out).1).trans HXB.out))
                      clear hg3 hc3 hj r0 r1 r2 r3
                      gi_wp2
                      refine ⟨⟨q + 1, E3, by omega, by simp, fun j y hj hy => ?_, HJ3.out, HG.out.1, HG.out.2, N3.out, X3.out⟩, by simp [intOf]; omega⟩
                      by_cases e : j = q
                      · subst e; have h := HYB.out; rw [h] at hy; cases hy; exact HYX.out
                      · exact HQE.out j y (by omega) hy
                    · have HG := Lib.hid (gc_step HG2.out HC2.out HW1.out hg3 hc3)
                      have HJ3 := Lib.hid hj
                      clear hg3 hc3 hj r0 r1 r2 r3
                      gi_wp2
                      refine bodyPost_ret (results_none rfl _ _ _) rfl ?_
                      exact ⟨⟨_, rfl⟩, E3, HG.out.1, HG.out.2, .inr ⟨_, (List.getElem?_eq_some_iff.1 GET.out).1, HJ3.out⟩⟩
                  · have hgt : x0 < y0 := by omega
                    have OC : Hid (∀ U, Calls Try.prog 11 #[.agg #[.int .i64 x0, .int .i64 x1], .agg #[.int .i64 y0, .int .i64 y1]] U fun e w' => e = .returned (.int .i64 (-1)) ∧ Below U.heap.size U w') := Lib.hid (fun U => (ord_any (x0, x1) (y0, y1) U).mono (fun e w' h => ⟨by rw [h.1]; simp [ordT, hgt], h.2⟩))
                    clear hyx hge
                    gi_wp2_with fail
                    refine ⟨trivial, (callsIn_wide.2 (OC.out _)).mono ?_⟩
                    rintro e w1 ⟨rfl, hb⟩
                    have HW1 := Lib.hid (HV2.out.trans (hb.mono HV2.out.size))
                    clear hb x20 x21 o2 g0 g1
                    gi_wp2
                    refine ⟨⟨i + 1, f2, E2, by omega, hf2, by simp, rfl, fun j y i' x' hj hy hi' hx' => ?_, ?_, gr_up HG2.out HW1.out.size, HC2.out.trans (Chg.of_below (D := fun _ => False) HW1.out) (fun g h => h.elim)⟩, by simp [intOf]; omega⟩
                    · have hlt1 := HB2.out j y hj hy
                      have hle1 := srt_le HSA.out HX.out hx' (by omega)
                      simp only at hle1
                      omega
                    · rw [both_snoc HX.out, List.length_append, List.length_map, (eqs_all (f := f2) (q := q) HSB.out (fun j y hj hy => HB2.out j y hj hy) HQE.out (.inr ⟨(y0, y1), HYB.out, hgt⟩) (by rw [HLB.out]; omega)).1]
                      exact HJ.out.bel HJ2.out HW1.out
                · have hq0 : ¬ (q : Int) < ((nb - f2 : Nat) : Int) := by omega
                  gi_wp2
                  refine ⟨⟨i + 1, f2, E2, by omega, hf2, by simp, rfl, fun j y i' x' hj hy hi' hx' => ?_, ?_, HG2.out, HC2.out⟩, by simp [intOf]; omega⟩
                  · have hlt1 := HB2.out j y hj hy
                    have hle1 := srt_le HSA.out HX.out hx' (by omega)
                    simp only at hle1
                    omega
                  · rw [both_snoc HX.out, List.length_append, List.length_map, (eqs_all (f := f2) (q := q) HSB.out (fun j y hj hy => HB2.out j y hj hy) HQE.out (.inl (by rw [HLB.out]; omega)) (by rw [HLB.out]; omega)).1]
                    exact HJ2.out
        · have f21 : ¬ (f2 : Int) < (nb : Int) := by omega
          cases B with
          | none =>
            obtain rfl : cb = 0 := HBN.out rfl
            obtain rfl : nb = 0 := by omega
            obtain rfl : f2 = 0 := by omega
            gi_wp2_with fail
            refine wpIn_wide.2 ?_
            go_quiet (fail)
            have HVU : Hid (Below V.heap.size V (wr.drewN nq)) := Lib.hid (bel_drewN HBQ.out nq)
            clear cbb cbo cx0 cx1
            generalize wr.drewN nq = U at *
            have hUV := HVU.out
            have CU : Hid (Chg D W U) := Lib.hid (HCV.out.trans (Chg.of_below (D := fun _ => False) hUV) (fun g h => h.elim))
            have cb' := (KB.out U CU.out).1
            have JU := Lib.hid (HJ.out.bel HJV.out hUV)
            have GU := Lib.hid (gr_up HGV.out hUV.size)
            have XU : Hid (U.heap[V0.heap.size]? = some (.cells #[.int .i64 x0, .int .i64 x1] 29 (0, 0))) := Lib.hid ((hUV.block _ (Array.getElem?_eq_some_iff.1 HVX.out).1).trans HVX.out)
            clear hUV
            gi_wp2
            gi_loopw [36] (fun qv wr => ∃ (q : Nat) (E' : Nat → Prop), q ≤ 0 - 0 ∧ qv = .int .i64 q ∧ (∀ (j : Nat) (y : TT), j < q → b[0 + j]? = some y → y.1 = x0) ∧ J ((bothL (a.take i) b).length + q) E' wr ∧ Gr D E' W wr ∧ Chg D W wr ∧ ¬ E' V0.heap.size ∧ wr.heap[V0.heap.size]? = some (.cells #[.int .i64 x0, .int .i64 x1] 29 (0, 0))) (fun qv _ => 0 - 0 - (intOf qv).toNat)
            case atStart => exact ⟨0, E, Nat.zero_le _, rfl, fun j y h => by omega, JU.out, GU.out, CU.out, NX.out, XU.out⟩
            case round =>
              obtain ⟨q, E2, hq, rfl, hqe, hj, hgr, hch, hne, hxb⟩ := hrel
              have HQE := Lib.hid hqe
              have HJ2 := Lib.hid hj
              have HG2 := Lib.hid hgr
              have HC2 := Lib.hid hch
              have HXB := Lib.hid hxb
              clear hqe hj hgr hch hxb
              have hq0 : ¬ (q : Int) < ((0 - 0 : Nat) : Int) := by omega
              gi_wp2
              refine ⟨⟨i + 1, 0, E2, by omega, (Nat.le_refl _), by simp, rfl, fun j y i' x' hj hy hi' hx' => ?_, ?_, HG2.out, HC2.out⟩, by simp [intOf]; omega⟩
              · have hlt1 := HB2.out j y hj hy
                have hle1 := srt_le HSA.out HX.out hx' (by omega)
                simp only at hle1
                omega
              · rw [both_snoc HX.out, List.length_append, List.length_map, (eqs_all (f := 0) (q := q) HSB.out (fun j y hj hy => HB2.out j y hj hy) HQE.out (.inl (by rw [HLB.out]; omega)) (by rw [HLB.out]; omega)).1]
                exact HJ2.out
          | some ad =>
            obtain ⟨bB, oB, sB⟩ := ad
            by_cases hfc : f2 < cb
            · have f2c : (f2 : Int) < (cb : Int) := by omega
              gi_wp2_with fail
              refine wpIn_wide.2 ?_
              go_quiet (fail)
              have HVU : Hid (Below V.heap.size V (wr.drewN nq)) := Lib.hid (bel_drewN HBQ.out nq)
              clear cbb cbo cx0 cx1
              generalize wr.drewN nq = U at *
              have hUV := HVU.out
              have CU : Hid (Chg D W U) := Lib.hid (HCV.out.trans (Chg.of_below (D := fun _ => False) hUV) (fun g h => h.elim))
              have cb' := (KB.out U CU.out).1
              have JU := Lib.hid (HJ.out.bel HJV.out hUV)
              have GU := Lib.hid (gr_up HGV.out hUV.size)
              have XU : Hid (U.heap[V0.heap.size]? = some (.cells #[.int .i64 x0, .int .i64 x1] 29 (0, 0))) := Lib.hid ((hUV.block _ (Array.getElem?_eq_some_iff.1 HVX.out).1).trans HVX.out)
              clear hUV
              gi_wp2
              gi_loopw [36] (fun qv wr => ∃ (q : Nat) (E' : Nat → Prop), q ≤ nb - f2 ∧ qv = .int .i64 q ∧ (∀ (j : Nat) (y : TT), j < q → b[f2 + j]? = some y → y.1 = x0) ∧ J ((bothL (a.take i) b).length + q) E' wr ∧ Gr D E' W wr ∧ Chg D W wr ∧ ¬ E' V0.heap.size ∧ wr.heap[V0.heap.size]? = some (.cells #[.int .i64 x0, .int .i64 x1] 29 (0, 0))) (fun qv _ => nb - f2 - (intOf qv).toNat)
              case atStart => exact ⟨0, E, Nat.zero_le _, rfl, fun j y h => by omega, JU.out, GU.out, CU.out, NX.out, XU.out⟩
              case round =>
                obtain ⟨q, E2, hq, rfl, hqe, hj, hgr, hch, hne, hxb⟩ := hrel
                have HQE := Lib.hid hqe
                have HJ2 := Lib.hid hj
                have HG2 := Lib.hid hgr
                have HC2 := Lib.hid hch
                have HXB := Lib.hid hxb
                clear hqe hj hgr hch hxb
                have hq0 : ¬ (q : Int) < ((nb - f2 : Nat) : Int) := by omega
                gi_wp2
                refine ⟨⟨i + 1, f2, E2, by omega, hf2, by simp, rfl, fun j y i' x' hj hy hi' hx' => ?_, ?_, HG2.out, HC2.out⟩, by simp [intOf]; omega⟩
                · have hlt1 := HB2.out j y hj hy
                  have hle1 := srt_le HSA.out HX.out hx' (by omega)
                  simp only at hle1
                  omega
                · rw [both_snoc HX.out, List.length_append, List.length_map, (eqs_all (f := f2) (q := q) HSB.out (fun j y hj hy => HB2.out j y hj hy) HQE.out (.inl (by rw [HLB.out]; omega)) (by rw [HLB.out]; omega)).1]
                  exact HJ2.out
            · obtain rfl : f2 = cb := by omega
              obtain rfl : nb = f2 := by omega
              gi_wp2_with fail
              refine wpIn_wide.2 ?_
              go_quiet (fail)
              have HVU : Hid (Below V.heap.size V (wr.drewN nq)) := Lib.hid (bel_drewN HBQ.out nq)
              clear cbb cbo cx0 cx1
              generalize wr.drewN nq = U at *
              have hUV := HVU.out
              have CU : Hid (Chg D W U) := Lib.hid (HCV.out.trans (Chg.of_below (D := fun _ => False) hUV) (fun g h => h.elim))
              have cb' := (KB.out U CU.out).1
              have JU := Lib.hid (HJ.out.bel HJV.out hUV)
              have GU := Lib.hid (gr_up HGV.out hUV.size)
              have XU : Hid (U.heap[V0.heap.size]? = some (.cells #[.int .i64 x0, .int .i64 x1] 29 (0, 0))) := Lib.hid ((hUV.block _ (Array.getElem?_eq_some_iff.1 HVX.out).1).trans HVX.out)
              clear hUV
              gi_wp2
              gi_loopw [36] (fun qv wr => ∃ (q : Nat) (E' : Nat → Prop), q ≤ nb - nb ∧ qv = .int .i64 q ∧ (∀ (j : Nat) (y : TT), j < q → b[nb + j]? = some y → y.1 = x0) ∧ J ((bothL (a.take i) b).length + q) E' wr ∧ Gr D E' W wr ∧ Chg D W wr ∧ ¬ E' V0.heap.size ∧ wr.heap[V0.heap.size]? = some (.cells #[.int .i64 x0, .int .i64 x1] 29 (0, 0))) (fun qv _ => nb - nb - (intOf qv).toNat)
              case atStart => exact ⟨0, E, Nat.zero_le _, rfl, fun j y h => by omega, JU.out, GU.out, CU.out, NX.out, XU.out⟩
              case round =>
                obtain ⟨q, E2, hq, rfl, hqe, hj, hgr, hch, hne, hxb⟩ := hrel
                have HQE := Lib.hid hqe
                have HJ2 := Lib.hid hj
                have HG2 := Lib.hid hgr
                have HC2 := Lib.hid hch
                have HXB := Lib.hid hxb
                clear hqe hj hgr hch hxb
                have hq0 : ¬ (q : Int) < ((nb - nb : Nat) : Int) := by omega
                gi_wp2
                refine ⟨⟨i + 1, nb, E2, by omega, (Nat.le_refl _), by simp, rfl, fun j y i' x' hj hy hi' hx' => ?_, ?_, HG2.out, HC2.out⟩, by simp [intOf]; omega⟩
                · have hlt1 := HB2.out j y hj hy
                  have hle1 := srt_le HSA.out HX.out hx' (by omega)
                  simp only at hle1
                  omega
                · rw [both_snoc HX.out, List.length_append, List.length_map, (eqs_all (f := nb) (q := q) HSB.out (fun j y hj hy => HB2.out j y hj hy) HQE.out (.inl (by rw [HLB.out]; omega)) (by rw [HLB.out]; omega)).1]
                  exact HJ2.out
    · have i1 : ¬ (i : Int) < (na : Int) := by omega
      have e : a.take i = a := List.take_of_length_le (by rw [HLA.out]; omega)
      have hj := HJK.out
      rw [e] at hj
      have HJE := Lib.hid hj
      clear hj e
      gi_wp2
      go_end0
      exact ⟨⟨_, rfl⟩, E, HGR.out, HCH.out, .inl HJE.out⟩
end Go.Proofs.Ytpijaphcknoobaa
