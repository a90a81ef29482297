/- Both alike. -/
import Derived.Test.YtpihoegikojlaaaS6
namespace Go.Proofs.Ytpihoegikojlaaa
set_option linter.unusedSimpArgs false
open Go.RowKit Go.Maps
set_option linter.unusedVariables false
variable {F : Nat → Prop}

open Go.Shelf
attribute [local go_sem] Oper.semAt_some

set_option maxRecDepth 100000 in
set_option maxHeartbeats 8000000 in
set_option pp.maxSteps 1000000 in
set_option pp.deepTerms true in
theorem alike_any {lo N : Nat} {K : Nat → Prop} {b : AB} {w : World} {cs : Array Value} (h : ST lo N K b b w cs) : Calls Try.prog 11 #[.pointer (some ⟨N, 0, none⟩), .agg cs] w fun e w' => e = .returned (.bool true) ∧ Below w.heap.size w w' := by
  obtain ⟨L, hL⟩ : ∃ L, L = tkL b b.top := ⟨_, rfl⟩
  obtain ⟨V, hV⟩ : ∃ V, V = (((w.alloc (.cells cs 33)).alloc (.cells #[.bool false] 4)).alloc (.cells #[.int .i64 0] 3)).alloc (.cells #[.int .i64 0] 3) := ⟨_, rfl⟩
  have hsV : V.heap.size = w.heap.size + 4 := by rw [hV]; simp
  have bV : Below w.heap.size w V := by rw [hV]; exact bel_alloc (bel_alloc (bel_alloc (bel_alloc (Below.refl _ _) _) _) _) _
  have hv0 : V.heap[w.heap.size]? = some (.cells cs 33 (0, 0)) := by
    rw [hV]; exact (Rows_old _ _ _ (by simp <;> omega)).trans ((Rows_old _ _ _ (by simp <;> omega)).trans (heap_alloc2_old w _ _))
  have hv1 : Boxed V (w.heap.size + 1) 4 (.bool false) := by
    rw [hV]; exact (Rows_old _ _ _ (by simp <;> omega)).trans ((Rows_old _ _ _ (by simp)).trans (heap_alloc2_new w _ _))
  have hv2 : Boxed V (w.heap.size + 2) 3 (.int .i64 0) := by
    rw [hV]
    have h := heap_alloc2_old ((w.alloc (.cells cs 33)).alloc (.cells #[.bool false] 4)) (.cells #[.int .i64 0] 3) (.cells #[.int .i64 0] 3)
    simp only [World.size_alloc, Nat.add_assoc] at h
    exact h
  have hv3 : Boxed V (w.heap.size + 3) 3 (.int .i64 0) := by
    rw [hV]
    have h := heap_alloc2_new ((w.alloc (.cells cs 33)).alloc (.cells #[.bool false] 4)) (.cells #[.int .i64 0] 3) (.cells #[.int .i64 0] 3)
    simp only [World.size_alloc, Nat.add_assoc] at h
    exact h
  have HST := Lib.hid (h.wide bV (fun g => w.heap.size ≤ g ∧ g < w.heap.size + 4) (fun g hg => .inr ⟨hg.1, by omega⟩))
  have HA := Lib.hid (q_all HST.out)
  rw [← hL] at HA
  have HV0 := Lib.hid hv0
  have HV1 := Lib.hid hv1
  have HV2 := Lib.hid hv2
  have HV3 := Lib.hid hv3
  have BV := Lib.hid bV
  have HSV := Lib.hid hsV
  have HIV := Lib.hid h.iv.1
  have HCC := Lib.hid h.cells
  have HSZ := Lib.hid h.size
  have HL := Lib.hid hL
  clear h hv0 hv1 hv2 hv3 bV hsV hL
  subst hV
  refine (callsIn_wide (n := 4)).1 ?_
  refine callsIn_of_wp_marks Try.func11 rfl trivial ?_ rfl
  simp only [Try.ntmps11, List.size_toArray, List.length_cons, List.length_nil, Nat.reduceAdd, Nat.reduceSub, Array.replicate_succ, Array.replicate_zero, List.push_toArray, List.append_toArray, List.nil_append, List.cons_append]
  gi_wp2_with fail
  refine ⟨trivial, (callsIn_wide.2 HA.out).mono ?_⟩
  rintro e w6 ⟨lb6, F6, R6, rfl, hb6, hs6, hr6, hrb6, hf6⟩
  have B6 := Lib.hid hb6
  have S6 := Lib.hid hs6
  have HR6 := Lib.hid hr6
  have HRB6 := Lib.hid hrb6
  have HF6 := Lib.hid hf6
  clear hr6 hrb6 hf6
  have hnil := run_isnil (.func 34) #[] lb6
  clear hb6 hs6
  gi_wp2
  obtain ⟨n1, hn1⟩ : ∃ n1, n1 = w.heap.size + 1 + 1 := ⟨_, rfl⟩
  obtain ⟨n2, hn2⟩ : ∃ n2, n2 = w.heap.size + 1 + 1 + 1 := ⟨_, rfl⟩
  have q0 := Lib.hid (blk_bel B6.out HV0.out)
  have q1 := Lib.hid (boxed_later HV1.out B6.out)
  have q2 := boxed_later HV2.out B6.out
  have q3 := boxed_later HV3.out B6.out
  have hs6 := B6.out.size
  have hs5 := HSV.out
  have ST6 := Lib.hid (HST.out.later B6.out)
  rw [hs5] at hs6
  have HS6 := Lib.hid hs6
  clear hs5 hs6
  refine range_R (gf := 34) (lb := lb6) (encs := enc) (xs := L) rfl (enters_of Try.func34 (by kernel_rfl) rfl) S6.out HR6.out HRB6.out (fun g hg => (HF6.out g hg).2) (fun _ => rfl) (AlI (w.heap.size + 2) (w.heap.size + 3) L) (fun _ _ _ _ => False) (alI_loc _ _ _ _) (fun c k D W W' h _ => h)
    (fun g => g = w.heap.size + 2 ∨ g = w.heap.size + 3) (fun g hg => ?_) ⟨rfl, q2, q3⟩
    (fun p U => { tmps := #[.pointer (some ⟨N, 0, none⟩), .agg cs, undef, .pointer (some ⟨w.heap.size, 0, none⟩), .pointer (some ⟨w.heap.size + 1, 0, none⟩), .pointer (some ⟨w.heap.size + 1 + 1, 0, none⟩), .pointer (some ⟨w.heap.size + 1 + 1 + 1, 0, none⟩), .func (.func 34) #[] lb6, .int .i64 p.1, .int .i64 p.2, .pointer (some ⟨N, 0, none⟩), .func (.func 34) #[] lb6, .func (.func 34) #[] lb6, .bool false, .func (.func 34) #[] lb6, .int .i64 p.1, .int .i64 p.2, undef, undef, undef, undef, undef, undef, undef, undef, undef, undef, undef, undef, undef, undef, undef, undef, undef, undef, undef, undef, undef, undef, undef, undef, undef, undef, undef, undef, undef, undef, undef, undef, undef, undef, undef, undef, undef, undef, undef, undef, undef, undef, undef, undef, undef, undef], defers := [] }) (fun p U => U) (fun p U => Below.refl _ _) ?assign ?body ?done ?stop
  · have h5 := HSV.out
    have h6 := HS6.out
    refine ⟨fun hf => ?_, by omega⟩
    have := (HF6.out g hf).1
    omega
  case assign =>
    intro m l x U K hK
    gi_wp2
    exact hK
  case body =>
    rintro m l k p D U V o hx hl hlU rfl hinD hlD hgr hch ⟨rfl, hbn, hbl⟩
    obtain ⟨x0, x1⟩ := p
    obtain ⟨Z, hZ⟩ : ∃ Z, Z = U.putObj l o := ⟨_, rfl⟩
    rw [← hZ] at hch hbn hbl
    have hup := tkL_up b.top k (x0, x1) (by rw [← HL.out]; exact hx)
    rw [← HL.out] at hup
    obtain ⟨j, hj, hje, hjt⟩ := tkL_key b.top k (x0, x1) (by rw [← HL.out]; exact hx)
    obtain ⟨rfl, rfl⟩ : x0 = (j : Int) + 1 ∧ x1 = b.vl (j + 1) := by injection hje with a b; exact ⟨a, b⟩
    have ht60 := HIV.out.top60
    have hlen : k < L.length := (List.getElem?_eq_some_iff.1 hx).1
    have hle : L.length ≤ 64 := by rw [HL.out, HIV.out.all]; exact cnt_le _ _
    have hlk : lastK L (k + 1) = (j : Int) + 1 := by simp [lastK, List.getD_eq_getElem?_getD, hx]
    have STZ := Lib.hid (ST6.out.chg (hch.more (fun g hg => .inl (by omega))))
    have CT := d_there STZ.out ((j : Int) + 1)
    have hth : thereD b ((j : Int) + 1) = true := by
      have := there_nat (b := b) (k := j + 1) (by omega) (by omega)
      rw [hjt] at this; exact this
    rw [hth] at CT
    have HCT := Lib.hid CT
    have r0 : Z.heap[w.heap.size]? = some (.cells cs 33 (0, 0)) := (hch.block _ (by have := HS6.out; omega) (by omega)).trans q0.out
    have c66 : ∀ Y : World, Y.heap[w.heap.size]? = some (.cells cs 33 (0, 0)) → Y.cell? ⟨w.heap.size, 66 + (j + 1), none⟩ = some (.int .i64 (b.vl (j + 1))) := fun Y hY => (cell_of_row _ _ _ _ _ _ hY).trans (HCC.out.2.2.2 (j + 1) (by omega))
    have cl := hbl.cell
    have R0 := Lib.hid r0
    have HC66 := Lib.hid c66
    have HBN := Lib.hid hbn
    have HBL := Lib.hid hbl
    have HLK := Lib.hid hlk
    obtain ⟨y, hy⟩ : ∃ y, y = b.vl (j + 1) := ⟨_, rfl⟩
    rw [← hy] at c66 HC66
    rw [← hy]
    have a1 : ¬ ((j : Int) + 1 ≤ lastK L k) := by simp only at hup; omega
    have a2 : (j : Int) + 1 < 64 := by omega
    have a3 : (0 : Int) ≤ (j : Int) + 1 := by omega
    have a4 : ((j : Int) + 1).toNat = j + 1 := by omega
    have a5 : (k : Int) ≤ 64 := by omega
    obtain ⟨lk, hlk2⟩ : ∃ lk, lk = lastK L k := ⟨_, rfl⟩
    rw [← hlk2] at a1 cl HBL
    clear hx hch hbn hbl hup hje CT r0 c66 hlk hlk2 hinD hlD hgr hy hth
    change (Code.block 1 _).wpIn _ _ _ _ _ (U.putObj l o)
    rw [← hZ]
    clear hZ
    gi_wp2_with (first
      | (refine wpListIn_load_row (by rfl) (.tmp 3) rfl w.heap.size rfl cs R0.out HSZ.out ?_)
      | fail)
    refine ⟨trivial, fun h => (by cases h), (CallsIn.inRound l (callsIn_wide.2 HCT.out)).mono ?_⟩
    rintro e w7 ⟨rfl, b7⟩
    have s0 := blk_bel b7 R0.out
    have d66 := HC66.out w7 s0
    have bn7 := boxed_later HBN.out b7
    have bl7 := boxed_later HBL.out b7
    have cn7 := bn7.cell
    have fn7 := bn7.frozen
    have cl7 := bl7.cell
    have fl7 := bl7.frozen
    have BN7 := Lib.hid bn7
    have BL7 := Lib.hid bl7
    have B7 := Lib.hid b7
    clear s0 bn7 bl7 b7
    gi_wp2
    have y1 : Boxed (w7.setCell ⟨w.heap.size + 3, 0, none⟩ (.int .i64 ((j : Int) + 1))) (w.heap.size + 2) 3 (.int .i64 k) := boxed_chg BN7.out (Chg.set (D := fun g => g = w.heap.size + 3) w7 _ rfl) (by omega)
    have y2 := BL7.out.set (.int .i64 ((j : Int) + 1))
    have y3 : Boxed ((w7.setCell ⟨w.heap.size + 3, 0, none⟩ (.int .i64 ((j : Int) + 1))).setCell ⟨w.heap.size + 2, 0, none⟩ (.int .i64 ((k : Int) + 1))) (w.heap.size + 3) 3 (.int .i64 ((j : Int) + 1)) := boxed_chg y2 (Chg.set (D := fun g => g = w.heap.size + 2) _ _ rfl) (by omega)
    refine ⟨_, Gr.refl _ _ _, ((Chg.of_below B7.out).trans (Chg.set (D := fun g => g = w.heap.size + 2 ∨ g = w.heap.size + 3) w7 _ (.inr rfl)) (fun g hg => .inl hg)).trans (Chg.set (D := fun g => g = w.heap.size + 2 ∨ g = w.heap.size + 3) _ _ (.inl rfl)) (fun g hg => .inl hg), rfl, y1.set _, ?_⟩
    rw [HLK.out]
    exact y3
  case done =>
    rintro D E U hD hE hgr hch ⟨rfl, hbn, hbl⟩ hK
    have STU := Lib.hid (ST6.out.chg (hch.more (fun g hg => .inl (by omega))))
    have r0 : U.heap[w.heap.size]? = some (.cells cs 33 (0, 0)) := (hch.block _ (by have := HS6.out; omega) (by omega)).trans q0.out
    have r1 : Boxed U (w.heap.size + 1) 4 (.bool false) := boxed_chg q1.out hch (by omega)
    have hnn : (L.length : Int) = (cnt b.tk 64 : Int) := by rw [HL.out, HIV.out.all]
    rw [hnn] at hbn
    obtain ⟨nn, hnn2⟩ : ∃ nn : Int, nn = (cnt b.tk 64 : Int) := ⟨_, rfl⟩
    rw [← hnn2] at hbn
    have HNN := Lib.hid hnn2
    have n0 : 0 ≤ nn := by omega
    have n1 : nn ≤ 64 := by have := cnt_le b.tk 64; omega
    have m0 := HIV.out.m0
    have m1 := HIV.out.m1
    have hwr : IntKind.i64.wrap (b.most - nn) = b.most - nn := IntWalk.i64_in _ (by omega)
    have b6U : Below w.heap.size w U := BV.out.trans ((B6.out.mono (by have := HSV.out; omega)).trans (hch.below (fun g hg => by omega) (by have := HS6.out; omega)))
    have BU := Lib.hid b6U
    have HKD := Lib.hid hK
    have HDW := Lib.hid hD
    have R0 := Lib.hid r0
    have R1 := Lib.hid r1
    have HBN := Lib.hid hbn
    have C0 := HCC.out.1
    have C1 := HCC.out.2.1
    clear hnn hnn2 b6U hK r0 r1 hbn hbl hgr hch
    gi_wp2_with fail
    refine wpIn_calm (wpIn_wide.2 ?_)
    have BD0 : Hid (Below U.heap.size U U.drew) := Lib.hid (drew_bel U)
    have ST0D := Lib.hid (STU.out.later BD0.out)
    have CDL : Hid (∀ V, ST lo N (fun g => w.heap.size ≤ g ∧ g < w.heap.size + 4) b b V cs → Calls Try.prog 31 #[.agg cs] V fun e w' => e = .returned (.int .i64 nn) ∧ Below V.heap.size V w') := Lib.hid (fun V h => by rw [HNN.out]; exact d_len h)
    have CQL : Hid (∀ V, ST lo N (fun g => w.heap.size ≤ g ∧ g < w.heap.size + 4) b b V cs → Calls Try.prog 15 #[.pointer (some ⟨N, 0, none⟩)] V fun e w' => e = .returned (.int .i64 nn) ∧ Below V.heap.size V w') := Lib.hid (fun V h => by rw [HNN.out]; exact q_len h)
    have CQF : Hid (∀ V, ST lo N (fun g => w.heap.size ≤ g ∧ g < w.heap.size + 4) b b V cs → Calls Try.prog 9 #[.pointer (some ⟨N, 0, none⟩)] V fun e w' => e = .returned (.int .i64 (b.most - nn)) ∧ Below V.heap.size V w') := Lib.hid (fun V h => by rw [HNN.out]; exact q_left h)
    refine wp_region_held_drew (S := (fun V => V.heap[w.heap.size]? = some (.cells cs 33 (0, 0)) ∧ V.heap[w.heap.size + 2]? = some (.cells #[.int .i64 nn] 3 (0, 0)))) (by kernel_rfl) ?_ (fun hHeld => ?_)
    · exact ⟨R0.out, HBN.out⟩
    refine wpAnyH_take (i := 0) (oi := { dst := some 37, op := Op.load 3 (Operand.tmp 5), type := 3, pos := "law.go:78", after := #[], guard := none }) (v := Value.int .i64 nn) rfl (by kernel_rfl) (by kernel_rfl) (by kernel_rfl) (fun _ _ _ h => h) (Or.inl ⟨by rfl, ?_⟩) hHeld ?_
    · intro V hV; have hc0 := cell_of_row _ _ 0 _ _ _ hV.2; clear hV; go_simp
    try simp only [Act.put, List.setIfInBounds_toArray, List.set_cons_zero, List.set_cons_succ]
    refine wpAnyH_take (i := 1) (oi := { dst := some 38, op := Op.load 33 (Operand.tmp 3), type := 33, pos := "law.go:78", after := #[], guard := none }) (v := Value.agg cs) rfl (by kernel_rfl) (by kernel_rfl) (by kernel_rfl) (fun _ _ _ h => h) (Or.inl ⟨by rfl, fun V hV => ex_load_row (.tmp 3) rfl w.heap.size rfl cs hV.1 HSZ.out⟩) hHeld ?_
    try simp only [Act.put, List.setIfInBounds_toArray, List.set_cons_zero, List.set_cons_succ]
    refine wpAnyH_ready (rs := [2]) (by kernel_rfl) (by simp) ?_
    refine AllReadyH.cons (o := { dst := some 39, op := Op.call { callee := Callee.value (Operand.func 31), args := #[Operand.tmp 38], argTypes := #[33] }, type := 3, pos := "law.go:78", after := #[{ on := 1, ground := Ground.data }], guard := none }) rfl (fun K hK => ?_) AllReadyH.nil
    go_simp
    go_at_call 31; (refine (CDL.out _ ST0D.out).mono ?_; rintro e u1 ⟨rfl, hb⟩; have BD1 := Lib.hid (BD0.out.trans (hb.mono BD0.out.size)); have ST1D := Lib.hid (ST0D.out.later hb); clear hb)
    try go_wp2_with fail
    refine hK.out _ _ ?_ (fun hHeld => ?_)
    · exact ⟨blk_bel BD1.out R0.out, blk_bel BD1.out HBN.out⟩
    clear hK K
    try simp only [Act.put, List.setIfInBounds_toArray, List.set_cons_zero, List.set_cons_succ]
    refine wpAnyH_take (i := 3) (oi := { dst := some 40, op := Op.binOp BinOp.eql 3 (Operand.tmp 37) (Operand.tmp 39) 3, type := 4, pos := "law.go:78", after := #[{ on := 0, ground := Ground.data }, { on := 2, ground := Ground.data }], guard := none }) (v := ?_) rfl (by kernel_rfl) (by kernel_rfl) (by kernel_rfl) (fun _ _ _ h => h) (Or.inl ⟨by rfl, ?_⟩) hHeld ?_
    rotate_left
    · intro w hSw; clear hSw; go_simp; try with_reducible rfl
    try simp only [Act.put, List.setIfInBounds_toArray, List.set_cons_zero, List.set_cons_succ]
    refine wpAnyH_take (i := 4) (oi := { dst := some 41, op := Op.move (Operand.tmp 40), type := 4, pos := "law.go:78", after := #[{ on := 3, ground := Ground.data }, { on := 2, ground := Ground.chain }], guard := none }) (v := ?_) rfl (by kernel_rfl) (by kernel_rfl) (by kernel_rfl) (fun _ _ _ h => h) (Or.inl ⟨by rfl, ?_⟩) hHeld ?_
    rotate_left
    · intro w hSw; clear hSw; go_simp; try with_reducible rfl
    try simp only [Act.put, List.setIfInBounds_toArray, List.set_cons_zero, List.set_cons_succ]
    refine wpAnyH_take (i := 5) (oi := { dst := some 42, op := Op.move (Operand.tmp 0), type := 23, pos := "law.go:78", after := #[{ on := 4, ground := Ground.guard }], guard := some (4, true) }) (v := ?_) rfl (by kernel_rfl) (by kernel_rfl) (by kernel_rfl) (fun _ _ _ h => h) (Or.inl ⟨by rfl, ?_⟩) hHeld ?_
    rotate_left
    · intro w hSw; clear hSw; go_simp; try with_reducible rfl
    try simp only [Act.put, List.setIfInBounds_toArray, List.set_cons_zero, List.set_cons_succ]
    refine wpAnyH_take (i := 7) (oi := { dst := some 44, op := Op.load 3 (Operand.tmp 5), type := 3, pos := "law.go:78", after := #[{ on := 4, ground := Ground.guard }], guard := some (4, true) }) (v := Value.int .i64 nn) rfl (by kernel_rfl) (by kernel_rfl) (by kernel_rfl) (fun _ _ _ h => h) (Or.inl ⟨by rfl, ?_⟩) hHeld ?_
    · intro V hV; have hc0 := cell_of_row _ _ 0 _ _ _ hV.2; clear hV; go_simp
    try simp only [Act.put, List.setIfInBounds_toArray, List.set_cons_zero, List.set_cons_succ]
    refine wpAnyH_ready (rs := [6]) (by kernel_rfl) (by simp) ?_
    refine AllReadyH.cons (o := { dst := some 43, op := Op.call { callee := Callee.value (Operand.func 15), args := #[Operand.tmp 42], argTypes := #[23] }, type := 3, pos := "law.go:78", after := #[{ on := 5, ground := Ground.data }, { on := 4, ground := Ground.chain }, { on := 4, ground := Ground.guard }], guard := some (4, true) }) rfl (fun K hK => ?_) AllReadyH.nil
    go_simp
    go_at_call 15; (refine (CQL.out _ ST1D.out).mono ?_; rintro e u2 ⟨rfl, hb⟩; have BD2 := Lib.hid (BD1.out.trans (hb.mono BD1.out.size)); have ST2D := Lib.hid (ST1D.out.later hb); clear hb)
    try go_wp2_with fail
    refine hK.out _ _ ?_ (fun hHeld => ?_)
    · exact ⟨blk_bel BD2.out R0.out, blk_bel BD2.out HBN.out⟩
    clear hK K
    try simp only [Act.put, List.setIfInBounds_toArray, List.set_cons_zero, List.set_cons_succ]
    refine wpAnyH_take (i := 8) (oi := { dst := some 45, op := Op.binOp BinOp.eql 3 (Operand.tmp 43) (Operand.tmp 44) 3, type := 4, pos := "law.go:78", after := #[{ on := 6, ground := Ground.data }, { on := 7, ground := Ground.data }, { on := 4, ground := Ground.guard }], guard := some (4, true) }) (v := ?_) rfl (by kernel_rfl) (by kernel_rfl) (by kernel_rfl) (fun _ _ _ h => h) (Or.inl ⟨by rfl, ?_⟩) hHeld ?_
    rotate_left
    · intro w hSw; clear hSw; go_simp; try with_reducible rfl
    try simp only [Act.put, List.setIfInBounds_toArray, List.set_cons_zero, List.set_cons_succ]
    refine wpAnyH_take (i := 9) (oi := { dst := some 46, op := Op.pick (Operand.tmp 41) (Operand.tmp 45) (Operand.const (Value.bool false)), type := 4, pos := "law.go:78", after := #[{ on := 4, ground := Ground.data }, { on := 8, ground := Ground.data }], guard := none }) (v := ?_) rfl (by kernel_rfl) (by kernel_rfl) (by kernel_rfl) (fun _ _ _ h => h) (Or.inl ⟨by rfl, ?_⟩) hHeld ?_
    rotate_left
    · intro w hSw; clear hSw; go_simp; try with_reducible rfl
    try simp only [Act.put, List.setIfInBounds_toArray, List.set_cons_zero, List.set_cons_succ]
    refine wpAnyH_take (i := 10) (oi := { dst := some 47, op := Op.move (Operand.tmp 46), type := 4, pos := "law.go:78", after := #[{ on := 9, ground := Ground.data }, { on := 6, ground := Ground.chain }], guard := none }) (v := ?_) rfl (by kernel_rfl) (by kernel_rfl) (by kernel_rfl) (fun _ _ _ h => h) (Or.inl ⟨by rfl, ?_⟩) hHeld ?_
    rotate_left
    · intro w hSw; clear hSw; go_simp; try with_reducible rfl
    try simp only [Act.put, List.setIfInBounds_toArray, List.set_cons_zero, List.set_cons_succ]
    refine wpAnyH_take (i := 11) (oi := { dst := some 48, op := Op.move (Operand.tmp 0), type := 23, pos := "law.go:78", after := #[{ on := 10, ground := Ground.guard }], guard := some (10, true) }) (v := ?_) rfl (by kernel_rfl) (by kernel_rfl) (by kernel_rfl) (fun _ _ _ h => h) (Or.inl ⟨by rfl, ?_⟩) hHeld ?_
    rotate_left
    · intro w hSw; clear hSw; go_simp; try with_reducible rfl
    try simp only [Act.put, List.setIfInBounds_toArray, List.set_cons_zero, List.set_cons_succ]
    refine wpAnyH_take (i := 13) (oi := { dst := some 50, op := Op.fieldAddr 33 (Operand.tmp 3) 0, type := 0, pos := "law.go:78", after := #[{ on := 10, ground := Ground.guard }], guard := some (10, true) }) (v := ?_) rfl (by kernel_rfl) (by kernel_rfl) (by kernel_rfl) (fun _ _ _ h => h) (Or.inl ⟨by rfl, ?_⟩) hHeld ?_
    rotate_left
    · intro w hSw; clear hSw; go_simp; try with_reducible rfl
    try simp only [Act.put, List.setIfInBounds_toArray, List.set_cons_zero, List.set_cons_succ]
    refine wpAnyH_take (i := 14) (oi := { dst := some 51, op := Op.load 3 (Operand.tmp 50), type := 3, pos := "law.go:78", after := #[{ on := 13, ground := Ground.data }, { on := 10, ground := Ground.guard }], guard := some (10, true) }) (v := Value.int .i64 b.most) rfl (by kernel_rfl) (by kernel_rfl) (by kernel_rfl) (fun _ _ _ h => h) (Or.inl ⟨by rfl, ?_⟩) hHeld ?_
    · intro V hV; have hc0 := (cell_of_row _ _ 0 _ _ _ hV.1).trans C0; clear hV; go_simp
    try simp only [Act.put, List.setIfInBounds_toArray, List.set_cons_zero, List.set_cons_succ]
    refine wpAnyH_take (i := 15) (oi := { dst := some 52, op := Op.load 3 (Operand.tmp 5), type := 3, pos := "law.go:78", after := #[{ on := 10, ground := Ground.guard }], guard := some (10, true) }) (v := Value.int .i64 nn) rfl (by kernel_rfl) (by kernel_rfl) (by kernel_rfl) (fun _ _ _ h => h) (Or.inl ⟨by rfl, ?_⟩) hHeld ?_
    · intro V hV; have hc0 := cell_of_row _ _ 0 _ _ _ hV.2; clear hV; go_simp
    try simp only [Act.put, List.setIfInBounds_toArray, List.set_cons_zero, List.set_cons_succ]
    refine wpAnyH_take (i := 16) (oi := { dst := some 53, op := Op.binOp BinOp.sub 3 (Operand.tmp 51) (Operand.tmp 52) 3, type := 3, pos := "law.go:78", after := #[{ on := 14, ground := Ground.data }, { on := 15, ground := Ground.data }, { on := 10, ground := Ground.guard }], guard := some (10, true) }) (v := ?_) rfl (by kernel_rfl) (by kernel_rfl) (by kernel_rfl) (fun _ _ _ h => h) (Or.inl ⟨by rfl, ?_⟩) hHeld ?_
    rotate_left
    · intro w hSw; clear hSw; go_simp; try with_reducible rfl
    try simp only [Act.put, List.setIfInBounds_toArray, List.set_cons_zero, List.set_cons_succ]
    refine wpAnyH_ready (rs := [12]) (by kernel_rfl) (by simp) ?_
    refine AllReadyH.cons (o := { dst := some 49, op := Op.call { callee := Callee.value (Operand.func 9), args := #[Operand.tmp 48], argTypes := #[23] }, type := 3, pos := "law.go:78", after := #[{ on := 11, ground := Ground.data }, { on := 10, ground := Ground.chain }, { on := 10, ground := Ground.guard }], guard := some (10, true) }) rfl (fun K hK => ?_) AllReadyH.nil
    go_simp
    go_at_call 9; (refine (CQF.out _ ST2D.out).mono ?_; rintro e u3 ⟨rfl, hb⟩; have BD3 := Lib.hid (BD2.out.trans (hb.mono BD2.out.size)); have ST3D := Lib.hid (ST2D.out.later hb); clear hb)
    try go_wp2_with fail
    refine hK.out _ _ ?_ (fun hHeld => ?_)
    · exact ⟨blk_bel BD3.out R0.out, blk_bel BD3.out HBN.out⟩
    clear hK K
    try simp only [Act.put, List.setIfInBounds_toArray, List.set_cons_zero, List.set_cons_succ]
    refine wpAnyH_take (i := 17) (oi := { dst := some 54, op := Op.binOp BinOp.eql 3 (Operand.tmp 49) (Operand.tmp 53) 3, type := 4, pos := "law.go:78", after := #[{ on := 12, ground := Ground.data }, { on := 16, ground := Ground.data }, { on := 10, ground := Ground.guard }], guard := some (10, true) }) (v := ?_) rfl (by kernel_rfl) (by kernel_rfl) (by kernel_rfl) (fun _ _ _ h => h) (Or.inl ⟨by rfl, ?_⟩) hHeld ?_
    rotate_left
    · intro w hSw; clear hSw; go_simp; try with_reducible rfl
    try simp only [Act.put, List.setIfInBounds_toArray, List.set_cons_zero, List.set_cons_succ]
    refine wpAnyH_take (i := 18) (oi := { dst := some 55, op := Op.pick (Operand.tmp 47) (Operand.tmp 54) (Operand.const (Value.bool false)), type := 4, pos := "law.go:78", after := #[{ on := 10, ground := Ground.data }, { on := 17, ground := Ground.data }], guard := none }) (v := ?_) rfl (by kernel_rfl) (by kernel_rfl) (by kernel_rfl) (fun _ _ _ h => h) (Or.inl ⟨by rfl, ?_⟩) hHeld ?_
    rotate_left
    · intro w hSw; clear hSw; go_simp; try with_reducible rfl
    try simp only [Act.put, List.setIfInBounds_toArray, List.set_cons_zero, List.set_cons_succ]
    refine wpAnyH_take (i := 19) (oi := { dst := some 56, op := Op.move (Operand.tmp 55), type := 4, pos := "law.go:78", after := #[{ on := 18, ground := Ground.data }, { on := 12, ground := Ground.chain }], guard := none }) (v := ?_) rfl (by kernel_rfl) (by kernel_rfl) (by kernel_rfl) (fun _ _ _ h => h) (Or.inl ⟨by rfl, ?_⟩) hHeld ?_
    rotate_left
    · intro w hSw; clear hSw; go_simp; try with_reducible rfl
    try simp only [Act.put, List.setIfInBounds_toArray, List.set_cons_zero, List.set_cons_succ]
    refine wpAnyH_take (i := 20) (oi := { dst := some 57, op := Op.move (Operand.tmp 0), type := 23, pos := "law.go:78", after := #[{ on := 19, ground := Ground.guard }], guard := some (19, true) }) (v := ?_) rfl (by kernel_rfl) (by kernel_rfl) (by kernel_rfl) (fun _ _ _ h => h) (Or.inl ⟨by rfl, ?_⟩) hHeld ?_
    rotate_left
    · intro w hSw; clear hSw; go_simp; try with_reducible rfl
    try simp only [Act.put, List.setIfInBounds_toArray, List.set_cons_zero, List.set_cons_succ]
    refine wpAnyH_take (i := 22) (oi := { dst := some 59, op := Op.fieldAddr 33 (Operand.tmp 3) 1, type := 0, pos := "law.go:78", after := #[{ on := 19, ground := Ground.guard }], guard := some (19, true) }) (v := ?_) rfl (by kernel_rfl) (by kernel_rfl) (by kernel_rfl) (fun _ _ _ h => h) (Or.inl ⟨by rfl, ?_⟩) hHeld ?_
    rotate_left
    · intro w hSw; clear hSw; go_simp; try with_reducible rfl
    try simp only [Act.put, List.setIfInBounds_toArray, List.set_cons_zero, List.set_cons_succ]
    refine wpAnyH_take (i := 23) (oi := { dst := some 60, op := Op.load 3 (Operand.tmp 59), type := 3, pos := "law.go:78", after := #[{ on := 22, ground := Ground.data }, { on := 19, ground := Ground.guard }], guard := some (19, true) }) (v := Value.int .i64 b.top) rfl (by kernel_rfl) (by kernel_rfl) (by kernel_rfl) (fun _ _ _ h => h) (Or.inl ⟨by rfl, ?_⟩) hHeld ?_
    · intro V hV; have hc0 := (cell_of_row _ _ 1 _ _ _ hV.1).trans C1; clear hV; go_simp
    try simp only [Act.put, List.setIfInBounds_toArray, List.set_cons_zero, List.set_cons_succ]
    refine wpAnyH_ready (rs := [21]) (by kernel_rfl) (by simp) ?_
    refine AllReadyH.cons (o := { dst := some 58, op := Op.call { callee := Callee.value (Operand.func 32), args := #[Operand.tmp 57], argTypes := #[23] }, type := 3, pos := "law.go:78", after := #[{ on := 20, ground := Ground.data }, { on := 19, ground := Ground.chain }, { on := 19, ground := Ground.guard }], guard := some (19, true) }) rfl (fun K hK => ?_) AllReadyH.nil
    go_simp
    go_at_call 32; (refine (q_top ST3D.out).mono ?_; rintro e u4 ⟨rfl, rfl⟩; have BD4 := BD3; have ST4D := ST3D)
    try go_wp2_with fail
    refine hK.out _ _ ?_ (fun hHeld => ?_)
    · exact ⟨blk_bel BD4.out R0.out, blk_bel BD4.out HBN.out⟩
    clear hK K
    try simp only [Act.put, List.setIfInBounds_toArray, List.set_cons_zero, List.set_cons_succ]
    refine wpAnyH_take (i := 24) (oi := { dst := some 61, op := Op.binOp BinOp.eql 3 (Operand.tmp 58) (Operand.tmp 60) 3, type := 4, pos := "law.go:78", after := #[{ on := 21, ground := Ground.data }, { on := 23, ground := Ground.data }, { on := 19, ground := Ground.guard }], guard := some (19, true) }) (v := ?_) rfl (by kernel_rfl) (by kernel_rfl) (by kernel_rfl) (fun _ _ _ h => h) (Or.inl ⟨by rfl, ?_⟩) hHeld ?_
    rotate_left
    · intro w hSw; clear hSw; go_simp; try with_reducible rfl
    try simp only [Act.put, List.setIfInBounds_toArray, List.set_cons_zero, List.set_cons_succ]
    refine wpAnyH_take (i := 25) (oi := { dst := some 62, op := Op.pick (Operand.tmp 56) (Operand.tmp 61) (Operand.const (Value.bool false)), type := 4, pos := "law.go:78", after := #[{ on := 19, ground := Ground.data }, { on := 24, ground := Ground.data }], guard := none }) (v := ?_) rfl (by kernel_rfl) (by kernel_rfl) (by kernel_rfl) (fun _ _ _ h => h) (Or.inl ⟨by rfl, ?_⟩) hHeld ?_
    rotate_left
    · intro w hSw; clear hSw; go_simp; try with_reducible rfl
    try simp only [Act.put, List.setIfInBounds_toArray, List.set_cons_zero, List.set_cons_succ]
    refine wpAnyH_ready (rs := [26]) (by kernel_rfl) (by simp) ?_
    refine AllReadyH.cons (o := { dst := none, op := Op.store 4 (Operand.tmp 4) (Operand.tmp 62), type := 0, pos := "law.go:78", after := #[{ on := 25, ground := Ground.data }, { on := 21, ground := Ground.chain }, { on := 0, ground := Ground.phase }, { on := 1, ground := Ground.phase }, { on := 2, ground := Ground.phase }, { on := 3, ground := Ground.phase }, { on := 4, ground := Ground.phase }, { on := 5, ground := Ground.phase }, { on := 6, ground := Ground.phase }, { on := 7, ground := Ground.phase }, { on := 8, ground := Ground.phase }, { on := 9, ground := Ground.phase }, { on := 10, ground := Ground.phase }, { on := 11, ground := Ground.phase }, { on := 12, ground := Ground.phase }, { on := 13, ground := Ground.phase }, { on := 14, ground := Ground.phase }, { on := 15, ground := Ground.phase }, { on := 16, ground := Ground.phase }, { on := 17, ground := Ground.phase }, { on := 18, ground := Ground.phase }, { on := 19, ground := Ground.phase }, { on := 20, ground := Ground.phase }, { on := 21, ground := Ground.phase }, { on := 22, ground := Ground.phase }, { on := 23, ground := Ground.phase }, { on := 24, ground := Ground.phase }, { on := 25, ground := Ground.phase }], guard := none }) rfl (fun K hK => ?_) AllReadyH.nil
    have cb := (boxed_later R1.out BD4.out).cell; have fb := (boxed_later R1.out BD4.out).frozen
    go_simp
    refine hK.out _ _ ?_ (fun hHeld => ?_)
    · exact ⟨(heap_setCell_other _ _ _ _ (by simp)).trans (blk_bel BD4.out R0.out), (heap_setCell_other _ _ _ _ (by simp)).trans (blk_bel BD4.out HBN.out)⟩
    clear hK K
    try simp only [Act.put, List.setIfInBounds_toArray, List.set_cons_zero, List.set_cons_succ]
    refine wpAnyH_done (by kernel_rfl) ?_ _
    refine calm_normal ?_
    gi_wp2
    have hdl : w.heap.size + 1 < D := by have := HS6.out; omega
    have hBR : w.heap.size + 1 ≠ D := by omega
    have hKs : (u3.setCell ⟨w.heap.size + 1, 0, none⟩ (.bool true)).heap[D]? = some (.deferred (some [])) := (Below.heap_setCell _ _ _ _ (fun e => hBR e.symm)).trans (blk_bel BD3.out HKD.out)
    have bR2 := (boxed_later R1.out BD3.out).set (.bool true)
    have cRf := (show Boxed ((u3.setCell ⟨w.heap.size + 1, 0, none⟩ (.bool true)).putObj D (.deferred none)) (w.heap.size + 1) 4 (.bool true) from (World.putObj_heap_other hBR).trans bR2).cell
    refine ⟨by simp, .inl ⟨_, _, rfl, run_takeDeferred hKs, .bool true, by simp [results, Try.results11, go_sem, cRf], rfl, ?_⟩⟩
    have hBs : Below w.heap.size w (u3.setCell ⟨w.heap.size + 1, 0, none⟩ (.bool true)) := (BU.out.trans (BD3.out.mono BU.out.size)).setCell (p := ⟨w.heap.size + 1, 0, none⟩) (by simp) _
    exact (Chg.of_below (D := fun _ => False) hBs).trans (Chg.put (D := fun g => g = D) _ _ rfl) (fun g hg => .inr (by omega)) |>.below (fun g h => h.elim) (Nat.le_refl _)

  case stop =>
    rintro D c k E U hD hE hgr hch hk h
    exact h.elim
end Go.Proofs.Ytpihoegikojlaaa
