/- Nodes: Join. -/
import Derived.Test.YtilnpeekajnlhaaGreatTh02
import Derived.Test.YtilnpeekajnlhaaGreatTh29
import Derived.Test.YtilnpeekajnlhaaGreatTh32
import Derived.Test.YtilnpeekajnlhaaGreatTh26
set_option linter.unusedVariables false
set_option linter.unusedSimpArgs false
namespace Go.Proofs.YtilnpeekajnlhaaGreat
open Go.RowKit Go.Maps
theorem at_k {K : Act → World → Prop} {a : Act} {W : World} (h : ∀ W2, W2 = W → K a W2) : K a W := h W rfl
set_option maxRecDepth 100000 in
set_option maxHeartbeats 8000000 in
theorem join_any (kd1 kd2 : Int) (P1 J1 M1 B1 P2 J2 M2 B2 : Option Addr) (n1 p1 k1 j1 l1 m1 b1 c1 n2 p2 k2 j2 l2 m2 b2 c2 : Nat) (pa pb : List ByteArray) (ia ib : List Int) (ma mb : List MG) (at_ : ByteArray) (w : World)
    (q1 : pa.length = n1) (q2 : ia.length = k1) (q3 : ma.length = l1) (q4 : pb.length = n2) (q5 : ib.length = k2) (q6 : mb.length = l2) (hb : n1 ≤ 100 ∧ n2 ≤ 100 ∧ k1 ≤ 100 ∧ k2 ≤ 100 ∧ l1 ≤ 100 ∧ l2 ≤ 100)
    (h1 : ES.Rd w P1 pa ∧ EI.Rd w J1 ia ∧ EG.Rd w M1 ma) (h2 : ES.Rd w P2 pb ∧ EI.Rd w J2 ib ∧ EG.Rd w M2 mb) :
    Calls Tryz.prog 13 #[NV kd1 (.slice P1 n1 p1) (.slice J1 k1 j1) (.slice M1 l1 m1) (.slice B1 b1 c1), NV kd2 (.slice P2 n2 p2) (.slice J2 k2 j2) (.slice M2 l2 m2) (.slice B2 b2 c2), .string at_] w (AddP w 2 (n1 + 1 + n2) (k1 + k2) (l1 + l2) (pa ++ [at_] ++ pb) (ia ++ ib) (stab (ma ++ mb))) := by
  have Q1 := Lib.hid q1; have Q2 := Lib.hid q2; have Q3 := Lib.hid q3; have Q4 := Lib.hid q4; have Q5 := Lib.hid q5; have Q6 := Lib.hid q6; have HB := Lib.hid hb
  have y1 := three_new w (NO kd1 (.slice P1 n1 p1) (.slice J1 k1 j1) (.slice M1 l1 m1) (.slice B1 b1 c1)) (NO kd2 (.slice P2 n2 p2) (.slice J2 k2 j2) (.slice M2 l2 m2) (.slice B2 b2 c2)) ZN
  have bw := bel_alloc (bel_alloc (alb w (NO kd1 (.slice P1 n1 p1) (.slice J1 k1 j1) (.slice M1 l1 m1) (.slice B1 b1 c1))) (NO kd2 (.slice P2 n2 p2) (.slice J2 k2 j2) (.slice M2 l2 m2) (.slice B2 b2 c2))) ZN
  obtain ⟨WJ, hWJ⟩ : ∃ WJ, WJ = ((w.alloc (NO kd1 (.slice P1 n1 p1) (.slice J1 k1 j1) (.slice M1 l1 m1) (.slice B1 b1 c1))).alloc (NO kd2 (.slice P2 n2 p2) (.slice J2 k2 j2) (.slice M2 l2 m2) (.slice B2 b2 c2))).alloc ZN := ⟨_, rfl⟩
  have SZ := Lib.hid (show w.heap.size + 3 ≤ WJ.heap.size by rw [hWJ]; simp)
  have HWJ := Lib.hid hWJ
  rw [← hWJ] at y1 bw
  have H0 := Lib.hid bw
  have H1 := Lib.hid (fun V (b : Below WJ.heap.size WJ V) => And.intro (h1.1.later (bel_trans bw b)) (And.intro (h1.2.1.later (bel_trans bw b)) (h1.2.2.later (bel_trans bw b))))
  have H2 := Lib.hid (fun V (b : Below WJ.heap.size WJ V) => And.intro (h2.1.later (bel_trans bw b)) (And.intro (h2.2.1.later (bel_trans bw b)) (h2.2.2.later (bel_trans bw b))))
  have QS := Lib.hid (show ∀ p ∈ ([(w.heap.size, (NO kd1 (.slice P1 n1 p1) (.slice J1 k1 j1) (.slice M1 l1 m1) (.slice B1 b1 c1))), (w.heap.size + 1, (NO kd2 (.slice P2 n2 p2) (.slice J2 k2 j2) (.slice M2 l2 m2) (.slice B2 b2 c2))), (w.heap.size + 1 + 1, ZN)] : List (Nat × Obj)), WJ.heap[p.1]? = some p.2 by
    intro p hp
    simp only [List.mem_cons, List.not_mem_nil, or_false] at hp
    rcases hp with rfl | rfl | rfl
    · exact y1.1
    · exact y1.2.1
    · exact y1.2.2)
  clear q1 q2 q3 q4 q5 q6 hb h1 h2 y1 bw hWJ
  go_enter Tryz.func13, Tryz.ntmps13
  go_upto_region 1 with fail
  rw [← HWJ.out]
  clear HWJ
  have KS := Lib.hid (SK.start QS.out)
  refine wp_region_held_drew (S := (fun V : World => V.heap[w.heap.size]? = some (NO kd1 (.slice P1 n1 p1) (.slice J1 k1 j1) (.slice M1 l1 m1) (.slice B1 b1 c1)) ∧ V.heap[w.heap.size + 1]? = some (NO kd2 (.slice P2 n2 p2) (.slice J2 k2 j2) (.slice M2 l2 m2) (.slice B2 b2 c2)))) (by kernel_rfl) ?_ (fun hHeld => ?_)
  · exact ⟨KS.out.g 0 rfl, KS.out.g 1 rfl⟩
  have HHeld := Lib.hid hHeld; clear hHeld
  refine wT (i := 0) (oi := { dst := some 7, op := Op.fieldAddr 28 (Operand.tmp 3) 1, type := 0, pos := "inner.go:165", after := #[], guard := none }) (v := ?_) rfl (Or.inl ⟨by rfl, ?_⟩) HHeld.out ?_
  rotate_left
  · intro w hSw; clear hSw; go_simp; try with_reducible rfl
  try simp only [pu, pn, s1, s2, s3]
  refine wT (i := 1) (oi := { dst := some 8, op := Op.load 23 (Operand.tmp 7), type := 23, pos := "inner.go:165", after := #[{ on := 0, ground := Ground.data }], guard := none }) (v := (.slice P1 n1 p1 : Value)) rfl (Or.inl ⟨by rfl, ?_⟩) HHeld.out ?_
  · intro V hV; have hc0 := (cells5 hV.1).2.1; clear hV; go_simp
  try simp only [pu, pn, s1, s2, s3]
  refine wT (i := 2) (oi := { dst := some 9, op := Op.move (Operand.tmp 2), type := 9, pos := "inner.go:165", after := #[], guard := none }) (v := ?_) rfl (Or.inl ⟨by rfl, ?_⟩) HHeld.out ?_
  rotate_left
  · intro w hSw; clear hSw; go_simp; try with_reducible rfl
  try simp only [pu, pn, s1, s2, s3]
  refine wT (i := 4) (oi := { dst := some 11, op := Op.fieldAddr 28 (Operand.tmp 4) 1, type := 0, pos := "inner.go:165", after := #[], guard := none }) (v := ?_) rfl (Or.inl ⟨by rfl, ?_⟩) HHeld.out ?_
  rotate_left
  · intro w hSw; clear hSw; go_simp; try with_reducible rfl
  try simp only [pu, pn, s1, s2, s3]
  refine wT (i := 5) (oi := { dst := some 12, op := Op.load 23 (Operand.tmp 11), type := 23, pos := "inner.go:165", after := #[{ on := 4, ground := Ground.data }], guard := none }) (v := (.slice P2 n2 p2 : Value)) rfl (Or.inl ⟨by rfl, ?_⟩) HHeld.out ?_
  · intro V hV; have hc0 := (cells5 hV.2).2.1; clear hV; go_simp
  try simp only [pu, pn, s1, s2, s3]
  refine wT (i := 8) (oi := { dst := some 15, op := Op.fieldAddr 28 (Operand.tmp 3) 2, type := 0, pos := "inner.go:165", after := #[], guard := none }) (v := ?_) rfl (Or.inl ⟨by rfl, ?_⟩) HHeld.out ?_
  rotate_left
  · intro w hSw; clear hSw; go_simp; try with_reducible rfl
  try simp only [pu, pn, s1, s2, s3]
  refine wT (i := 9) (oi := { dst := some 16, op := Op.load 24 (Operand.tmp 15), type := 24, pos := "inner.go:165", after := #[{ on := 8, ground := Ground.data }], guard := none }) (v := (.slice J1 k1 j1 : Value)) rfl (Or.inl ⟨by rfl, ?_⟩) HHeld.out ?_
  · intro V hV; have hc0 := (cells5 hV.1).2.2.1; clear hV; go_simp
  try simp only [pu, pn, s1, s2, s3]
  refine wT (i := 10) (oi := { dst := some 17, op := Op.fieldAddr 28 (Operand.tmp 4) 2, type := 0, pos := "inner.go:165", after := #[], guard := none }) (v := ?_) rfl (Or.inl ⟨by rfl, ?_⟩) HHeld.out ?_
  rotate_left
  · intro w hSw; clear hSw; go_simp; try with_reducible rfl
  try simp only [pu, pn, s1, s2, s3]
  refine wT (i := 11) (oi := { dst := some 18, op := Op.load 24 (Operand.tmp 17), type := 24, pos := "inner.go:165", after := #[{ on := 10, ground := Ground.data }], guard := none }) (v := (.slice J2 k2 j2 : Value)) rfl (Or.inl ⟨by rfl, ?_⟩) HHeld.out ?_
  · intro V hV; have hc0 := (cells5 hV.2).2.2.1; clear hV; go_simp
  try simp only [pu, pn, s1, s2, s3]
  refine wT (i := 14) (oi := { dst := some 21, op := Op.fieldAddr 28 (Operand.tmp 3) 3, type := 0, pos := "inner.go:165", after := #[], guard := none }) (v := ?_) rfl (Or.inl ⟨by rfl, ?_⟩) HHeld.out ?_
  rotate_left
  · intro w hSw; clear hSw; go_simp; try with_reducible rfl
  try simp only [pu, pn, s1, s2, s3]
  refine wT (i := 15) (oi := { dst := some 22, op := Op.load 25 (Operand.tmp 21), type := 25, pos := "inner.go:165", after := #[{ on := 14, ground := Ground.data }], guard := none }) (v := (.slice M1 l1 m1 : Value)) rfl (Or.inl ⟨by rfl, ?_⟩) HHeld.out ?_
  · intro V hV; have hc0 := (cells5 hV.1).2.2.2.1; clear hV; go_simp
  try simp only [pu, pn, s1, s2, s3]
  refine wT (i := 16) (oi := { dst := some 23, op := Op.fieldAddr 28 (Operand.tmp 4) 3, type := 0, pos := "inner.go:165", after := #[], guard := none }) (v := ?_) rfl (Or.inl ⟨by rfl, ?_⟩) HHeld.out ?_
  rotate_left
  · intro w hSw; clear hSw; go_simp; try with_reducible rfl
  try simp only [pu, pn, s1, s2, s3]
  refine wT (i := 17) (oi := { dst := some 24, op := Op.load 25 (Operand.tmp 23), type := 25, pos := "inner.go:165", after := #[{ on := 16, ground := Ground.data }], guard := none }) (v := (.slice M2 l2 m2 : Value)) rfl (Or.inl ⟨by rfl, ?_⟩) HHeld.out ?_
  · intro V hV; have hc0 := (cells5 hV.2).2.2.2.1; clear hV; go_simp
  try simp only [pu, pn, s1, s2, s3]
  refine wpAnyH_ready (rs := [3, 12]) (by kernel_rfl) (by simp) ?_
  refine AllReadyH.cons (o := { dst := some 10, op := Op.buildSlice 23 1 #[(0, Operand.tmp 9)], type := 23, pos := "inner.go:165", after := #[{ on := 2, ground := Ground.data }], guard := none }) rfl (fun K hK => ?_) (AllReadyH.cons (o := { dst := some 19, op := Op.buildSlice 100 2 #[(0, Operand.tmp 16), (1, Operand.tmp 18)], type := 100, pos := "inner.go:165", after := #[{ on := 9, ground := Ground.data }, { on := 11, ground := Ground.data }], guard := none }) rfl (fun K hK => ?_) AllReadyH.nil)
  · go_simp
    refine at_k (fun V3 hV3 => ?_)
    have bb := Lib.hid (show Below WJ.drew.heap.size WJ.drew V3 by rw [hV3]; exact alb _ _)
    have K3 := Lib.hid (KS.out.later bb.out)
    have R10 := Lib.hid (show ES.Rd V3 (some ⟨WJ.heap.size, 0, none⟩) [at_] by rw [hV3]; exact RE.Rd.lit (E := ES) WJ.drew 9 [at_] #[.string at_] rfl)
    clear bb hV3
    refine hK.out _ _ ?_ (fun hHeld => ?_)
    · exact ⟨K3.out.g 0 rfl, K3.out.g 1 rfl⟩
    clear HHeld; have HHeld := Lib.hid hHeld; clear hHeld
    clear hK K
    try simp only [pu, pn, s1, s2, s3]
    refine wpAnyH_ready (rs := [6, 12]) (by kernel_rfl) (by simp) ?_
    refine AllReadyH.cons (o := { dst := some 13, op := Op.buildSlice 98 3 #[(0, Operand.tmp 8), (1, Operand.tmp 10), (2, Operand.tmp 12)], type := 98, pos := "inner.go:165", after := #[{ on := 1, ground := Ground.data }, { on := 3, ground := Ground.data }, { on := 5, ground := Ground.data }], guard := none }) rfl (fun K hK => ?_) (AllReadyH.cons (o := { dst := some 19, op := Op.buildSlice 100 2 #[(0, Operand.tmp 16), (1, Operand.tmp 18)], type := 100, pos := "inner.go:165", after := #[{ on := 9, ground := Ground.data }, { on := 11, ground := Ground.data }], guard := none }) rfl (fun K hK => ?_) AllReadyH.nil)
    · go_simp
      refine at_k (fun V6 hV6 => ?_)
      have bb := Lib.hid (show Below V3.heap.size V3 V6 by rw [hV6]; exact alb _ _)
      have K6 := Lib.hid (K3.out.later bb.out)
      replace R10 := Lib.hid (R10.out.later bb.out)
      have G13 := Lib.hid (show V6.heap[V3.heap.size]? = some (.cells #[.slice P1 n1 p1, .slice (some ⟨WJ.heap.size, 0, none⟩) 1 1, .slice P2 n2 p2] 23) by rw [hV6]; exact heap_alloc_new V3 _)
      clear bb hV6
      refine hK.out _ _ ?_ (fun hHeld => ?_)
      · exact ⟨K6.out.g 0 rfl, K6.out.g 1 rfl⟩
      clear HHeld; have HHeld := Lib.hid hHeld; clear hHeld
      clear hK K
      try simp only [pu, pn, s1, s2, s3]
      refine wpAnyH_ready (rs := [7, 12]) (by kernel_rfl) (by simp) ?_
      refine AllReadyH.cons (o := { dst := some 14, op := Op.call { callee := Callee.value (Operand.func 34), args := #[Operand.tmp 13], argTypes := #[98] }, type := 23, pos := "inner.go:167", after := #[{ on := 6, ground := Ground.data }], guard := none }) rfl (fun K hK => ?_) (AllReadyH.cons (o := { dst := some 19, op := Op.buildSlice 100 2 #[(0, Operand.tmp 16), (1, Operand.tmp 18)], type := 100, pos := "inner.go:165", after := #[{ on := 9, ground := Ground.data }, { on := 11, ground := Ground.data }], guard := none }) rfl (fun K hK => ?_) AllReadyH.nil)
      · go_simp
        go_at_call 34; ((with_reducible refine (concatS _ P1 _ P2 n1 p1 1 1 n2 p2 pa [at_] pb _ G13.out Q1.out rfl Q4.out HB.out.1 (by omega) HB.out.2.1 (H1.out _ K6.out.b).1 R10.out (H2.out _ K6.out.b).1).mono ?_); rintro e V7 ⟨⟨PJ, pj, rfl, r⟩, b⟩; have RS := Lib.hid (r.base (b2 := WJ.heap.size) K6.out.b.size); have K7 := Lib.hid (K6.out.later b); replace R10 := Lib.hid (R10.out.later b); replace G13 := Lib.hid (keep_bel b G13.out); clear r b)
        refine hK.out _ _ ?_ (fun hHeld => ?_)
        · exact ⟨K7.out.g 0 rfl, K7.out.g 1 rfl⟩
        clear HHeld; have HHeld := Lib.hid hHeld; clear hHeld
        clear hK K
        try simp only [pu, pn, s1, s2, s3]
        refine wpAnyH_ready (rs := [12]) (by kernel_rfl) (by simp) ?_
        refine AllReadyH.cons (o := { dst := some 19, op := Op.buildSlice 100 2 #[(0, Operand.tmp 16), (1, Operand.tmp 18)], type := 100, pos := "inner.go:165", after := #[{ on := 9, ground := Ground.data }, { on := 11, ground := Ground.data }], guard := none }) rfl (fun K hK => ?_) AllReadyH.nil
        go_simp
        refine at_k (fun V12 hV12 => ?_)
        have bb := Lib.hid (show Below V7.heap.size V7 V12 by rw [hV12]; exact alb _ _)
        have K12 := Lib.hid (K7.out.later bb.out)
        replace RS := Lib.hid (RS.out.later bb.out)
        have G19 := Lib.hid (show V12.heap[V7.heap.size]? = some (.cells #[.slice J1 k1 j1, .slice J2 k2 j2] 24) by rw [hV12]; exact heap_alloc_new V7 _)
        clear bb hV12
        refine hK.out _ _ ?_ (fun hHeld => ?_)
        · exact ⟨K12.out.g 0 rfl, K12.out.g 1 rfl⟩
        clear HHeld; have HHeld := Lib.hid hHeld; clear hHeld
        clear hK K
        try simp only [pu, pn, s1, s2, s3]
        refine wpAnyH_ready (rs := [13]) (by kernel_rfl) (by simp) ?_
        refine AllReadyH.cons (o := { dst := some 20, op := Op.call { callee := Callee.value (Operand.func 35), args := #[Operand.tmp 19], argTypes := #[100] }, type := 24, pos := "inner.go:168", after := #[{ on := 12, ground := Ground.data }, { on := 7, ground := Ground.chain }], guard := none }) rfl (fun K hK => ?_) AllReadyH.nil
        go_simp
        go_at_call 35; ((with_reducible refine (concatI _ J1 J2 k1 j1 k2 j2 ia ib _ G19.out Q2.out Q5.out HB.out.2.2.1 HB.out.2.2.2.1 (H1.out _ K12.out.b).2.1 (H2.out _ K12.out.b).2.1).mono ?_); rintro e V13 ⟨⟨JJ, jj, rfl, r⟩, b⟩; have RI := Lib.hid (r.base (b2 := WJ.heap.size) K12.out.b.size); have K13 := Lib.hid (K12.out.later b); replace G19 := Lib.hid (keep_bel b G19.out); replace RS := Lib.hid (RS.out.later b); clear r b)
        refine hK.out _ _ ?_ (fun hHeld => ?_)
        · exact ⟨K13.out.g 0 rfl, K13.out.g 1 rfl⟩
        clear HHeld; have HHeld := Lib.hid hHeld; clear hHeld
        clear hK K
        try simp only [pu, pn, s1, s2, s3]
        refine wpAnyH_ready (rs := [18]) (by kernel_rfl) (by simp) ?_
        refine AllReadyH.cons (o := { dst := some 25, op := Op.call { callee := Callee.value (Operand.func 36), args := #[Operand.tmp 22, Operand.tmp 24], argTypes := #[25, 25] }, type := 25, pos := "inner.go:169", after := #[{ on := 15, ground := Ground.data }, { on := 17, ground := Ground.data }, { on := 13, ground := Ground.chain }], guard := none }) rfl (fun K hK => ?_) AllReadyH.nil
        go_simp
        go_at_call 36; ((with_reducible refine (badd_new M1 M2 l1 m1 l2 m2 ma mb _ Q3.out Q6.out HB.out.2.2.2.2.1 HB.out.2.2.2.2.2 (H1.out _ K13.out.b).2.2 (H2.out _ K13.out.b).2.2).mono ?_); rintro e V18 ⟨⟨MJ, mj, rfl, r⟩, b⟩; have RM := Lib.hid (r.base (b2 := WJ.heap.size) K13.out.b.size); have K18 := Lib.hid (K13.out.later b); replace RS := Lib.hid (RS.out.later b); replace RI := Lib.hid (RI.out.later b); clear r b)
        refine hK.out _ _ ?_ (fun hHeld => ?_)
        · exact ⟨K18.out.g 0 rfl, K18.out.g 1 rfl⟩
        clear HHeld; have HHeld := Lib.hid hHeld; clear hHeld
        clear hK K
        try simp only [pu, pn, s1, s2, s3]
        refine wT (i := 19) (oi := { dst := some 26, op := Op.build 28 #[(0, Operand.const (Value.int IntKind.u8 2)), (1, Operand.tmp 14), (2, Operand.tmp 20), (3, Operand.tmp 25)], type := 28, pos := "inner.go:165", after := #[{ on := 7, ground := Ground.data }, { on := 13, ground := Ground.data }, { on := 18, ground := Ground.data }], guard := none }) (v := ?_) rfl (Or.inl ⟨by rfl, ?_⟩) HHeld.out ?_
        rotate_left
        · intro w hSw; clear hSw; go_simp; try with_reducible rfl
        try simp only [pu, pn, s1, s2, s3]
        refine wpAnyH_ready (rs := [20]) (by kernel_rfl) (by simp) ?_
        refine AllReadyH.cons (o := { dst := none, op := Op.store 28 (Operand.tmp 6) (Operand.tmp 26), type := 0, pos := "inner.go:165", after := #[{ on := 19, ground := Ground.data }, { on := 18, ground := Ground.chain }, { on := 0, ground := Ground.phase }, { on := 1, ground := Ground.phase }, { on := 2, ground := Ground.phase }, { on := 3, ground := Ground.phase }, { on := 4, ground := Ground.phase }, { on := 5, ground := Ground.phase }, { on := 6, ground := Ground.phase }, { on := 7, ground := Ground.phase }, { on := 8, ground := Ground.phase }, { on := 9, ground := Ground.phase }, { on := 10, ground := Ground.phase }, { on := 11, ground := Ground.phase }, { on := 12, ground := Ground.phase }, { on := 13, ground := Ground.phase }, { on := 14, ground := Ground.phase }, { on := 15, ground := Ground.phase }, { on := 16, ground := Ground.phase }, { on := 17, ground := Ground.phase }, { on := 18, ground := Ground.phase }, { on := 19, ground := Ground.phase }], guard := none }) rfl (fun K hK => ?_) AllReadyH.nil
        obtain ⟨c0, c1, c2, c3, c4⟩ := cells5 (K18.out.g 2 rfl)
        obtain ⟨f0, f1, f2, f3, f4⟩ := froz5 (K18.out.g 2 rfl)
        have ZK := Lib.hid (K18.out.g 2 rfl)
        have HO := Lib.hid K18.out.b
        go_simp
        clear c0 c1 c2 c3 c4 f0 f1 f2 f3 f4
        refine at_k (fun VS hVS => ?_)
        have HC := Lib.hid (show Chg (fun g => g = w.heap.size + 1 + 1) V18 VS by rw [hVS]; exact chg5 _ _ _ _ _ _ _)
        have ZS := Lib.hid (show VS.heap[w.heap.size + 1 + 1]? = some (NO 2 (.slice PJ (n1 + 1 + n2) pj) (.slice JJ (k1 + k2) jj) (.slice MJ (l1 + l2) mj) (.slice none 0 0)) by rw [hVS]; exact set5w ZK.out _ _ _ _ _)
        clear hVS
        refine hK.out _ _ ?_ (fun hHeld => ?_)
        · exact ⟨keep_chg HC.out (K18.out.g 0 rfl) (fun e => by omega), keep_chg HC.out (K18.out.g 1 rfl) (fun e => by omega)⟩
        clear HHeld; have HHeld := Lib.hid hHeld; clear hHeld
        clear hK K
        try simp only [pu, pn, s1, s2, s3]
        refine wpAnyH_done (by kernel_rfl) ?_ _
        clear HHeld
        obtain ⟨z0, z1, z2, z3, z4⟩ := cells5 ZS.out
        go_wp2
        refine bodyPost_ret (v := NV 2 (.slice PJ (n1 + 1 + n2) pj) (.slice JJ (k1 + k2) jj) (.slice MJ (l1 + l2) mj) (.slice none 0 0)) (by simp [results, Tryz.results13, go_sem, z0, z1, z2, z3, z4]) rfl ⟨PJ, pj, JJ, jj, MJ, mj, none, 0, rfl, ?_, ?_, ?_, ?_⟩
        · exact (RS.out.chgB HC.out (by have := SZ.out; omega)).base (by have := SZ.out; omega)
        · exact (RI.out.chgB HC.out (by have := SZ.out; omega)).base (by have := SZ.out; omega)
        · exact (RM.out.chgB HC.out (by have := SZ.out; omega)).base (by have := SZ.out; omega)
        · exact bel_chg (bel_trans H0.out HO.out) HC.out (by omega)
      · go_simp
        refine at_k (fun V12 hV12 => ?_)
        have bb := Lib.hid (show Below V6.heap.size V6 V12 by rw [hV12]; exact alb _ _)
        have K12 := Lib.hid (K6.out.later bb.out)
        replace R10 := Lib.hid (R10.out.later bb.out)
        replace G13 := Lib.hid (keep_bel bb.out G13.out)
        have G19 := Lib.hid (show V12.heap[V6.heap.size]? = some (.cells #[.slice J1 k1 j1, .slice J2 k2 j2] 24) by rw [hV12]; exact heap_alloc_new V6 _)
        clear bb hV12
        refine hK.out _ _ ?_ (fun hHeld => ?_)
        · exact ⟨K12.out.g 0 rfl, K12.out.g 1 rfl⟩
        clear HHeld; have HHeld := Lib.hid hHeld; clear hHeld
        clear hK K
        try simp only [pu, pn, s1, s2, s3]
        refine wpAnyH_ready (rs := [7]) (by kernel_rfl) (by simp) ?_
        refine AllReadyH.cons (o := { dst := some 14, op := Op.call { callee := Callee.value (Operand.func 34), args := #[Operand.tmp 13], argTypes := #[98] }, type := 23, pos := "inner.go:167", after := #[{ on := 6, ground := Ground.data }], guard := none }) rfl (fun K hK => ?_) AllReadyH.nil
        go_simp
        go_at_call 34; ((with_reducible refine (concatS _ P1 _ P2 n1 p1 1 1 n2 p2 pa [at_] pb _ G13.out Q1.out rfl Q4.out HB.out.1 (by omega) HB.out.2.1 (H1.out _ K12.out.b).1 R10.out (H2.out _ K12.out.b).1).mono ?_); rintro e V7 ⟨⟨PJ, pj, rfl, r⟩, b⟩; have RS := Lib.hid (r.base (b2 := WJ.heap.size) K12.out.b.size); have K7 := Lib.hid (K12.out.later b); replace R10 := Lib.hid (R10.out.later b); replace G13 := Lib.hid (keep_bel b G13.out); replace G19 := Lib.hid (keep_bel b G19.out); clear r b)
        refine hK.out _ _ ?_ (fun hHeld => ?_)
        · exact ⟨K7.out.g 0 rfl, K7.out.g 1 rfl⟩
        clear HHeld; have HHeld := Lib.hid hHeld; clear hHeld
        clear hK K
        try simp only [pu, pn, s1, s2, s3]
        refine wpAnyH_ready (rs := [13]) (by kernel_rfl) (by simp) ?_
        refine AllReadyH.cons (o := { dst := some 20, op := Op.call { callee := Callee.value (Operand.func 35), args := #[Operand.tmp 19], argTypes := #[100] }, type := 24, pos := "inner.go:168", after := #[{ on := 12, ground := Ground.data }, { on := 7, ground := Ground.chain }], guard := none }) rfl (fun K hK => ?_) AllReadyH.nil
        go_simp
        go_at_call 35; ((with_reducible refine (concatI _ J1 J2 k1 j1 k2 j2 ia ib _ G19.out Q2.out Q5.out HB.out.2.2.1 HB.out.2.2.2.1 (H1.out _ K7.out.b).2.1 (H2.out _ K7.out.b).2.1).mono ?_); rintro e V13 ⟨⟨JJ, jj, rfl, r⟩, b⟩; have RI := Lib.hid (r.base (b2 := WJ.heap.size) K7.out.b.size); have K13 := Lib.hid (K7.out.later b); replace G19 := Lib.hid (keep_bel b G19.out); replace RS := Lib.hid (RS.out.later b); clear r b)
        refine hK.out _ _ ?_ (fun hHeld => ?_)
        · exact ⟨K13.out.g 0 rfl, K13.out.g 1 rfl⟩
        clear HHeld; have HHeld := Lib.hid hHeld; clear hHeld
        clear hK K
        try simp only [pu, pn, s1, s2, s3]
        refine wpAnyH_ready (rs := [18]) (by kernel_rfl) (by simp) ?_
        refine AllReadyH.cons (o := { dst := some 25, op := Op.call { callee := Callee.value (Operand.func 36), args := #[Operand.tmp 22, Operand.tmp 24], argTypes := #[25, 25] }, type := 25, pos := "inner.go:169", after := #[{ on := 15, ground := Ground.data }, { on := 17, ground := Ground.data }, { on := 13, ground := Ground.chain }], guard := none }) rfl (fun K hK => ?_) AllReadyH.nil
        go_simp
        go_at_call 36; ((with_reducible refine (badd_new M1 M2 l1 m1 l2 m2 ma mb _ Q3.out Q6.out HB.out.2.2.2.2.1 HB.out.2.2.2.2.2 (H1.out _ K13.out.b).2.2 (H2.out _ K13.out.b).2.2).mono ?_); rintro e V18 ⟨⟨MJ, mj, rfl, r⟩, b⟩; have RM := Lib.hid (r.base (b2 := WJ.heap.size) K13.out.b.size); have K18 := Lib.hid (K13.out.later b); replace RS := Lib.hid (RS.out.later b); replace RI := Lib.hid (RI.out.later b); clear r b)
        refine hK.out _ _ ?_ (fun hHeld => ?_)
        · exact ⟨K18.out.g 0 rfl, K18.out.g 1 rfl⟩
        clear HHeld; have HHeld := Lib.hid hHeld; clear hHeld
        clear hK K
        try simp only [pu, pn, s1, s2, s3]
        refine wT (i := 19) (oi := { dst := some 26, op := Op.build 28 #[(0, Operand.const (Value.int IntKind.u8 2)), (1, Operand.tmp 14), (2, Operand.tmp 20), (3, Operand.tmp 25)], type := 28, pos := "inner.go:165", after := #[{ on := 7, ground := Ground.data }, { on := 13, ground := Ground.data }, { on := 18, ground := Ground.data }], guard := none }) (v := ?_) rfl (Or.inl ⟨by rfl, ?_⟩) HHeld.out ?_
        rotate_left
        · intro w hSw; clear hSw; go_simp; try with_reducible rfl
        try simp only [pu, pn, s1, s2, s3]
        refine wpAnyH_ready (rs := [20]) (by kernel_rfl) (by simp) ?_
        refine AllReadyH.cons (o := { dst := none, op := Op.store 28 (Operand.tmp 6) (Operand.tmp 26), type := 0, pos := "inner.go:165", after := #[{ on := 19, ground := Ground.data }, { on := 18, ground := Ground.chain }, { on := 0, ground := Ground.phase }, { on := 1, ground := Ground.phase }, { on := 2, ground := Ground.phase }, { on := 3, ground := Ground.phase }, { on := 4, ground := Ground.phase }, { on := 5, ground := Ground.phase }, { on := 6, ground := Ground.phase }, { on := 7, ground := Ground.phase }, { on := 8, ground := Ground.phase }, { on := 9, ground := Ground.phase }, { on := 10, ground := Ground.phase }, { on := 11, ground := Ground.phase }, { on := 12, ground := Ground.phase }, { on := 13, ground := Ground.phase }, { on := 14, ground := Ground.phase }, { on := 15, ground := Ground.phase }, { on := 16, ground := Ground.phase }, { on := 17, ground := Ground.phase }, { on := 18, ground := Ground.phase }, { on := 19, ground := Ground.phase }], guard := none }) rfl (fun K hK => ?_) AllReadyH.nil
        obtain ⟨c0, c1, c2, c3, c4⟩ := cells5 (K18.out.g 2 rfl)
        obtain ⟨f0, f1, f2, f3, f4⟩ := froz5 (K18.out.g 2 rfl)
        have ZK := Lib.hid (K18.out.g 2 rfl)
        have HO := Lib.hid K18.out.b
        go_simp
        clear c0 c1 c2 c3 c4 f0 f1 f2 f3 f4
        refine at_k (fun VS hVS => ?_)
        have HC := Lib.hid (show Chg (fun g => g = w.heap.size + 1 + 1) V18 VS by rw [hVS]; exact chg5 _ _ _ _ _ _ _)
        have ZS := Lib.hid (show VS.heap[w.heap.size + 1 + 1]? = some (NO 2 (.slice PJ (n1 + 1 + n2) pj) (.slice JJ (k1 + k2) jj) (.slice MJ (l1 + l2) mj) (.slice none 0 0)) by rw [hVS]; exact set5w ZK.out _ _ _ _ _)
        clear hVS
        refine hK.out _ _ ?_ (fun hHeld => ?_)
        · exact ⟨keep_chg HC.out (K18.out.g 0 rfl) (fun e => by omega), keep_chg HC.out (K18.out.g 1 rfl) (fun e => by omega)⟩
        clear HHeld; have HHeld := Lib.hid hHeld; clear hHeld
        clear hK K
        try simp only [pu, pn, s1, s2, s3]
        refine wpAnyH_done (by kernel_rfl) ?_ _
        clear HHeld
        obtain ⟨z0, z1, z2, z3, z4⟩ := cells5 ZS.out
        go_wp2
        refine bodyPost_ret (v := NV 2 (.slice PJ (n1 + 1 + n2) pj) (.slice JJ (k1 + k2) jj) (.slice MJ (l1 + l2) mj) (.slice none 0 0)) (by simp [results, Tryz.results13, go_sem, z0, z1, z2, z3, z4]) rfl ⟨PJ, pj, JJ, jj, MJ, mj, none, 0, rfl, ?_, ?_, ?_, ?_⟩
        · exact (RS.out.chgB HC.out (by have := SZ.out; omega)).base (by have := SZ.out; omega)
        · exact (RI.out.chgB HC.out (by have := SZ.out; omega)).base (by have := SZ.out; omega)
        · exact (RM.out.chgB HC.out (by have := SZ.out; omega)).base (by have := SZ.out; omega)
        · exact bel_chg (bel_trans H0.out HO.out) HC.out (by omega)
    · go_simp
      refine at_k (fun V12 hV12 => ?_)
      have bb := Lib.hid (show Below V3.heap.size V3 V12 by rw [hV12]; exact alb _ _)
      have K12 := Lib.hid (K3.out.later bb.out)
      replace R10 := Lib.hid (R10.out.later bb.out)
      have G19 := Lib.hid (show V12.heap[V3.heap.size]? = some (.cells #[.slice J1 k1 j1, .slice J2 k2 j2] 24) by rw [hV12]; exact heap_alloc_new V3 _)
      clear bb hV12
      refine hK.out _ _ ?_ (fun hHeld => ?_)
      · exact ⟨K12.out.g 0 rfl, K12.out.g 1 rfl⟩
      clear HHeld; have HHeld := Lib.hid hHeld; clear hHeld
      clear hK K
      try simp only [pu, pn, s1, s2, s3]
      refine wpAnyH_ready (rs := [6]) (by kernel_rfl) (by simp) ?_
      refine AllReadyH.cons (o := { dst := some 13, op := Op.buildSlice 98 3 #[(0, Operand.tmp 8), (1, Operand.tmp 10), (2, Operand.tmp 12)], type := 98, pos := "inner.go:165", after := #[{ on := 1, ground := Ground.data }, { on := 3, ground := Ground.data }, { on := 5, ground := Ground.data }], guard := none }) rfl (fun K hK => ?_) AllReadyH.nil
      go_simp
      refine at_k (fun V6 hV6 => ?_)
      have bb := Lib.hid (show Below V12.heap.size V12 V6 by rw [hV6]; exact alb _ _)
      have K6 := Lib.hid (K12.out.later bb.out)
      replace R10 := Lib.hid (R10.out.later bb.out)
      replace G19 := Lib.hid (keep_bel bb.out G19.out)
      have G13 := Lib.hid (show V6.heap[V12.heap.size]? = some (.cells #[.slice P1 n1 p1, .slice (some ⟨WJ.heap.size, 0, none⟩) 1 1, .slice P2 n2 p2] 23) by rw [hV6]; exact heap_alloc_new V12 _)
      clear bb hV6
      refine hK.out _ _ ?_ (fun hHeld => ?_)
      · exact ⟨K6.out.g 0 rfl, K6.out.g 1 rfl⟩
      clear HHeld; have HHeld := Lib.hid hHeld; clear hHeld
      clear hK K
      try simp only [pu, pn, s1, s2, s3]
      refine wpAnyH_ready (rs := [7]) (by kernel_rfl) (by simp) ?_
      refine AllReadyH.cons (o := { dst := some 14, op := Op.call { callee := Callee.value (Operand.func 34), args := #[Operand.tmp 13], argTypes := #[98] }, type := 23, pos := "inner.go:167", after := #[{ on := 6, ground := Ground.data }], guard := none }) rfl (fun K hK => ?_) AllReadyH.nil
      go_simp
      go_at_call 34; ((with_reducible refine (concatS _ P1 _ P2 n1 p1 1 1 n2 p2 pa [at_] pb _ G13.out Q1.out rfl Q4.out HB.out.1 (by omega) HB.out.2.1 (H1.out _ K6.out.b).1 R10.out (H2.out _ K6.out.b).1).mono ?_); rintro e V7 ⟨⟨PJ, pj, rfl, r⟩, b⟩; have RS := Lib.hid (r.base (b2 := WJ.heap.size) K6.out.b.size); have K7 := Lib.hid (K6.out.later b); replace R10 := Lib.hid (R10.out.later b); replace G13 := Lib.hid (keep_bel b G13.out); replace G19 := Lib.hid (keep_bel b G19.out); clear r b)
      refine hK.out _ _ ?_ (fun hHeld => ?_)
      · exact ⟨K7.out.g 0 rfl, K7.out.g 1 rfl⟩
      clear HHeld; have HHeld := Lib.hid hHeld; clear hHeld
      clear hK K
      try simp only [pu, pn, s1, s2, s3]
      refine wpAnyH_ready (rs := [13]) (by kernel_rfl) (by simp) ?_
      refine AllReadyH.cons (o := { dst := some 20, op := Op.call { callee := Callee.value (Operand.func 35), args := #[Operand.tmp 19], argTypes := #[100] }, type := 24, pos := "inner.go:168", after := #[{ on := 12, ground := Ground.data }, { on := 7, ground := Ground.chain }], guard := none }) rfl (fun K hK => ?_) AllReadyH.nil
      go_simp
      go_at_call 35; ((with_reducible refine (concatI _ J1 J2 k1 j1 k2 j2 ia ib _ G19.out Q2.out Q5.out HB.out.2.2.1 HB.out.2.2.2.1 (H1.out _ K7.out.b).2.1 (H2.out _ K7.out.b).2.1).mono ?_); rintro e V13 ⟨⟨JJ, jj, rfl, r⟩, b⟩; have RI := Lib.hid (r.base (b2 := WJ.heap.size) K7.out.b.size); have K13 := Lib.hid (K7.out.later b); replace G19 := Lib.hid (keep_bel b G19.out); replace RS := Lib.hid (RS.out.later b); clear r b)
      refine hK.out _ _ ?_ (fun hHeld => ?_)
      · exact ⟨K13.out.g 0 rfl, K13.out.g 1 rfl⟩
      clear HHeld; have HHeld := Lib.hid hHeld; clear hHeld
      clear hK K
      try simp only [pu, pn, s1, s2, s3]
      refine wpAnyH_ready (rs := [18]) (by kernel_rfl) (by simp) ?_
      refine AllReadyH.cons (o := { dst := some 25, op := Op.call { callee := Callee.value (Operand.func 36), args := #[Operand.tmp 22, Operand.tmp 24], argTypes := #[25, 25] }, type := 25, pos := "inner.go:169", after := #[{ on := 15, ground := Ground.data }, { on := 17, ground := Ground.data }, { on := 13, ground := Ground.chain }], guard := none }) rfl (fun K hK => ?_) AllReadyH.nil
      go_simp
      go_at_call 36; ((with_reducible refine (badd_new M1 M2 l1 m1 l2 m2 ma mb _ Q3.out Q6.out HB.out.2.2.2.2.1 HB.out.2.2.2.2.2 (H1.out _ K13.out.b).2.2 (H2.out _ K13.out.b).2.2).mono ?_); rintro e V18 ⟨⟨MJ, mj, rfl, r⟩, b⟩; have RM := Lib.hid (r.base (b2 := WJ.heap.size) K13.out.b.size); have K18 := Lib.hid (K13.out.later b); replace RS := Lib.hid (RS.out.later b); replace RI := Lib.hid (RI.out.later b); clear r b)
      refine hK.out _ _ ?_ (fun hHeld => ?_)
      · exact ⟨K18.out.g 0 rfl, K18.out.g 1 rfl⟩
      clear HHeld; have HHeld := Lib.hid hHeld; clear hHeld
      clear hK K
      try simp only [pu, pn, s1, s2, s3]
      refine wT (i := 19) (oi := { dst := some 26, op := Op.build 28 #[(0, Operand.const (Value.int IntKind.u8 2)), (1, Operand.tmp 14), (2, Operand.tmp 20), (3, Operand.tmp 25)], type := 28, pos := "inner.go:165", after := #[{ on := 7, ground := Ground.data }, { on := 13, ground := Ground.data }, { on := 18, ground := Ground.data }], guard := none }) (v := ?_) rfl (Or.inl ⟨by rfl, ?_⟩) HHeld.out ?_
      rotate_left
      · intro w hSw; clear hSw; go_simp; try with_reducible rfl
      try simp only [pu, pn, s1, s2, s3]
      refine wpAnyH_ready (rs := [20]) (by kernel_rfl) (by simp) ?_
      refine AllReadyH.cons (o := { dst := none, op := Op.store 28 (Operand.tmp 6) (Operand.tmp 26), type := 0, pos := "inner.go:165", after := #[{ on := 19, ground := Ground.data }, { on := 18, ground := Ground.chain }, { on := 0, ground := Ground.phase }, { on := 1, ground := Ground.phase }, { on := 2, ground := Ground.phase }, { on := 3, ground := Ground.phase }, { on := 4, ground := Ground.phase }, { on := 5, ground := Ground.phase }, { on := 6, ground := Ground.phase }, { on := 7, ground := Ground.phase }, { on := 8, ground := Ground.phase }, { on := 9, ground := Ground.phase }, { on := 10, ground := Ground.phase }, { on := 11, ground := Ground.phase }, { on := 12, ground := Ground.phase }, { on := 13, ground := Ground.phase }, { on := 14, ground := Ground.phase }, { on := 15, ground := Ground.phase }, { on := 16, ground := Ground.phase }, { on := 17, ground := Ground.phase }, { on := 18, ground := Ground.phase }, { on := 19, ground := Ground.phase }], guard := none }) rfl (fun K hK => ?_) AllReadyH.nil
      obtain ⟨c0, c1, c2, c3, c4⟩ := cells5 (K18.out.g 2 rfl)
      obtain ⟨f0, f1, f2, f3, f4⟩ := froz5 (K18.out.g 2 rfl)
      have ZK := Lib.hid (K18.out.g 2 rfl)
      have HO := Lib.hid K18.out.b
      go_simp
      clear c0 c1 c2 c3 c4 f0 f1 f2 f3 f4
      refine at_k (fun VS hVS => ?_)
      have HC := Lib.hid (show Chg (fun g => g = w.heap.size + 1 + 1) V18 VS by rw [hVS]; exact chg5 _ _ _ _ _ _ _)
      have ZS := Lib.hid (show VS.heap[w.heap.size + 1 + 1]? = some (NO 2 (.slice PJ (n1 + 1 + n2) pj) (.slice JJ (k1 + k2) jj) (.slice MJ (l1 + l2) mj) (.slice none 0 0)) by rw [hVS]; exact set5w ZK.out _ _ _ _ _)
      clear hVS
      refine hK.out _ _ ?_ (fun hHeld => ?_)
      · exact ⟨keep_chg HC.out (K18.out.g 0 rfl) (fun e => by omega), keep_chg HC.out (K18.out.g 1 rfl) (fun e => by omega)⟩
      clear HHeld; have HHeld := Lib.hid hHeld; clear hHeld
      clear hK K
      try simp only [pu, pn, s1, s2, s3]
      refine wpAnyH_done (by kernel_rfl) ?_ _
      clear HHeld
      obtain ⟨z0, z1, z2, z3, z4⟩ := cells5 ZS.out
      go_wp2
      refine bodyPost_ret (v := NV 2 (.slice PJ (n1 + 1 + n2) pj) (.slice JJ (k1 + k2) jj) (.slice MJ (l1 + l2) mj) (.slice none 0 0)) (by simp [results, Tryz.results13, go_sem, z0, z1, z2, z3, z4]) rfl ⟨PJ, pj, JJ, jj, MJ, mj, none, 0, rfl, ?_, ?_, ?_, ?_⟩
      · exact (RS.out.chgB HC.out (by have := SZ.out; omega)).base (by have := SZ.out; omega)
      · exact (RI.out.chgB HC.out (by have := SZ.out; omega)).base (by have := SZ.out; omega)
      · exact (RM.out.chgB HC.out (by have := SZ.out; omega)).base (by have := SZ.out; omega)
      · exact bel_chg (bel_trans H0.out HO.out) HC.out (by omega)
  · go_simp
    refine at_k (fun V12 hV12 => ?_)
    have bb := Lib.hid (show Below WJ.drew.heap.size WJ.drew V12 by rw [hV12]; exact alb _ _)
    have K12 := Lib.hid (KS.out.later bb.out)
    have G19 := Lib.hid (show V12.heap[WJ.heap.size]? = some (.cells #[.slice J1 k1 j1, .slice J2 k2 j2] 24) by rw [hV12]; exact heap_alloc_new WJ.drew _)
    clear bb hV12
    refine hK.out _ _ ?_ (fun hHeld => ?_)
    · exact ⟨K12.out.g 0 rfl, K12.out.g 1 rfl⟩
    clear HHeld; have HHeld := Lib.hid hHeld; clear hHeld
    clear hK K
    try simp only [pu, pn, s1, s2, s3]
    refine wpAnyH_ready (rs := [3]) (by kernel_rfl) (by simp) ?_
    refine AllReadyH.cons (o := { dst := some 10, op := Op.buildSlice 23 1 #[(0, Operand.tmp 9)], type := 23, pos := "inner.go:165", after := #[{ on := 2, ground := Ground.data }], guard := none }) rfl (fun K hK => ?_) AllReadyH.nil
    go_simp
    refine at_k (fun V3 hV3 => ?_)
    have bb := Lib.hid (show Below V12.heap.size V12 V3 by rw [hV3]; exact alb _ _)
    have K3 := Lib.hid (K12.out.later bb.out)
    replace G19 := Lib.hid (keep_bel bb.out G19.out)
    have R10 := Lib.hid (show ES.Rd V3 (some ⟨V12.heap.size, 0, none⟩) [at_] by rw [hV3]; exact RE.Rd.lit (E := ES) V12 9 [at_] #[.string at_] rfl)
    clear bb hV3
    refine hK.out _ _ ?_ (fun hHeld => ?_)
    · exact ⟨K3.out.g 0 rfl, K3.out.g 1 rfl⟩
    clear HHeld; have HHeld := Lib.hid hHeld; clear hHeld
    clear hK K
    try simp only [pu, pn, s1, s2, s3]
    refine wpAnyH_ready (rs := [6]) (by kernel_rfl) (by simp) ?_
    refine AllReadyH.cons (o := { dst := some 13, op := Op.buildSlice 98 3 #[(0, Operand.tmp 8), (1, Operand.tmp 10), (2, Operand.tmp 12)], type := 98, pos := "inner.go:165", after := #[{ on := 1, ground := Ground.data }, { on := 3, ground := Ground.data }, { on := 5, ground := Ground.data }], guard := none }) rfl (fun K hK => ?_) AllReadyH.nil
    go_simp
    refine at_k (fun V6 hV6 => ?_)
    have bb := Lib.hid (show Below V3.heap.size V3 V6 by rw [hV6]; exact alb _ _)
    have K6 := Lib.hid (K3.out.later bb.out)
    replace R10 := Lib.hid (R10.out.later bb.out)
    replace G19 := Lib.hid (keep_bel bb.out G19.out)
    have G13 := Lib.hid (show V6.heap[V3.heap.size]? = some (.cells #[.slice P1 n1 p1, .slice (some ⟨V12.heap.size, 0, none⟩) 1 1, .slice P2 n2 p2] 23) by rw [hV6]; exact heap_alloc_new V3 _)
    clear bb hV6
    refine hK.out _ _ ?_ (fun hHeld => ?_)
    · exact ⟨K6.out.g 0 rfl, K6.out.g 1 rfl⟩
    clear HHeld; have HHeld := Lib.hid hHeld; clear hHeld
    clear hK K
    try simp only [pu, pn, s1, s2, s3]
    refine wpAnyH_ready (rs := [7]) (by kernel_rfl) (by simp) ?_
    refine AllReadyH.cons (o := { dst := some 14, op := Op.call { callee := Callee.value (Operand.func 34), args := #[Operand.tmp 13], argTypes := #[98] }, type := 23, pos := "inner.go:167", after := #[{ on := 6, ground := Ground.data }], guard := none }) rfl (fun K hK => ?_) AllReadyH.nil
    go_simp
    go_at_call 34; ((with_reducible refine (concatS _ P1 _ P2 n1 p1 1 1 n2 p2 pa [at_] pb _ G13.out Q1.out rfl Q4.out HB.out.1 (by omega) HB.out.2.1 (H1.out _ K6.out.b).1 R10.out (H2.out _ K6.out.b).1).mono ?_); rintro e V7 ⟨⟨PJ, pj, rfl, r⟩, b⟩; have RS := Lib.hid (r.base (b2 := WJ.heap.size) K6.out.b.size); have K7 := Lib.hid (K6.out.later b); replace R10 := Lib.hid (R10.out.later b); replace G13 := Lib.hid (keep_bel b G13.out); replace G19 := Lib.hid (keep_bel b G19.out); clear r b)
    refine hK.out _ _ ?_ (fun hHeld => ?_)
    · exact ⟨K7.out.g 0 rfl, K7.out.g 1 rfl⟩
    clear HHeld; have HHeld := Lib.hid hHeld; clear hHeld
    clear hK K
    try simp only [pu, pn, s1, s2, s3]
    refine wpAnyH_ready (rs := [13]) (by kernel_rfl) (by simp) ?_
    refine AllReadyH.cons (o := { dst := some 20, op := Op.call { callee := Callee.value (Operand.func 35), args := #[Operand.tmp 19], argTypes := #[100] }, type := 24, pos := "inner.go:168", after := #[{ on := 12, ground := Ground.data }, { on := 7, ground := Ground.chain }], guard := none }) rfl (fun K hK => ?_) AllReadyH.nil
    go_simp
    go_at_call 35; ((with_reducible refine (concatI _ J1 J2 k1 j1 k2 j2 ia ib _ G19.out Q2.out Q5.out HB.out.2.2.1 HB.out.2.2.2.1 (H1.out _ K7.out.b).2.1 (H2.out _ K7.out.b).2.1).mono ?_); rintro e V13 ⟨⟨JJ, jj, rfl, r⟩, b⟩; have RI := Lib.hid (r.base (b2 := WJ.heap.size) K7.out.b.size); have K13 := Lib.hid (K7.out.later b); replace G19 := Lib.hid (keep_bel b G19.out); replace RS := Lib.hid (RS.out.later b); clear r b)
    refine hK.out _ _ ?_ (fun hHeld => ?_)
    · exact ⟨K13.out.g 0 rfl, K13.out.g 1 rfl⟩
    clear HHeld; have HHeld := Lib.hid hHeld; clear hHeld
    clear hK K
    try simp only [pu, pn, s1, s2, s3]
    refine wpAnyH_ready (rs := [18]) (by kernel_rfl) (by simp) ?_
    refine AllReadyH.cons (o := { dst := some 25, op := Op.call { callee := Callee.value (Operand.func 36), args := #[Operand.tmp 22, Operand.tmp 24], argTypes := #[25, 25] }, type := 25, pos := "inner.go:169", after := #[{ on := 15, ground := Ground.data }, { on := 17, ground := Ground.data }, { on := 13, ground := Ground.chain }], guard := none }) rfl (fun K hK => ?_) AllReadyH.nil
    go_simp
    go_at_call 36; ((with_reducible refine (badd_new M1 M2 l1 m1 l2 m2 ma mb _ Q3.out Q6.out HB.out.2.2.2.2.1 HB.out.2.2.2.2.2 (H1.out _ K13.out.b).2.2 (H2.out _ K13.out.b).2.2).mono ?_); rintro e V18 ⟨⟨MJ, mj, rfl, r⟩, b⟩; have RM := Lib.hid (r.base (b2 := WJ.heap.size) K13.out.b.size); have K18 := Lib.hid (K13.out.later b); replace RS := Lib.hid (RS.out.later b); replace RI := Lib.hid (RI.out.later b); clear r b)
    refine hK.out _ _ ?_ (fun hHeld => ?_)
    · exact ⟨K18.out.g 0 rfl, K18.out.g 1 rfl⟩
    clear HHeld; have HHeld := Lib.hid hHeld; clear hHeld
    clear hK K
    try simp only [pu, pn, s1, s2, s3]
    refine wT (i := 19) (oi := { dst := some 26, op := Op.build 28 #[(0, Operand.const (Value.int IntKind.u8 2)), (1, Operand.tmp 14), (2, Operand.tmp 20), (3, Operand.tmp 25)], type := 28, pos := "inner.go:165", after := #[{ on := 7, ground := Ground.data }, { on := 13, ground := Ground.data }, { on := 18, ground := Ground.data }], guard := none }) (v := ?_) rfl (Or.inl ⟨by rfl, ?_⟩) HHeld.out ?_
    rotate_left
    · intro w hSw; clear hSw; go_simp; try with_reducible rfl
    try simp only [pu, pn, s1, s2, s3]
    refine wpAnyH_ready (rs := [20]) (by kernel_rfl) (by simp) ?_
    refine AllReadyH.cons (o := { dst := none, op := Op.store 28 (Operand.tmp 6) (Operand.tmp 26), type := 0, pos := "inner.go:165", after := #[{ on := 19, ground := Ground.data }, { on := 18, ground := Ground.chain }, { on := 0, ground := Ground.phase }, { on := 1, ground := Ground.phase }, { on := 2, ground := Ground.phase }, { on := 3, ground := Ground.phase }, { on := 4, ground := Ground.phase }, { on := 5, ground := Ground.phase }, { on := 6, ground := Ground.phase }, { on := 7, ground := Ground.phase }, { on := 8, ground := Ground.phase }, { on := 9, ground := Ground.phase }, { on := 10, ground := Ground.phase }, { on := 11, ground := Ground.phase }, { on := 12, ground := Ground.phase }, { on := 13, ground := Ground.phase }, { on := 14, ground := Ground.phase }, { on := 15, ground := Ground.phase }, { on := 16, ground := Ground.phase }, { on := 17, ground := Ground.phase }, { on := 18, ground := Ground.phase }, { on := 19, ground := Ground.phase }], guard := none }) rfl (fun K hK => ?_) AllReadyH.nil
    obtain ⟨c0, c1, c2, c3, c4⟩ := cells5 (K18.out.g 2 rfl)
    obtain ⟨f0, f1, f2, f3, f4⟩ := froz5 (K18.out.g 2 rfl)
    have ZK := Lib.hid (K18.out.g 2 rfl)
    have HO := Lib.hid K18.out.b
    go_simp
    clear c0 c1 c2 c3 c4 f0 f1 f2 f3 f4
    refine at_k (fun VS hVS => ?_)
    have HC := Lib.hid (show Chg (fun g => g = w.heap.size + 1 + 1) V18 VS by rw [hVS]; exact chg5 _ _ _ _ _ _ _)
    have ZS := Lib.hid (show VS.heap[w.heap.size + 1 + 1]? = some (NO 2 (.slice PJ (n1 + 1 + n2) pj) (.slice JJ (k1 + k2) jj) (.slice MJ (l1 + l2) mj) (.slice none 0 0)) by rw [hVS]; exact set5w ZK.out _ _ _ _ _)
    clear hVS
    refine hK.out _ _ ?_ (fun hHeld => ?_)
    · exact ⟨keep_chg HC.out (K18.out.g 0 rfl) (fun e => by omega), keep_chg HC.out (K18.out.g 1 rfl) (fun e => by omega)⟩
    clear HHeld; have HHeld := Lib.hid hHeld; clear hHeld
    clear hK K
    try simp only [pu, pn, s1, s2, s3]
    refine wpAnyH_done (by kernel_rfl) ?_ _
    clear HHeld
    obtain ⟨z0, z1, z2, z3, z4⟩ := cells5 ZS.out
    go_wp2
    refine bodyPost_ret (v := NV 2 (.slice PJ (n1 + 1 + n2) pj) (.slice JJ (k1 + k2) jj) (.slice MJ (l1 + l2) mj) (.slice none 0 0)) (by simp [results, Tryz.results13, go_sem, z0, z1, z2, z3, z4]) rfl ⟨PJ, pj, JJ, jj, MJ, mj, none, 0, rfl, ?_, ?_, ?_, ?_⟩
    · exact (RS.out.chgB HC.out (by have := SZ.out; omega)).base (by have := SZ.out; omega)
    · exact (RI.out.chgB HC.out (by have := SZ.out; omega)).base (by have := SZ.out; omega)
    · exact (RM.out.chgB HC.out (by have := SZ.out; omega)).base (by have := SZ.out; omega)
    · exact bel_chg (bel_trans H0.out HO.out) HC.out (by omega)
end Go.Proofs.YtilnpeekajnlhaaGreat
