/- Nodes: the document's Join. -/
import Derived.Test.YtilnpeekajnlhaaGreatTh02
import Derived.Test.YtilnpeekajnlhaaGreatTh30
import Derived.Test.YtilnpeekajnlhaaGreatTh32
import Derived.Test.YtilnpeekajnlhaaGreatTh16
import Derived.Test.YtilnpeekajnlhaaGreatTh33
set_option linter.unusedVariables false
set_option linter.unusedSimpArgs false
namespace Go.Proofs.YtilnpeekajnlhaaGreat
open Go.RowKit Go.Maps
def RJoinP (w : World) (kd : Int) (n k l : Nat) (ps : List ByteArray) (ks : List Int) (ms : List MG) (e : Ending) (w' : World) : Prop :=
  ∃ P' p' J' j' M' m', e = .returned (NV kd (.slice P' n p') (.slice J' k j') (.slice M' l m') (.slice none 0 0)) ∧ ES.Rd w' P' ps ∧ EI.Rd w' J' ks ∧ EG.Rd w' M' ms ∧ Below w.heap.size w w'
set_option maxRecDepth 100000 in
set_option maxHeartbeats 8000000 in
theorem rjoin_any (kd1 kd2 : Int) (P1 J1 M1 B1 P2 J2 M2 B2 : Option Addr) (n1 p1 k1 j1 l1 m1 b1 c1 n2 p2 k2 j2 l2 m2 b2 c2 : Nat) (pa pb : List ByteArray) (ia ib : List Int) (ma mb : List MG) (at_ : ByteArray) (w : World)
    (q1 : pa.length = n1) (q2 : ia.length = k1) (q3 : ma.length = l1) (q4 : pb.length = n2) (q5 : ib.length = k2) (q6 : mb.length = l2) (hb : n1 ≤ 100 ∧ n2 ≤ 100 ∧ k1 ≤ 100 ∧ k2 ≤ 100 ∧ l1 ≤ 100 ∧ l2 ≤ 100) (hj : k1 ≤ j1)
    (h1 : ES.Rd w P1 pa ∧ EI.Rd w J1 ia ∧ EG.Rd w M1 ma) (h2 : ES.Rd w P2 pb ∧ EI.Rd w J2 ib ∧ EG.Rd w M2 mb) :
    Calls Tryz.prog 15 #[NV kd1 (.slice P1 n1 p1) (.slice J1 k1 j1) (.slice M1 l1 m1) (.slice B1 b1 c1), NV kd2 (.slice P2 n2 p2) (.slice J2 k2 j2) (.slice M2 l2 m2) (.slice B2 b2 c2), .string at_] w (RJoinP w kd1 (n1 + 1 + n2) (k1 + k2) (l1 + l2) (pa ++ [at_] ++ pb) (ia ++ ib) (stab (ma ++ mb))) := by
  have KA := Lib.hid (fun W (b : Below w.heap.size w W) => show Calls Tryz.prog 37 #[.slice J1 k1 j1, .int .i64 (k1 : Int), .int .i64 0, .slice J2 k2 j2] W (KidsP (ia ++ ib) (k1 + k2) W) from by
    have g := kids_any J1 J2 k1 j1 k1 0 k2 j2 k1 ia ib W q2 (by omega) (by omega) (by omega) hj (h1.2.1.later b) q5 (by omega) (h2.2.1.later b)
    have e1 : ia.take k1 = ia := List.take_of_length_le (by omega)
    have e2 : ia.drop k1 = [] := List.drop_eq_nil_of_le (by omega)
    rw [e1, e2, List.append_nil, Nat.sub_self, Nat.add_zero] at g
    exact g)
  have AA := Lib.hid (fun W (b : Below w.heap.size w W) => radd_any M1 M2 l1 m1 l2 m2 ma mb W q3 q6 (by omega) (h1.2.2.later b) (h2.2.2.later b))
  have eL : (accM [] (ma ++ mb)).length = l1 + l2 := by have := stab_len (ma ++ mb); unfold stab at this; rw [this, List.length_append, q3, q6]
  unfold SomeOf at AA
  rw [eL] at AA
  have Q1 := Lib.hid q1; have Q4 := Lib.hid q4; have HB := Lib.hid hb
  have HP1 := Lib.hid (fun W (b : Below w.heap.size w W) => h1.1.later b)
  have HP2 := Lib.hid (fun W (b : Below w.heap.size w W) => h2.1.later b)
  have y1 := three_new w (NO kd1 (.slice P1 n1 p1) (.slice J1 k1 j1) (.slice M1 l1 m1) (.slice B1 b1 c1)) (NO kd2 (.slice P2 n2 p2) (.slice J2 k2 j2) (.slice M2 l2 m2) (.slice B2 b2 c2)) ZN
  have bw := bel_alloc (bel_alloc (alb w (NO kd1 (.slice P1 n1 p1) (.slice J1 k1 j1) (.slice M1 l1 m1) (.slice B1 b1 c1))) (NO kd2 (.slice P2 n2 p2) (.slice J2 k2 j2) (.slice M2 l2 m2) (.slice B2 b2 c2))) ZN
  obtain ⟨WJ, hWJ⟩ : ∃ WJ, WJ = ((w.alloc (NO kd1 (.slice P1 n1 p1) (.slice J1 k1 j1) (.slice M1 l1 m1) (.slice B1 b1 c1))).alloc (NO kd2 (.slice P2 n2 p2) (.slice J2 k2 j2) (.slice M2 l2 m2) (.slice B2 b2 c2))).alloc ZN := ⟨_, rfl⟩
  have SZ := Lib.hid (show w.heap.size + 3 ≤ WJ.heap.size by rw [hWJ]; simp)
  have HWJ := Lib.hid hWJ
  rw [← hWJ] at y1 bw
  have H0 := Lib.hid bw
  have Z := Lib.hid y1.1
  have Y := Lib.hid y1.2.1
  have X := Lib.hid y1.2.2
  clear q1 q2 q3 q4 q5 q6 hb h1 h2 y1 bw hWJ eL hj
  go_enter Tryz.func15, Tryz.ntmps15
  go_upto_region 1 with fail
  rw [← HWJ.out]
  clear HWJ
  have HB0 := Lib.hid (alb WJ (.cells #[] 9 (0, 0)))
  have HR0 := Lib.hid ((RE.Row.nil : ES.Row (WJ.alloc (.cells #[] 9 (0, 0))) WJ.heap.size (some ⟨WJ.heap.size, 0, none⟩) [] 0))
  have hB0 := Lib.hid (bel_trans H0.out HB0.out)
  obtain ⟨c0, c1, c2, c3, c4⟩ := cells5 (keep_bel HB0.out Z.out)
  go_upto_region 2 with (first
    | (at_builtin; refine RE.wpList_put ES _ rfl (.tmp 8) (.tmp 10) rfl (base := WJ.heap.size) (some ⟨WJ.heap.size, 0, none⟩) 0 0 [] P1 n1 p1 pa rfl rfl HR0.out rfl (by omega) HB0.out.size Q1.out (by have := HB.out; omega) (HP1.out _ hB0.out) ?_; intro A1 q1 w1 r1 r2 r3; have R1 : Hid (ES.Row w1 WJ.heap.size A1 pa q1) := Lib.hid r1; have GB1 := Lib.hid (HB0.out.trans (RE.Row.below r2 HR0.out (Nat.le_refl _) HB0.out.size)); have GB1a := Lib.hid (GB1.out.trans ((alb w1 (.cells #[.string at_] 9)).mono GB1.out.size)); have R1a := Lib.hid (R1.out.later (alb w1 (.cells #[.string at_] 9))); clear r1 r2 r3 c0 c1 c2 c3 c4)
    | (at_builtin; refine RE.wpList_put ES _ rfl (.tmp 11) (.tmp 13) rfl (base := WJ.heap.size) A1 n1 q1 pa (some ⟨w1.heap.size, 0, none⟩) 1 1 [at_] (by simp [Act.eval, Act.put]) (by simp [Act.eval, Act.put]) R1a.out Q1.out (by have := HB.out; omega) GB1a.out.size rfl (by omega) (RE.Rd.lit (E := ES) w1 9 [at_] #[.string at_] rfl) ?_; intro A2 q2 w2 r1 r2 r3; have R2 : Hid (ES.Row w2 WJ.heap.size A2 (pa ++ [at_]) q2) := Lib.hid r1; have GB2 := Lib.hid (GB1a.out.trans (RE.Row.below r2 R1a.out (Nat.le_refl _) GB1a.out.size)); clear r1 r2 r3)
    | fail)
  have L2 : Hid ((pa ++ [at_]).length = n1 + 1) := Lib.hid (by rw [List.length_append, Q1.out]; rfl)
  obtain ⟨d0, d1, d2, d3, d4⟩ := cells5 (keep_bel GB2.out Y.out)
  have hB2 := Lib.hid (bel_trans H0.out GB2.out)
  go_upto_region 3 with (first
    | (at_builtin; refine RE.wpList_put ES _ rfl (.tmp 15) (.tmp 17) rfl (base := WJ.heap.size) A2 (n1 + 1) q2 (pa ++ [at_]) P2 n2 p2 pb (by simp [Act.eval, Act.put]) (by simp [Act.eval, Act.put]) R2.out L2.out (by have := HB.out; omega) GB2.out.size Q4.out (by have := HB.out; omega) (HP2.out _ hB2.out) ?_; intro A3 q3 w3 r1 r2 r3; have R3 : Hid (ES.Row w3 WJ.heap.size A3 (pa ++ [at_] ++ pb) q3) := Lib.hid r1; have GB3 := Lib.hid (GB2.out.trans (RE.Row.below r2 R2.out (Nat.le_refl _) GB2.out.size)); clear r1 r2 r3 d0 d1 d2 d3 d4)
    | fail)
  have S0 := Lib.hid (show w3.drew.heap[w.heap.size]? = some (NO kd1 (.slice P1 n1 p1) (.slice J1 k1 j1) (.slice M1 l1 m1) (.slice B1 b1 c1)) ∧ w3.drew.heap[w.heap.size + 1]? = some (NO kd2 (.slice P2 n2 p2) (.slice J2 k2 j2) (.slice M2 l2 m2) (.slice B2 b2 c2)) from ⟨keep_bel GB3.out.drew Z.out, keep_bel GB3.out.drew Y.out⟩)
  have X0 := Lib.hid (show w3.drew.heap[w.heap.size + 1 + 1]? = some ZN from keep_bel GB3.out.drew X.out)
  have HW := Lib.hid ((bel_trans H0.out GB3.out).drew)
  replace R3 := Lib.hid (R3.out.later (drew_bel w3))
  refine wp_region_held_drew (S := (fun V : World => V.heap[w.heap.size]? = some (NO kd1 (.slice P1 n1 p1) (.slice J1 k1 j1) (.slice M1 l1 m1) (.slice B1 b1 c1)) ∧ V.heap[w.heap.size + 1]? = some (NO kd2 (.slice P2 n2 p2) (.slice J2 k2 j2) (.slice M2 l2 m2) (.slice B2 b2 c2)))) (by kernel_rfl) ?_ (fun hHeld => ?_)
  · exact S0.out
  have HHeld := Lib.hid hHeld; clear hHeld
  refine wT (i := 0) (oi := { dst := some 19, op := Op.fieldAddr 28 (Operand.tmp 3) 0, type := 0, pos := "ref.go:138", after := #[], guard := none }) (v := ?_) rfl (Or.inl ⟨by rfl, ?_⟩) HHeld.out ?_
  rotate_left
  · intro w hSw; clear hSw; go_simp; try with_reducible rfl
  try simp only [pu, pn, s1, s2, s3]
  refine wT (i := 1) (oi := { dst := some 20, op := Op.load 22 (Operand.tmp 19), type := 22, pos := "ref.go:138", after := #[{ on := 0, ground := Ground.data }], guard := none }) (v := (.int .u8 kd1 : Value)) rfl (Or.inl ⟨by rfl, ?_⟩) HHeld.out ?_
  · intro V hV; have hc0 := (cells5 hV.1).1; clear hV; go_simp
  try simp only [pu, pn, s1, s2, s3]
  refine wT (i := 2) (oi := { dst := some 21, op := Op.move (Operand.tmp 7), type := 23, pos := "ref.go:138", after := #[], guard := none }) (v := ?_) rfl (Or.inl ⟨by rfl, ?_⟩) HHeld.out ?_
  rotate_left
  · intro w hSw; clear hSw; go_simp; try with_reducible rfl
  try simp only [pu, pn, s1, s2, s3]
  refine wT (i := 3) (oi := { dst := some 22, op := Op.fieldAddr 28 (Operand.tmp 3) 2, type := 0, pos := "ref.go:138", after := #[], guard := none }) (v := ?_) rfl (Or.inl ⟨by rfl, ?_⟩) HHeld.out ?_
  rotate_left
  · intro w hSw; clear hSw; go_simp; try with_reducible rfl
  try simp only [pu, pn, s1, s2, s3]
  refine wT (i := 4) (oi := { dst := some 23, op := Op.load 24 (Operand.tmp 22), type := 24, pos := "ref.go:138", after := #[{ on := 3, ground := Ground.data }], guard := none }) (v := (.slice J1 k1 j1 : Value)) rfl (Or.inl ⟨by rfl, ?_⟩) HHeld.out ?_
  · intro V hV; have hc0 := (cells5 hV.1).2.2.1; clear hV; go_simp
  try simp only [pu, pn, s1, s2, s3]
  refine wT (i := 5) (oi := { dst := some 24, op := Op.fieldAddr 28 (Operand.tmp 3) 2, type := 0, pos := "ref.go:138", after := #[], guard := none }) (v := ?_) rfl (Or.inl ⟨by rfl, ?_⟩) HHeld.out ?_
  rotate_left
  · intro w hSw; clear hSw; go_simp; try with_reducible rfl
  try simp only [pu, pn, s1, s2, s3]
  refine wT (i := 6) (oi := { dst := some 25, op := Op.load 24 (Operand.tmp 24), type := 24, pos := "ref.go:138", after := #[{ on := 5, ground := Ground.data }], guard := none }) (v := (.slice J1 k1 j1 : Value)) rfl (Or.inl ⟨by rfl, ?_⟩) HHeld.out ?_
  · intro V hV; have hc0 := (cells5 hV.1).2.2.1; clear hV; go_simp
  try simp only [pu, pn, s1, s2, s3]
  refine wT (i := 7) (oi := { dst := some 26, op := Op.call { callee := Callee.builtin Builtin.len, args := #[Operand.tmp 25], argTypes := #[24] }, type := 3, pos := "ref.go:138", after := #[{ on := 6, ground := Ground.data }], guard := none }) (v := ?_) rfl (Or.inl ⟨by rfl, ?_⟩) HHeld.out ?_
  rotate_left
  · intro w hSw; clear hSw; go_simp; try with_reducible rfl
  try simp only [pu, pn, s1, s2, s3]
  refine wT (i := 8) (oi := { dst := some 27, op := Op.fieldAddr 28 (Operand.tmp 4) 2, type := 0, pos := "ref.go:138", after := #[], guard := none }) (v := ?_) rfl (Or.inl ⟨by rfl, ?_⟩) HHeld.out ?_
  rotate_left
  · intro w hSw; clear hSw; go_simp; try with_reducible rfl
  try simp only [pu, pn, s1, s2, s3]
  refine wT (i := 9) (oi := { dst := some 28, op := Op.load 24 (Operand.tmp 27), type := 24, pos := "ref.go:138", after := #[{ on := 8, ground := Ground.data }], guard := none }) (v := (.slice J2 k2 j2 : Value)) rfl (Or.inl ⟨by rfl, ?_⟩) HHeld.out ?_
  · intro V hV; have hc0 := (cells5 hV.2).2.2.1; clear hV; go_simp
  try simp only [pu, pn, s1, s2, s3]
  refine wT (i := 11) (oi := { dst := some 30, op := Op.fieldAddr 28 (Operand.tmp 3) 3, type := 0, pos := "ref.go:138", after := #[], guard := none }) (v := ?_) rfl (Or.inl ⟨by rfl, ?_⟩) HHeld.out ?_
  rotate_left
  · intro w hSw; clear hSw; go_simp; try with_reducible rfl
  try simp only [pu, pn, s1, s2, s3]
  refine wT (i := 12) (oi := { dst := some 31, op := Op.load 25 (Operand.tmp 30), type := 25, pos := "ref.go:138", after := #[{ on := 11, ground := Ground.data }], guard := none }) (v := (.slice M1 l1 m1 : Value)) rfl (Or.inl ⟨by rfl, ?_⟩) HHeld.out ?_
  · intro V hV; have hc0 := (cells5 hV.1).2.2.2.1; clear hV; go_simp
  try simp only [pu, pn, s1, s2, s3]
  refine wT (i := 13) (oi := { dst := some 32, op := Op.fieldAddr 28 (Operand.tmp 4) 3, type := 0, pos := "ref.go:138", after := #[], guard := none }) (v := ?_) rfl (Or.inl ⟨by rfl, ?_⟩) HHeld.out ?_
  rotate_left
  · intro w hSw; clear hSw; go_simp; try with_reducible rfl
  try simp only [pu, pn, s1, s2, s3]
  refine wT (i := 14) (oi := { dst := some 33, op := Op.load 25 (Operand.tmp 32), type := 25, pos := "ref.go:138", after := #[{ on := 13, ground := Ground.data }], guard := none }) (v := (.slice M2 l2 m2 : Value)) rfl (Or.inl ⟨by rfl, ?_⟩) HHeld.out ?_
  · intro V hV; have hc0 := (cells5 hV.2).2.2.2.1; clear hV; go_simp
  try simp only [pu, pn, s1, s2, s3]
  refine wpAnyH_ready (rs := [10]) (by kernel_rfl) (by simp) ?_
  refine AllReadyH.cons (o := { dst := some 29, op := Op.call { callee := Callee.value (Operand.func 37), args := #[Operand.tmp 23, Operand.tmp 26, Operand.const (Value.int IntKind.i64 0), Operand.tmp 28], argTypes := #[24, 3, 3, 24] }, type := 24, pos := "ref.go:138", after := #[{ on := 4, ground := Ground.data }, { on := 7, ground := Ground.data }, { on := 9, ground := Ground.data }], guard := none }) rfl (fun K hK => ?_) AllReadyH.nil
  go_simp
  go_at_call 37; ((with_reducible refine (KA.out _ HW.out).mono ?_); rintro e v1 ⟨⟨J3, j3, rfl, rj⟩, bb⟩; have RJ := Lib.hid rj; have HW1 := Lib.hid (bel_trans HW.out bb); have S1 := Lib.hid (And.intro (keep_bel bb S0.out.1) (keep_bel bb S0.out.2)); have X1 := Lib.hid (keep_bel bb X0.out); have R31 := Lib.hid (R3.out.later bb); clear bb rj)
  refine hK.out _ _ ?_ (fun hHeld => ?_)
  · exact S1.out
  clear HHeld; have HHeld := Lib.hid hHeld; clear hHeld
  clear hK K
  try simp only [pu, pn, s1, s2, s3]
  refine wpAnyH_ready (rs := [15]) (by kernel_rfl) (by simp) ?_
  refine AllReadyH.cons (o := { dst := some 34, op := Op.call { callee := Callee.value (Operand.func 38), args := #[Operand.tmp 31, Operand.tmp 33], argTypes := #[25, 25] }, type := 25, pos := "ref.go:138", after := #[{ on := 12, ground := Ground.data }, { on := 14, ground := Ground.data }, { on := 10, ground := Ground.chain }], guard := none }) rfl (fun K hK => ?_) AllReadyH.nil
  go_simp
  go_at_call 38; ((with_reducible refine (AA.out _ HW1.out).mono ?_); rintro e v2 ⟨⟨bM, oM, cM, rfl, rm, -, -⟩, bb⟩; have RM := Lib.hid rm; have RJ2 := Lib.hid (RJ.out.later bb); have HW2 := Lib.hid (bel_trans HW1.out bb); have S2 := Lib.hid (And.intro (keep_bel bb S1.out.1) (keep_bel bb S1.out.2)); have X2 := Lib.hid (keep_bel bb X1.out); have R32 := Lib.hid (R31.out.later bb); clear bb rm)
  refine hK.out _ _ ?_ (fun hHeld => ?_)
  · exact S2.out
  clear HHeld; have HHeld := Lib.hid hHeld; clear hHeld
  clear hK K
  try simp only [pu, pn, s1, s2, s3]
  refine wT (i := 16) (oi := { dst := some 35, op := Op.build 28 #[(0, Operand.tmp 20), (1, Operand.tmp 21), (2, Operand.tmp 29), (3, Operand.tmp 34)], type := 28, pos := "ref.go:138", after := #[{ on := 1, ground := Ground.data }, { on := 2, ground := Ground.data }, { on := 10, ground := Ground.data }, { on := 15, ground := Ground.data }], guard := none }) (v := ?_) rfl (Or.inl ⟨by rfl, ?_⟩) HHeld.out ?_
  rotate_left
  · intro w hSw; clear hSw; go_simp; try with_reducible rfl
  try simp only [pu, pn, s1, s2, s3]
  refine wpAnyH_ready (rs := [17]) (by kernel_rfl) (by simp) ?_
  refine AllReadyH.cons (o := { dst := none, op := Op.store 28 (Operand.tmp 6) (Operand.tmp 35), type := 0, pos := "ref.go:138", after := #[{ on := 16, ground := Ground.data }, { on := 15, ground := Ground.chain }, { on := 0, ground := Ground.phase }, { on := 1, ground := Ground.phase }, { on := 2, ground := Ground.phase }, { on := 3, ground := Ground.phase }, { on := 4, ground := Ground.phase }, { on := 5, ground := Ground.phase }, { on := 6, ground := Ground.phase }, { on := 7, ground := Ground.phase }, { on := 8, ground := Ground.phase }, { on := 9, ground := Ground.phase }, { on := 10, ground := Ground.phase }, { on := 11, ground := Ground.phase }, { on := 12, ground := Ground.phase }, { on := 13, ground := Ground.phase }, { on := 14, ground := Ground.phase }, { on := 15, ground := Ground.phase }, { on := 16, ground := Ground.phase }], guard := none }) rfl (fun K hK => ?_) AllReadyH.nil
  obtain ⟨f0, f1, f2, f3, f4⟩ := froz5 X2.out
  obtain ⟨c0, c1, c2, c3, c4⟩ := cells5 X2.out
  go_simp
  refine at_k (fun WB hWB => ?_)
  have HC := Lib.hid (show Chg (fun g => g = w.heap.size + 1 + 1) v2 WB by rw [hWB]; exact chg5 _ _ _ _ _ _ _)
  have ZB := Lib.hid (show WB.heap[w.heap.size + 1 + 1]? = some (NO kd1 (.slice A3 (n1 + 1 + n2) q3) (.slice J3 (k1 + k2) j3) (.slice (some ⟨bM, oM, none⟩) (l1 + l2) cM) (.slice none 0 0)) by rw [hWB]; exact set5w X2.out _ _ _ _ _)
  clear hWB f0 f1 f2 f3 f4 c0 c1 c2 c3 c4
  refine hK.out _ _ ?_ (fun hHeld => ?_)
  · exact ⟨keep_chg HC.out S2.out.1 (fun e => by omega), keep_chg HC.out S2.out.2 (fun e => by omega)⟩
  clear HHeld; have HHeld := Lib.hid hHeld; clear hHeld
  clear hK K
  try simp only [pu, pn, s1, s2, s3]
  refine wpAnyH_done (by kernel_rfl) ?_ _
  clear HHeld
  obtain ⟨i0, i1, i2, i3, i4⟩ := cells5 ZB.out
  go_wp2
  have HZ := Lib.hid (bel_chg HW2.out HC.out (by omega))
  refine bodyPost_ret (v := NV kd1 (.slice A3 (n1 + 1 + n2) q3) (.slice J3 (k1 + k2) j3) (.slice (some ⟨bM, oM, none⟩) (l1 + l2) cM) (.slice none 0 0)) (by simp [results, Tryz.results15, go_sem, i0, i1, i2, i3, i4]) rfl ⟨A3, q3, J3, j3, _, cM, rfl, ?_, ?_, ?_, HZ.out⟩
  · exact (R32.out.chgB HC.out (by have := SZ.out; omega)).rd
  · exact (rd_chg RJ2.out HC.out (int_off RJ2.out X2.out))
  · exact (rd_chg RM.out HC.out (msg_off RM.out X2.out))
end Go.Proofs.YtilnpeekajnlhaaGreat
