/- Nodes: the document's Halves. -/
import Derived.Test.YtilnpeekajnlhaaGreatTh02
import Derived.Test.YtilnpeekajnlhaaGreatTh30
import Derived.Test.YtilnpeekajnlhaaGreatTh16
import Derived.Test.YtilnpeekajnlhaaGreatTh27
set_option linter.unusedVariables false
set_option linter.unusedSimpArgs false
namespace Go.Proofs.YtilnpeekajnlhaaGreat
open Go.RowKit Go.Maps
/-- Two nodes, and the pivot between; what they hold may lie anywhere. -/
def RHalvesP (w : World) (ka kb : Int) (n1 k1 l1 n2 k2 l2 : Nat) (pa : List ByteArray) (ia : List Int) (ma : List MG) (pb : List ByteArray) (ib : List Int) (mb : List MG) (at_ : ByteArray) (e : Ending) (w' : World) : Prop :=
  ∃ P1 p1 J1 j1 M1 m1 B1 b1 P2 p2 J2 j2 M2 m2 B2 b2, e = .returned (.tuple #[NV ka (.slice P1 n1 p1) (.slice J1 k1 j1) (.slice M1 l1 m1) (.slice B1 0 b1), NV kb (.slice P2 n2 p2) (.slice J2 k2 j2) (.slice M2 l2 m2) (.slice B2 0 b2), .string at_]) ∧
    (ES.Rd w' P1 pa ∧ EI.Rd w' J1 ia ∧ EG.Rd w' M1 ma) ∧ (ES.Rd w' P2 pb ∧ EI.Rd w' J2 ib ∧ EG.Rd w' M2 mb) ∧ Below w.heap.size w w'
set_option maxRecDepth 100000 in
set_option maxHeartbeats 8000000 in
theorem rhalves_one (kd : Int) (P J M B : Option Addr) (n pc k kc m mc bc : Nat) (ps : List ByteArray) (ks : List Int) (ms : List MG) (w : World) (hP : ES.Rd w P ps) (hJ : EI.Rd w J ks) (hM : EG.Rd w M ms) (hk : k < 2) :
    Calls Tryz.prog 8 #[NV kd (.slice P n pc) (.slice J k kc) (.slice M m mc) (.slice B 0 bc)] w (RHalvesP w kd 0 n k m 0 0 0 ps ks ms [] [] [] emptyS) := by
  have hq : (k : Int).tdiv 2 = 0 := by rw [Int.tdiv_eq_ediv_of_nonneg (by omega)]; omega
  have hw : IntKind.i64.wrap 0 = 0 := by decide
  have y1 := three_new w (NO kd (.slice P n pc) (.slice J k kc) (.slice M m mc) (.slice B 0 bc)) ZN ZN
  have bw := bel_alloc (bel_alloc (alb w (NO kd (.slice P n pc) (.slice J k kc) (.slice M m mc) (.slice B 0 bc))) ZN) ZN
  obtain ⟨WJ, hWJ⟩ : ∃ WJ, WJ = (((w.alloc (NO kd (.slice P n pc) (.slice J k kc) (.slice M m mc) (.slice B 0 bc))).alloc ZN).alloc ZN) := ⟨_, rfl⟩
  have HWJ := Lib.hid hWJ
  rw [← hWJ] at y1 bw
  have H0 := Lib.hid bw
  have HP := Lib.hid (fun W (b : Below w.heap.size w W) => hP.later b)
  have HJ := Lib.hid (fun W (b : Below w.heap.size w W) => hJ.later b)
  have HM := Lib.hid (fun W (b : Below w.heap.size w W) => hM.later b)
  have Z := Lib.hid y1.1
  have X := Lib.hid y1.2.1
  have Y := Lib.hid y1.2.2
  clear y1 hP hJ hM hk bw hWJ
  obtain ⟨c0, c1, c2, c3, c4⟩ := cells5 Z.out
  obtain ⟨d0, d1, d2, d3, d4⟩ := cells5 X.out
  obtain ⟨e0, e1, e2, e3, e4⟩ := cells5 Y.out
  obtain ⟨f0, f1, f2, f3, f4⟩ := froz5 X.out
  obtain ⟨g0, g1, g2, g3, g4⟩ := froz5 Y.out
  go_enter Tryz.func8, Tryz.ntmps8
  go_upto_region 1 with fail
  rw [← HWJ.out]
  clear HWJ
  go_wp2
  generalize hW5 : ((((WJ.setCell ⟨w.heap.size + 1, 0, none⟩ _).setCell ⟨w.heap.size + 1, 1, none⟩ _).setCell ⟨w.heap.size + 1, 2, none⟩ _).setCell ⟨w.heap.size + 1, 3, none⟩ _).setCell ⟨w.heap.size + 1, 4, none⟩ _ = W5
  have HC5 := Lib.hid (show Chg (fun g => g = w.heap.size + 1) WJ W5 by rw [← hW5]; exact chg5 _ _ _ _ _ _ _)
  have X5 := Lib.hid (show W5.heap[w.heap.size + 1]? = some (NO kd (.slice P n pc) (.slice J k kc) (.slice M m mc) (.slice B 0 bc)) from (by rw [← hW5]; exact set5w X.out _ _ _ _ _))
  have Y5 := Lib.hid (show W5.heap[w.heap.size + 1 + 1]? = some ZN from keep_chg HC5.out Y.out (fun e => by omega))
  clear hW5
  generalize hW6 : World.setCell _ _ _ = W6
  have HC6 := Lib.hid (show Chg (fun g => g = w.heap.size + 1 + 1) W5 W6 by rw [← hW6]; exact chg5 _ _ _ _ _ _ _)
  have X6 := Lib.hid (show W6.heap[w.heap.size + 1]? = some (NO kd (.slice P n pc) (.slice J k kc) (.slice M m mc) (.slice B 0 bc)) from keep_chg HC6.out X5.out (fun e => by omega))
  have Y6 := Lib.hid (show W6.heap[w.heap.size + 1 + 1]? = some ZN from (by rw [← hW6]; exact set5w Y5.out _ _ _ _ _))
  clear hW6 d0 d1 d2 d3 d4 e0 e1 e2 e3 e4
  obtain ⟨k0, k1, k2, k3, k4⟩ := cells5 X6.out
  obtain ⟨q0, q1, q2, q3, q4⟩ := cells5 Y6.out
  have HB := Lib.hid (bel_chg (bel_chg H0.out HC5.out (by omega)) HC6.out (by omega))
  refine bodyPost_ret (v := .tuple #[NV kd (.slice P n pc) (.slice J k kc) (.slice M m mc) (.slice B 0 bc), NV 0 (.slice none 0 0) (.slice none 0 0) (.slice none 0 0) (.slice none 0 0), .string emptyS]) (by simp [results, Tryz.results8, go_sem, k0, k1, k2, k3, k4, q0, q1, q2, q3, q4]) rfl ⟨P, pc, J, kc, M, mc, B, bc, none, 0, none, 0, none, 0, none, 0, rfl, ⟨HP.out _ HB.out, HJ.out _ HB.out, HM.out _ HB.out⟩, ⟨.inl rfl, .inl rfl, .inl rfl⟩, HB.out⟩
set_option maxRecDepth 100000 in
set_option maxHeartbeats 8000000 in
theorem rhalves_two (kd : Int) (b0 o0 b1 o1 : Nat) (M B : Option Addr) (n pc k kc m mc bc : Nat) (ps : List ByteArray) (ks : List Int) (ms : List MG) (w : World) (hl : ps.length = n) (hP : ES.Rd w (some ⟨b0, o0, none⟩) ps) (hkl : ks.length = k) (hJ : EI.Rd w (some ⟨b1, o1, none⟩) ks) (hm : ms.length = m) (hm1 : m ≤ 400) (hM : EG.Rd w M ms) (hn : n ≤ 100) (hk : k = n + 1) (hnp : n ≤ pc) (hnk : k ≤ kc) (hr : rightB ms = true) (h p l r : Nat) (hh : k / 2 = h) (hp1 : h = p + 1) (at_ : ByteArray) (hat : ps[p]? = some at_) (hL : (forL emptyS at_ ms).length = l) (hR : (resL emptyS at_ ms).length = r) :
    Calls Tryz.prog 8 #[NV kd (.slice (some ⟨b0, o0, none⟩) n pc) (.slice (some ⟨b1, o1, none⟩) k kc) (.slice M m mc) (.slice B 0 bc)] w (RHalvesP w kd kd p h l (n - h) (k - h) r (ps.take p) (ks.take h) (forL emptyS at_ ms) (ps.drop h) (ks.drop h) (resL emptyS at_ ms) at_) := by
  have FA := Lib.hid (fun W (b : Below w.heap.size w W) => rfor_any emptyS at_ M m mc ms W hm (by omega) (hM.later b))
  have FB := Lib.hid (fun W (b : Below w.heap.size w W) => rres_any emptyS at_ M m mc ms W hm (by omega) (hM.later b) (fun q _ => acc_right (resL_right (right_take hr q) emptyS at_)))
  unfold RowsOf at FA FB
  rw [hL] at FA
  rw [hR] at FB
  have y1 := three_new w (NO kd (.slice (some ⟨b0, o0, none⟩) n pc) (.slice (some ⟨b1, o1, none⟩) k kc) (.slice M m mc) (.slice B 0 bc)) ZN ZN
  have H0 := Lib.hid (bel_alloc (bel_alloc (alb w (NO kd (.slice (some ⟨b0, o0, none⟩) n pc) (.slice (some ⟨b1, o1, none⟩) k kc) (.slice M m mc) (.slice B 0 bc))) ZN) ZN)
  have HP := Lib.hid (fun W (b : Below w.heap.size w W) => hP.later b)
  have HJ := Lib.hid (fun W (b : Below w.heap.size w W) => hJ.later b)
  have HAT := Lib.hid hat
  have HPL := Lib.hid hl
  have HKL := Lib.hid hkl
  have Z := Lib.hid y1.1
  have X := Lib.hid y1.2.1
  have Y := Lib.hid y1.2.2
  have hdv : (k : Int).tdiv 2 = (h : Int) := by rw [Int.tdiv_eq_ediv_of_nonneg (by omega)]; omega
  have hwh : IntKind.i64.wrap (h : Int) = (h : Int) := IntWalk.i64_in _ (by omega)
  have hwp : IntKind.i64.wrap ((h : Int) - 1) = (p : Int) := by rw [IntWalk.i64_in _ (by omega)]; omega
  have hh00 : ((h : Int) == 0) = false := by rw [beq_eq_false_iff_ne]; omega
  have hh01 : ¬ (h : Int) = 0 := by omega
  have hpn : (p : Int) < (n : Int) := by omega
  have hp0 : (0 : Int) ≤ (p : Int) := by omega
  have hh0 : (0 : Int) ≤ (h : Int) := by omega
  have hhn : (h : Int) ≤ (n : Int) := by omega
  have hhk : (h : Int) ≤ (k : Int) := by omega
  have hh1 : (h : Int) ≤ (pc : Int) := by omega
  have hh2 : (h : Int) ≤ (kc : Int) := by omega
  have hp2' : (p : Int) ≤ (pc : Int) := by omega
  have CPN := Lib.hid hnp
  have CJN := Lib.hid hnk
  have HHN : Hid (h ≤ n ∧ h ≤ k) := Lib.hid (by omega)
  obtain ⟨oP, hoP⟩ : ∃ oP, oP = (if pc = h then o0 else o0 + h * 1) := ⟨_, rfl⟩
  obtain ⟨oJ, hoJ⟩ : ∃ oJ, oJ = (if kc = h then o1 else o1 + h * 1) := ⟨_, rfl⟩
  have DP := Lib.hid (fun W (b : Below w.heap.size w W) => show ES.Rd W (some ⟨b0, oP, none⟩) (ps.drop h) by rw [hoP]; exact (hP.later b).dropC hl (by omega) hnp)
  have DJ := Lib.hid (fun W (b : Below w.heap.size w W) => show EI.Rd W (some ⟨b1, oJ, none⟩) (ks.drop h) by rw [hoJ]; exact (hJ.later b).dropC hkl (by omega) hnk)
  have HOP := Lib.hid hoP
  have HOJ := Lib.hid hoJ
  obtain ⟨bx, ox, ex, -, g0⟩ := es_at (hP.later H0.out) hat
  cases ex
  clear y1 hP hJ hM hl hkl hm hm1 hn hk hnp hnk hr hh hp1 hat hL hR hoP hoJ
  obtain ⟨c0, c1, c2, c3, c4⟩ := cells5 Z.out
  go_enter Tryz.func8, Tryz.ntmps8
  go_upto_region 6 with fail
  have AL := alb (((w.alloc (NO kd (.slice (some ⟨b0, o0, none⟩) n pc) (.slice (some ⟨b1, o1, none⟩) k kc) (.slice M m mc) (.slice B 0 bc))).alloc ZN).alloc ZN) (rgc emptyS at_)
  have NL := heap_alloc_new (((w.alloc (NO kd (.slice (some ⟨b0, o0, none⟩) n pc) (.slice (some ⟨b1, o1, none⟩) k kc) (.slice M m mc) (.slice B 0 bc))).alloc ZN).alloc ZN) (rgc emptyS at_)
  obtain ⟨W5, hW5⟩ : ∃ W5, W5 = ((((w.alloc (NO kd (.slice (some ⟨b0, o0, none⟩) n pc) (.slice (some ⟨b1, o1, none⟩) k kc) (.slice M m mc) (.slice B 0 bc))).alloc ZN).alloc ZN).alloc (rgc emptyS at_)) := ⟨_, rfl⟩
  rw [← hW5] at AL NL ⊢
  replace H0 := Lib.hid (bel_trans H0.out AL)
  replace Z := Lib.hid (keep_bel AL Z.out)
  replace X := Lib.hid (keep_bel AL X.out)
  replace Y := Lib.hid (keep_bel AL Y.out)
  have L5 : Hid (W5.heap[w.heap.size + 1 + 1 + 1]? = some (rgc emptyS at_)) := Lib.hid (by simpa using NL)
  clear AL NL hW5 c0 c1 c2 c3 c4 g0
  have QS6 := Lib.hid (show ∀ q ∈ ([(w.heap.size, (NO kd (.slice (some ⟨b0, o0, none⟩) n pc) (.slice (some ⟨b1, o1, none⟩) k kc) (.slice M m mc) (.slice B 0 bc))), (w.heap.size + 1, ZN), (w.heap.size + 1 + 1, ZN), (w.heap.size + 1 + 1 + 1, rgc emptyS at_)] : List (Nat × Obj)), W5.heap[q.1]? = some q.2 by
    intro q hq
    simp only [List.mem_cons, List.not_mem_nil, or_false] at hq
    rcases hq with rfl | rfl | rfl | rfl
    · exact Z.out
    · exact X.out
    · exact Y.out
    · exact L5.out)
  have A6 := Lib.hid (fun W (b : Below W5.heap.size W5 W) => FA.out W (bel_trans H0.out b))
  go_cut [8] (fun u9 wx => ∃ g9 M3 m3, u9 = .pointer (some ⟨g9, 0, none⟩) ∧ wx.heap[g9]? = some (NO kd (.slice (some ⟨b0, o0, none⟩) p pc) (.slice (some ⟨b1, o1, none⟩) h kc) (.slice M3 l m3) (.slice none 0 0)) ∧ W5.heap.size ≤ g9 ∧ EG.Rd wx M3 (forL emptyS at_ ms) ∧ SK W5 [(w.heap.size, (NO kd (.slice (some ⟨b0, o0, none⟩) n pc) (.slice (some ⟨b1, o1, none⟩) k kc) (.slice M m mc) (.slice B 0 bc))), (w.heap.size + 1, ZN), (w.heap.size + 1 + 1, ZN), (w.heap.size + 1 + 1 + 1, rgc emptyS at_)] wx)
  case first =>
    refine wp_region_held_drew (S := (SK W5 [(w.heap.size, (NO kd (.slice (some ⟨b0, o0, none⟩) n pc) (.slice (some ⟨b1, o1, none⟩) k kc) (.slice M m mc) (.slice B 0 bc))), (w.heap.size + 1, ZN), (w.heap.size + 1 + 1, ZN), (w.heap.size + 1 + 1 + 1, rgc emptyS at_)])) (by kernel_rfl) ?_ (fun hHeld => ?_)
    · exact SK.start QS6.out
    have HHeld := Lib.hid hHeld; clear hHeld
    refine wT (i := 0) (oi := { dst := some 26, op := Op.fieldAddr 28 (Operand.tmp 1) 0, type := 0, pos := "ref.go:129", after := #[], guard := none }) (v := ?_) rfl (Or.inl ⟨by rfl, ?_⟩) HHeld.out ?_
    rotate_left
    · intro w hSw; clear hSw; go_simp; try with_reducible rfl
    try simp only [pu, pn, s1, s2, s3]
    refine wT (i := 1) (oi := { dst := some 27, op := Op.load 22 (Operand.tmp 26), type := 22, pos := "ref.go:129", after := #[{ on := 0, ground := Ground.data }], guard := none }) (v := (.int .u8 kd : Value)) rfl (Or.inl ⟨by rfl, ?_⟩) HHeld.out ?_
    · intro V hV; have hc0 := (cells5 (hV.g 0 rfl)).1; clear hV; go_simp
    try simp only [pu, pn, s1, s2, s3]
    refine wT (i := 2) (oi := { dst := some 28, op := Op.fieldAddr 28 (Operand.tmp 1) 1, type := 0, pos := "ref.go:129", after := #[], guard := none }) (v := ?_) rfl (Or.inl ⟨by rfl, ?_⟩) HHeld.out ?_
    rotate_left
    · intro w hSw; clear hSw; go_simp; try with_reducible rfl
    try simp only [pu, pn, s1, s2, s3]
    refine wT (i := 3) (oi := { dst := some 29, op := Op.load 23 (Operand.tmp 28), type := 23, pos := "ref.go:129", after := #[{ on := 2, ground := Ground.data }], guard := none }) (v := (.slice (some ⟨b0, o0, none⟩) n pc : Value)) rfl (Or.inl ⟨by rfl, ?_⟩) HHeld.out ?_
    · intro V hV; have hc0 := (cells5 (hV.g 0 rfl)).2.1; clear hV; go_simp
    try simp only [pu, pn, s1, s2, s3]
    refine wT (i := 4) (oi := { dst := some 30, op := Op.move (Operand.tmp 5), type := 3, pos := "ref.go:129", after := #[], guard := none }) (v := ?_) rfl (Or.inl ⟨by rfl, ?_⟩) HHeld.out ?_
    rotate_left
    · intro w hSw; clear hSw; go_simp; try with_reducible rfl
    try simp only [pu, pn, s1, s2, s3]
    refine wT (i := 5) (oi := { dst := some 31, op := Op.binOp BinOp.sub 3 (Operand.tmp 30) (Operand.const (Value.int IntKind.i64 1)) 3, type := 3, pos := "ref.go:129", after := #[{ on := 4, ground := Ground.data }], guard := none }) (v := ?_) rfl (Or.inl ⟨by rfl, ?_⟩) HHeld.out ?_
    rotate_left
    · intro w hSw; clear hSw; go_simp; try with_reducible rfl
    try simp only [pu, pn, s1, s2, s3]
    refine wT (i := 6) (oi := { dst := some 32, op := Op.slice 23 (Operand.tmp 29) none (some (Operand.tmp 31)) none, type := 23, pos := "ref.go:129", after := #[{ on := 3, ground := Ground.data }, { on := 5, ground := Ground.data }], guard := none }) (v := ?_) rfl (Or.inl ⟨by rfl, ?_⟩) HHeld.out ?_
    rotate_left
    · intro w hSw; clear hSw; go_simp; try with_reducible rfl
    try simp only [pu, pn, s1, s2, s3]
    refine wT (i := 7) (oi := { dst := some 33, op := Op.fieldAddr 28 (Operand.tmp 1) 2, type := 0, pos := "ref.go:129", after := #[], guard := none }) (v := ?_) rfl (Or.inl ⟨by rfl, ?_⟩) HHeld.out ?_
    rotate_left
    · intro w hSw; clear hSw; go_simp; try with_reducible rfl
    try simp only [pu, pn, s1, s2, s3]
    refine wT (i := 8) (oi := { dst := some 34, op := Op.load 24 (Operand.tmp 33), type := 24, pos := "ref.go:129", after := #[{ on := 7, ground := Ground.data }], guard := none }) (v := (.slice (some ⟨b1, o1, none⟩) k kc : Value)) rfl (Or.inl ⟨by rfl, ?_⟩) HHeld.out ?_
    · intro V hV; have hc0 := (cells5 (hV.g 0 rfl)).2.2.1; clear hV; go_simp
    try simp only [pu, pn, s1, s2, s3]
    refine wT (i := 9) (oi := { dst := some 35, op := Op.move (Operand.tmp 5), type := 3, pos := "ref.go:129", after := #[], guard := none }) (v := ?_) rfl (Or.inl ⟨by rfl, ?_⟩) HHeld.out ?_
    rotate_left
    · intro w hSw; clear hSw; go_simp; try with_reducible rfl
    try simp only [pu, pn, s1, s2, s3]
    refine wT (i := 10) (oi := { dst := some 36, op := Op.slice 24 (Operand.tmp 34) none (some (Operand.tmp 35)) none, type := 24, pos := "ref.go:129", after := #[{ on := 8, ground := Ground.data }, { on := 9, ground := Ground.data }], guard := none }) (v := ?_) rfl (Or.inl ⟨by rfl, ?_⟩) HHeld.out ?_
    rotate_left
    · intro w hSw; clear hSw; go_simp; try with_reducible rfl
    try simp only [pu, pn, s1, s2, s3]
    refine wT (i := 11) (oi := { dst := some 37, op := Op.fieldAddr 28 (Operand.tmp 1) 3, type := 0, pos := "ref.go:129", after := #[], guard := none }) (v := ?_) rfl (Or.inl ⟨by rfl, ?_⟩) HHeld.out ?_
    rotate_left
    · intro w hSw; clear hSw; go_simp; try with_reducible rfl
    try simp only [pu, pn, s1, s2, s3]
    refine wT (i := 12) (oi := { dst := some 38, op := Op.load 25 (Operand.tmp 37), type := 25, pos := "ref.go:129", after := #[{ on := 11, ground := Ground.data }], guard := none }) (v := (.slice M m mc : Value)) rfl (Or.inl ⟨by rfl, ?_⟩) HHeld.out ?_
    · intro V hV; have hc0 := (cells5 (hV.g 0 rfl)).2.2.2.1; clear hV; go_simp
    try simp only [pu, pn, s1, s2, s3]
    refine wT (i := 13) (oi := { dst := some 39, op := Op.load 30 (Operand.tmp 7), type := 30, pos := "ref.go:129", after := #[], guard := none }) (v := (.agg #[.string emptyS, .string at_] : Value)) rfl (Or.inl ⟨by rfl, ?_⟩) HHeld.out ?_
    · intro V hV; have hc0 := (has_two (hV.g 3 rfl)).1; have hc1 := (has_two (hV.g 3 rfl)).2.1; clear hV; go_simp
    try simp only [pu, pn, s1, s2, s3]
    refine wpAnyH_ready (rs := [14, 16]) (by kernel_rfl) (by simp) ?_
    refine AllReadyH.cons (o := { dst := some 40, op := Op.call { callee := Callee.value (Operand.func 24), args := #[Operand.tmp 38, Operand.tmp 39], argTypes := #[25, 30] }, type := 25, pos := "ref.go:129", after := #[{ on := 12, ground := Ground.data }, { on := 13, ground := Ground.data }], guard := none }) rfl (fun K hK => ?_) (AllReadyH.cons (o := { dst := some 8, op := Op.alloc 28, type := 0, pos := "ref.go:129", after := #[], guard := none }) rfl (fun K hK => ?_) AllReadyH.nil)
    · go_simp
      go_at_call 24; ((with_reducible refine (A6.out _ HHeld.out.b).mono ?_); rintro e v6 ⟨⟨M3, m3, rfl, rr⟩, b⟩; have RN6 := Lib.hid rr; have K6 := Lib.hid (HHeld.out.later b); clear b rr)
      refine hK.out _ _ ?_ (fun hHeld => ?_)
      · exact K6.out
      clear HHeld; have HHeld := Lib.hid hHeld; clear hHeld
      clear hK K
      try simp only [pu, pn, s1, s2, s3]
      refine wT (i := 15) (oi := { dst := some 41, op := Op.build 28 #[(0, Operand.tmp 27), (1, Operand.tmp 32), (2, Operand.tmp 36), (3, Operand.tmp 40)], type := 28, pos := "ref.go:129", after := #[{ on := 1, ground := Ground.data }, { on := 6, ground := Ground.data }, { on := 10, ground := Ground.data }, { on := 14, ground := Ground.data }], guard := none }) (v := ?_) rfl (Or.inl ⟨by rfl, ?_⟩) HHeld.out ?_
      rotate_left
      · intro w hSw; clear hSw; go_simp; try with_reducible rfl
      try simp only [pu, pn, s1, s2, s3]
      refine wpAnyH_ready (rs := [16]) (by kernel_rfl) (by simp) ?_
      refine AllReadyH.cons (o := { dst := some 8, op := Op.alloc 28, type := 0, pos := "ref.go:129", after := #[], guard := none }) rfl (fun K hK => ?_) AllReadyH.nil
      have ZZ := Lib.hid (heap_alloc_new v6 ZN)
      have CA := Lib.hid (HHeld.out.later (alb v6 ZN))
      go_simp
      refine hK.out _ _ ?_ (fun hHeld => ?_)
      · exact CA.out
      clear HHeld; have HHeld := Lib.hid hHeld; clear hHeld
      clear hK K
      try simp only [pu, pn, s1, s2, s3]
      refine wpAnyH_ready (rs := [17]) (by kernel_rfl) (by simp) ?_
      refine AllReadyH.cons (o := { dst := none, op := Op.store 28 (Operand.tmp 8) (Operand.tmp 41), type := 0, pos := "ref.go:129", after := #[{ on := 16, ground := Ground.data }, { on := 15, ground := Ground.data }, { on := 14, ground := Ground.chain }, { on := 0, ground := Ground.phase }, { on := 1, ground := Ground.phase }, { on := 2, ground := Ground.phase }, { on := 3, ground := Ground.phase }, { on := 4, ground := Ground.phase }, { on := 5, ground := Ground.phase }, { on := 6, ground := Ground.phase }, { on := 7, ground := Ground.phase }, { on := 8, ground := Ground.phase }, { on := 9, ground := Ground.phase }, { on := 10, ground := Ground.phase }, { on := 11, ground := Ground.phase }, { on := 12, ground := Ground.phase }, { on := 13, ground := Ground.phase }, { on := 14, ground := Ground.phase }, { on := 15, ground := Ground.phase }, { on := 16, ground := Ground.phase }], guard := none }) rfl (fun K hK => ?_) AllReadyH.nil
      obtain ⟨f0, f1, f2, f3, f4⟩ := froz5 ZZ.out
      obtain ⟨c0, c1, c2, c3, c4⟩ := cells5 ZZ.out
      have HO := Lib.hid HHeld.out
      go_simp
      clear f0 f1 f2 f3 f4 c0 c1 c2 c3 c4
      refine hK.out _ _ ?_ (fun hHeld => ?_)
      · with_reducible exact K6.out.later (alb _ _)
      clear HHeld; have HHeld := Lib.hid hHeld; clear hHeld
      clear hK K
      try simp only [pu, pn, s1, s2, s3]
      refine wpAnyH_done (by kernel_rfl) ?_ _
      have HF := Lib.hid HHeld.out
      clear HHeld
      refine at_exit (fun WF hWF => ?_)
      have BF := Lib.hid (show SK W5 [(w.heap.size, (NO kd (.slice (some ⟨b0, o0, none⟩) n pc) (.slice (some ⟨b1, o1, none⟩) k kc) (.slice M m mc) (.slice B 0 bc))), (w.heap.size + 1, ZN), (w.heap.size + 1 + 1, ZN), (w.heap.size + 1 + 1 + 1, rgc emptyS at_)] WF by rw [hWF]; exact HF.out)
      have ZB := Lib.hid (show WF.heap[v6.heap.size]? = some (NO kd (.slice (some ⟨b0, o0, none⟩) p pc) (.slice (some ⟨b1, o1, none⟩) h kc) (.slice M3 l m3) (.slice none 0 0)) by rw [hWF]; with_reducible exact heap_alloc_new _ _)
      have RF := Lib.hid (show EG.Rd WF M3 (forL emptyS at_ ms) by rw [hWF]; with_reducible exact RN6.out.later (alb _ _))
      clear hWF HF ZZ
      go_wp2_with fail
      go_meet
      exact ⟨v6.heap.size, M3, m3, rfl, ZB.out, K6.out.b.size, RF.out, BF.out⟩
    · have ZZ := Lib.hid (show (W5.alloc ZN).drew.heap[W5.heap.size]? = some ZN from heap_alloc_new _ _)
      have CA := Lib.hid (show SK W5 [(w.heap.size, (NO kd (.slice (some ⟨b0, o0, none⟩) n pc) (.slice (some ⟨b1, o1, none⟩) k kc) (.slice M m mc) (.slice B 0 bc))), (w.heap.size + 1, ZN), (w.heap.size + 1 + 1, ZN), (w.heap.size + 1 + 1 + 1, rgc emptyS at_)] (W5.alloc ZN).drew from HHeld.out.later ((alb _ ZN)))
      go_simp
      refine hK.out _ _ ?_ (fun hHeld => ?_)
      · exact CA.out
      clear HHeld; have HHeld := Lib.hid hHeld; clear hHeld
      clear hK K
      try simp only [pu, pn, s1, s2, s3]
      refine wpAnyH_ready (rs := [14]) (by kernel_rfl) (by simp) ?_
      refine AllReadyH.cons (o := { dst := some 40, op := Op.call { callee := Callee.value (Operand.func 24), args := #[Operand.tmp 38, Operand.tmp 39], argTypes := #[25, 30] }, type := 25, pos := "ref.go:129", after := #[{ on := 12, ground := Ground.data }, { on := 13, ground := Ground.data }], guard := none }) rfl (fun K hK => ?_) AllReadyH.nil
      go_simp
      go_at_call 24; ((with_reducible refine (A6.out _ HHeld.out.b).mono ?_); rintro e v6 ⟨⟨M3, m3, rfl, rr⟩, b⟩; have RN6 := Lib.hid rr; have K6 := Lib.hid (HHeld.out.later b); replace ZZ := Lib.hid (keep_bel b ZZ.out); clear b rr)
      refine hK.out _ _ ?_ (fun hHeld => ?_)
      · exact K6.out
      clear HHeld; have HHeld := Lib.hid hHeld; clear hHeld
      clear hK K
      try simp only [pu, pn, s1, s2, s3]
      refine wT (i := 15) (oi := { dst := some 41, op := Op.build 28 #[(0, Operand.tmp 27), (1, Operand.tmp 32), (2, Operand.tmp 36), (3, Operand.tmp 40)], type := 28, pos := "ref.go:129", after := #[{ on := 1, ground := Ground.data }, { on := 6, ground := Ground.data }, { on := 10, ground := Ground.data }, { on := 14, ground := Ground.data }], guard := none }) (v := ?_) rfl (Or.inl ⟨by rfl, ?_⟩) HHeld.out ?_
      rotate_left
      · intro w hSw; clear hSw; go_simp; try with_reducible rfl
      try simp only [pu, pn, s1, s2, s3]
      refine wpAnyH_ready (rs := [17]) (by kernel_rfl) (by simp) ?_
      refine AllReadyH.cons (o := { dst := none, op := Op.store 28 (Operand.tmp 8) (Operand.tmp 41), type := 0, pos := "ref.go:129", after := #[{ on := 16, ground := Ground.data }, { on := 15, ground := Ground.data }, { on := 14, ground := Ground.chain }, { on := 0, ground := Ground.phase }, { on := 1, ground := Ground.phase }, { on := 2, ground := Ground.phase }, { on := 3, ground := Ground.phase }, { on := 4, ground := Ground.phase }, { on := 5, ground := Ground.phase }, { on := 6, ground := Ground.phase }, { on := 7, ground := Ground.phase }, { on := 8, ground := Ground.phase }, { on := 9, ground := Ground.phase }, { on := 10, ground := Ground.phase }, { on := 11, ground := Ground.phase }, { on := 12, ground := Ground.phase }, { on := 13, ground := Ground.phase }, { on := 14, ground := Ground.phase }, { on := 15, ground := Ground.phase }, { on := 16, ground := Ground.phase }], guard := none }) rfl (fun K hK => ?_) AllReadyH.nil
      obtain ⟨f0, f1, f2, f3, f4⟩ := froz5 ZZ.out
      obtain ⟨c0, c1, c2, c3, c4⟩ := cells5 ZZ.out
      have HO := Lib.hid HHeld.out
      go_simp
      clear f0 f1 f2 f3 f4 c0 c1 c2 c3 c4
      refine hK.out _ _ ?_ (fun hHeld => ?_)
      · with_reducible exact HO.out.chgN QS6.out (chg5 _ _ _ _ _ _ _) (Nat.le_refl _)
      clear HHeld; have HHeld := Lib.hid hHeld; clear hHeld
      clear hK K
      try simp only [pu, pn, s1, s2, s3]
      refine wpAnyH_done (by kernel_rfl) ?_ _
      have HF := Lib.hid HHeld.out
      clear HHeld
      refine at_exit (fun WF hWF => ?_)
      have BF := Lib.hid (show SK W5 [(w.heap.size, (NO kd (.slice (some ⟨b0, o0, none⟩) n pc) (.slice (some ⟨b1, o1, none⟩) k kc) (.slice M m mc) (.slice B 0 bc))), (w.heap.size + 1, ZN), (w.heap.size + 1 + 1, ZN), (w.heap.size + 1 + 1 + 1, rgc emptyS at_)] WF by rw [hWF]; exact HF.out)
      have ZB := Lib.hid (show WF.heap[W5.heap.size]? = some (NO kd (.slice (some ⟨b0, o0, none⟩) p pc) (.slice (some ⟨b1, o1, none⟩) h kc) (.slice M3 l m3) (.slice none 0 0)) by rw [hWF]; with_reducible exact set5w ZZ.out _ _ _ _ _)
      have RF := Lib.hid (show EG.Rd WF M3 (forL emptyS at_ ms) by rw [hWF]; exact rd_chg RN6.out (chg5 _ _ _ _ _ _ _) (msg_off RN6.out ZZ.out))
      clear hWF HF ZZ
      go_wp2_with fail
      go_meet
      exact ⟨W5.heap.size, M3, m3, rfl, ZB.out, Nat.le_refl _, RF.out, BF.out⟩
  case rest =>
    obtain ⟨g9, M3, m3, rfl, z9, hg9, r9, sk9⟩ := hcut
    obtain ⟨WA, rfl⟩ : ∃ WA, WA = wc := ⟨_, rfl⟩
    have Z9 := Lib.hid z9
    have R9 := Lib.hid r9
    have HG9 := Lib.hid hg9
    have SK9 := Lib.hid sk9
    clear z9 r9 hg9 sk9 QS6 A6
    have HA0 := Lib.hid (bel_trans H0.out SK9.out.b)
    have QS7 := Lib.hid (show ∀ q ∈ ([(w.heap.size, (NO kd (.slice (some ⟨b0, o0, none⟩) n pc) (.slice (some ⟨b1, o1, none⟩) k kc) (.slice M m mc) (.slice B 0 bc))), (w.heap.size + 1, ZN), (w.heap.size + 1 + 1, ZN), (w.heap.size + 1 + 1 + 1, rgc emptyS at_), (g9, (NO kd (.slice (some ⟨b0, o0, none⟩) p pc) (.slice (some ⟨b1, o1, none⟩) h kc) (.slice M3 l m3) (.slice none 0 0)))] : List (Nat × Obj)), WA.heap[q.1]? = some q.2 by
      intro q hq
      simp only [List.mem_cons, List.not_mem_nil, or_false] at hq
      rcases hq with rfl | rfl | rfl | rfl | rfl
      · exact SK9.out.g 0 rfl
      · exact SK9.out.g 1 rfl
      · exact SK9.out.g 2 rfl
      · exact SK9.out.g 3 rfl
      · exact Z9.out)
    have A7 := Lib.hid (fun W (b : Below WA.heap.size WA W) => FB.out W (bel_trans HA0.out b))
    go_upto_region 7 with fail
    go_cut [9] (fun u10 wx => ∃ g10 M4 m4, u10 = .pointer (some ⟨g10, 0, none⟩) ∧ wx.heap[g10]? = some (NO kd (.slice (some ⟨b0, oP, none⟩) (n - h) (pc - h)) (.slice (some ⟨b1, oJ, none⟩) (k - h) (kc - h)) (.slice M4 r m4) (.slice none 0 0)) ∧ WA.heap.size ≤ g10 ∧ EG.Rd wx M4 (resL emptyS at_ ms) ∧ SK WA [(w.heap.size, (NO kd (.slice (some ⟨b0, o0, none⟩) n pc) (.slice (some ⟨b1, o1, none⟩) k kc) (.slice M m mc) (.slice B 0 bc))), (w.heap.size + 1, ZN), (w.heap.size + 1 + 1, ZN), (w.heap.size + 1 + 1 + 1, rgc emptyS at_), (g9, (NO kd (.slice (some ⟨b0, o0, none⟩) p pc) (.slice (some ⟨b1, o1, none⟩) h kc) (.slice M3 l m3) (.slice none 0 0)))] wx)
    case first =>
      refine wp_region_held_drew (S := (SK WA [(w.heap.size, (NO kd (.slice (some ⟨b0, o0, none⟩) n pc) (.slice (some ⟨b1, o1, none⟩) k kc) (.slice M m mc) (.slice B 0 bc))), (w.heap.size + 1, ZN), (w.heap.size + 1 + 1, ZN), (w.heap.size + 1 + 1 + 1, rgc emptyS at_), (g9, (NO kd (.slice (some ⟨b0, o0, none⟩) p pc) (.slice (some ⟨b1, o1, none⟩) h kc) (.slice M3 l m3) (.slice none 0 0)))])) (by kernel_rfl) ?_ (fun hHeld => ?_)
      · exact SK.start QS7.out
      have HHeld := Lib.hid hHeld; clear hHeld
      refine wT (i := 0) (oi := { dst := some 42, op := Op.fieldAddr 28 (Operand.tmp 1) 0, type := 0, pos := "ref.go:130", after := #[], guard := none }) (v := ?_) rfl (Or.inl ⟨by rfl, ?_⟩) HHeld.out ?_
      rotate_left
      · intro w hSw; clear hSw; go_simp; try with_reducible rfl
      try simp only [pu, pn, s1, s2, s3]
      refine wT (i := 1) (oi := { dst := some 43, op := Op.load 22 (Operand.tmp 42), type := 22, pos := "ref.go:130", after := #[{ on := 0, ground := Ground.data }], guard := none }) (v := (.int .u8 kd : Value)) rfl (Or.inl ⟨by rfl, ?_⟩) HHeld.out ?_
      · intro V hV; have hc0 := (cells5 (hV.g 0 rfl)).1; clear hV; go_simp
      try simp only [pu, pn, s1, s2, s3]
      refine wT (i := 2) (oi := { dst := some 44, op := Op.fieldAddr 28 (Operand.tmp 1) 1, type := 0, pos := "ref.go:130", after := #[], guard := none }) (v := ?_) rfl (Or.inl ⟨by rfl, ?_⟩) HHeld.out ?_
      rotate_left
      · intro w hSw; clear hSw; go_simp; try with_reducible rfl
      try simp only [pu, pn, s1, s2, s3]
      refine wT (i := 3) (oi := { dst := some 45, op := Op.load 23 (Operand.tmp 44), type := 23, pos := "ref.go:130", after := #[{ on := 2, ground := Ground.data }], guard := none }) (v := (.slice (some ⟨b0, o0, none⟩) n pc : Value)) rfl (Or.inl ⟨by rfl, ?_⟩) HHeld.out ?_
      · intro V hV; have hc0 := (cells5 (hV.g 0 rfl)).2.1; clear hV; go_simp
      try simp only [pu, pn, s1, s2, s3]
      refine wT (i := 4) (oi := { dst := some 46, op := Op.move (Operand.tmp 5), type := 3, pos := "ref.go:130", after := #[], guard := none }) (v := ?_) rfl (Or.inl ⟨by rfl, ?_⟩) HHeld.out ?_
      rotate_left
      · intro w hSw; clear hSw; go_simp; try with_reducible rfl
      try simp only [pu, pn, s1, s2, s3]
      refine wT (i := 5) (oi := { dst := some 47, op := Op.slice 23 (Operand.tmp 45) (some (Operand.tmp 46)) none none, type := 23, pos := "ref.go:130", after := #[{ on := 3, ground := Ground.data }, { on := 4, ground := Ground.data }], guard := none }) (v := (.slice (some ⟨b0, oP, none⟩) (n - h) (pc - h) : Value)) rfl (Or.inl ⟨by rfl, ?_⟩) HHeld.out ?_
      · intro V hV; have hc0 := HOP.out; clear hV; go_simp; (try (split <;> rfl))
      try simp only [pu, pn, s1, s2, s3]
      refine wT (i := 6) (oi := { dst := some 48, op := Op.fieldAddr 28 (Operand.tmp 1) 2, type := 0, pos := "ref.go:130", after := #[], guard := none }) (v := ?_) rfl (Or.inl ⟨by rfl, ?_⟩) HHeld.out ?_
      rotate_left
      · intro w hSw; clear hSw; go_simp; try with_reducible rfl
      try simp only [pu, pn, s1, s2, s3]
      refine wT (i := 7) (oi := { dst := some 49, op := Op.load 24 (Operand.tmp 48), type := 24, pos := "ref.go:130", after := #[{ on := 6, ground := Ground.data }], guard := none }) (v := (.slice (some ⟨b1, o1, none⟩) k kc : Value)) rfl (Or.inl ⟨by rfl, ?_⟩) HHeld.out ?_
      · intro V hV; have hc0 := (cells5 (hV.g 0 rfl)).2.2.1; clear hV; go_simp
      try simp only [pu, pn, s1, s2, s3]
      refine wT (i := 8) (oi := { dst := some 50, op := Op.move (Operand.tmp 5), type := 3, pos := "ref.go:130", after := #[], guard := none }) (v := ?_) rfl (Or.inl ⟨by rfl, ?_⟩) HHeld.out ?_
      rotate_left
      · intro w hSw; clear hSw; go_simp; try with_reducible rfl
      try simp only [pu, pn, s1, s2, s3]
      refine wT (i := 9) (oi := { dst := some 51, op := Op.slice 24 (Operand.tmp 49) (some (Operand.tmp 50)) none none, type := 24, pos := "ref.go:130", after := #[{ on := 7, ground := Ground.data }, { on := 8, ground := Ground.data }], guard := none }) (v := (.slice (some ⟨b1, oJ, none⟩) (k - h) (kc - h) : Value)) rfl (Or.inl ⟨by rfl, ?_⟩) HHeld.out ?_
      · intro V hV; have hc0 := HOJ.out; clear hV; go_simp; (try (split <;> rfl))
      try simp only [pu, pn, s1, s2, s3]
      refine wT (i := 10) (oi := { dst := some 52, op := Op.fieldAddr 28 (Operand.tmp 1) 3, type := 0, pos := "ref.go:130", after := #[], guard := none }) (v := ?_) rfl (Or.inl ⟨by rfl, ?_⟩) HHeld.out ?_
      rotate_left
      · intro w hSw; clear hSw; go_simp; try with_reducible rfl
      try simp only [pu, pn, s1, s2, s3]
      refine wT (i := 11) (oi := { dst := some 53, op := Op.load 25 (Operand.tmp 52), type := 25, pos := "ref.go:130", after := #[{ on := 10, ground := Ground.data }], guard := none }) (v := (.slice M m mc : Value)) rfl (Or.inl ⟨by rfl, ?_⟩) HHeld.out ?_
      · intro V hV; have hc0 := (cells5 (hV.g 0 rfl)).2.2.2.1; clear hV; go_simp
      try simp only [pu, pn, s1, s2, s3]
      refine wT (i := 12) (oi := { dst := some 54, op := Op.load 30 (Operand.tmp 7), type := 30, pos := "ref.go:130", after := #[], guard := none }) (v := (.agg #[.string emptyS, .string at_] : Value)) rfl (Or.inl ⟨by rfl, ?_⟩) HHeld.out ?_
      · intro V hV; have hc0 := (has_two (hV.g 3 rfl)).1; have hc1 := (has_two (hV.g 3 rfl)).2.1; clear hV; go_simp
      try simp only [pu, pn, s1, s2, s3]
      refine wpAnyH_ready (rs := [13, 15]) (by kernel_rfl) (by simp) ?_
      refine AllReadyH.cons (o := { dst := some 55, op := Op.call { callee := Callee.value (Operand.func 25), args := #[Operand.tmp 53, Operand.tmp 54], argTypes := #[25, 30] }, type := 25, pos := "ref.go:130", after := #[{ on := 11, ground := Ground.data }, { on := 12, ground := Ground.data }], guard := none }) rfl (fun K hK => ?_) (AllReadyH.cons (o := { dst := some 9, op := Op.alloc 28, type := 0, pos := "ref.go:130", after := #[], guard := none }) rfl (fun K hK => ?_) AllReadyH.nil)
      · go_simp
        go_at_call 25; ((with_reducible refine (A7.out _ HHeld.out.b).mono ?_); rintro e v7 ⟨⟨M4, m4, rfl, rr⟩, b⟩; have RN7 := Lib.hid rr; have K7 := Lib.hid (HHeld.out.later b); clear b rr)
        refine hK.out _ _ ?_ (fun hHeld => ?_)
        · exact K7.out
        clear HHeld; have HHeld := Lib.hid hHeld; clear hHeld
        clear hK K
        try simp only [pu, pn, s1, s2, s3]
        refine wT (i := 14) (oi := { dst := some 56, op := Op.build 28 #[(0, Operand.tmp 43), (1, Operand.tmp 47), (2, Operand.tmp 51), (3, Operand.tmp 55)], type := 28, pos := "ref.go:130", after := #[{ on := 1, ground := Ground.data }, { on := 5, ground := Ground.data }, { on := 9, ground := Ground.data }, { on := 13, ground := Ground.data }], guard := none }) (v := ?_) rfl (Or.inl ⟨by rfl, ?_⟩) HHeld.out ?_
        rotate_left
        · intro w hSw; clear hSw; go_simp; try with_reducible rfl
        try simp only [pu, pn, s1, s2, s3]
        refine wpAnyH_ready (rs := [15]) (by kernel_rfl) (by simp) ?_
        refine AllReadyH.cons (o := { dst := some 9, op := Op.alloc 28, type := 0, pos := "ref.go:130", after := #[], guard := none }) rfl (fun K hK => ?_) AllReadyH.nil
        have ZZ := Lib.hid (heap_alloc_new v7 ZN)
        have CA := Lib.hid (HHeld.out.later (alb v7 ZN))
        go_simp
        refine hK.out _ _ ?_ (fun hHeld => ?_)
        · exact CA.out
        clear HHeld; have HHeld := Lib.hid hHeld; clear hHeld
        clear hK K
        try simp only [pu, pn, s1, s2, s3]
        refine wpAnyH_ready (rs := [16]) (by kernel_rfl) (by simp) ?_
        refine AllReadyH.cons (o := { dst := none, op := Op.store 28 (Operand.tmp 9) (Operand.tmp 56), type := 0, pos := "ref.go:130", after := #[{ on := 15, ground := Ground.data }, { on := 14, ground := Ground.data }, { on := 13, ground := Ground.chain }, { on := 0, ground := Ground.phase }, { on := 1, ground := Ground.phase }, { on := 2, ground := Ground.phase }, { on := 3, ground := Ground.phase }, { on := 4, ground := Ground.phase }, { on := 5, ground := Ground.phase }, { on := 6, ground := Ground.phase }, { on := 7, ground := Ground.phase }, { on := 8, ground := Ground.phase }, { on := 9, ground := Ground.phase }, { on := 10, ground := Ground.phase }, { on := 11, ground := Ground.phase }, { on := 12, ground := Ground.phase }, { on := 13, ground := Ground.phase }, { on := 14, ground := Ground.phase }, { on := 15, ground := Ground.phase }], guard := none }) rfl (fun K hK => ?_) AllReadyH.nil
        obtain ⟨f0, f1, f2, f3, f4⟩ := froz5 ZZ.out
        obtain ⟨c0, c1, c2, c3, c4⟩ := cells5 ZZ.out
        have HO := Lib.hid HHeld.out
        go_simp
        clear f0 f1 f2 f3 f4 c0 c1 c2 c3 c4
        refine hK.out _ _ ?_ (fun hHeld => ?_)
        · with_reducible exact K7.out.later (alb _ _)
        clear HHeld; have HHeld := Lib.hid hHeld; clear hHeld
        clear hK K
        try simp only [pu, pn, s1, s2, s3]
        refine wpAnyH_done (by kernel_rfl) ?_ _
        have HF := Lib.hid HHeld.out
        clear HHeld
        refine at_exit (fun WF hWF => ?_)
        have BF := Lib.hid (show SK WA [(w.heap.size, (NO kd (.slice (some ⟨b0, o0, none⟩) n pc) (.slice (some ⟨b1, o1, none⟩) k kc) (.slice M m mc) (.slice B 0 bc))), (w.heap.size + 1, ZN), (w.heap.size + 1 + 1, ZN), (w.heap.size + 1 + 1 + 1, rgc emptyS at_), (g9, (NO kd (.slice (some ⟨b0, o0, none⟩) p pc) (.slice (some ⟨b1, o1, none⟩) h kc) (.slice M3 l m3) (.slice none 0 0)))] WF by rw [hWF]; exact HF.out)
        have ZB := Lib.hid (show WF.heap[v7.heap.size]? = some (NO kd (.slice (some ⟨b0, oP, none⟩) (n - h) (pc - h)) (.slice (some ⟨b1, oJ, none⟩) (k - h) (kc - h)) (.slice M4 r m4) (.slice none 0 0)) by rw [hWF]; with_reducible exact heap_alloc_new _ _)
        have RF := Lib.hid (show EG.Rd WF M4 (resL emptyS at_ ms) by rw [hWF]; with_reducible exact RN7.out.later (alb _ _))
        clear hWF HF ZZ
        go_wp2_with fail
        go_meet
        exact ⟨v7.heap.size, M4, m4, rfl, ZB.out, K7.out.b.size, RF.out, BF.out⟩
      · have ZZ := Lib.hid (show (WA.alloc ZN).drew.heap[WA.heap.size]? = some ZN from heap_alloc_new _ _)
        have CA := Lib.hid (show SK WA [(w.heap.size, (NO kd (.slice (some ⟨b0, o0, none⟩) n pc) (.slice (some ⟨b1, o1, none⟩) k kc) (.slice M m mc) (.slice B 0 bc))), (w.heap.size + 1, ZN), (w.heap.size + 1 + 1, ZN), (w.heap.size + 1 + 1 + 1, rgc emptyS at_), (g9, (NO kd (.slice (some ⟨b0, o0, none⟩) p pc) (.slice (some ⟨b1, o1, none⟩) h kc) (.slice M3 l m3) (.slice none 0 0)))] (WA.alloc ZN).drew from HHeld.out.later ((alb _ ZN)))
        go_simp
        refine hK.out _ _ ?_ (fun hHeld => ?_)
        · exact CA.out
        clear HHeld; have HHeld := Lib.hid hHeld; clear hHeld
        clear hK K
        try simp only [pu, pn, s1, s2, s3]
        refine wpAnyH_ready (rs := [13]) (by kernel_rfl) (by simp) ?_
        refine AllReadyH.cons (o := { dst := some 55, op := Op.call { callee := Callee.value (Operand.func 25), args := #[Operand.tmp 53, Operand.tmp 54], argTypes := #[25, 30] }, type := 25, pos := "ref.go:130", after := #[{ on := 11, ground := Ground.data }, { on := 12, ground := Ground.data }], guard := none }) rfl (fun K hK => ?_) AllReadyH.nil
        go_simp
        go_at_call 25; ((with_reducible refine (A7.out _ HHeld.out.b).mono ?_); rintro e v7 ⟨⟨M4, m4, rfl, rr⟩, b⟩; have RN7 := Lib.hid rr; have K7 := Lib.hid (HHeld.out.later b); replace ZZ := Lib.hid (keep_bel b ZZ.out); clear b rr)
        refine hK.out _ _ ?_ (fun hHeld => ?_)
        · exact K7.out
        clear HHeld; have HHeld := Lib.hid hHeld; clear hHeld
        clear hK K
        try simp only [pu, pn, s1, s2, s3]
        refine wT (i := 14) (oi := { dst := some 56, op := Op.build 28 #[(0, Operand.tmp 43), (1, Operand.tmp 47), (2, Operand.tmp 51), (3, Operand.tmp 55)], type := 28, pos := "ref.go:130", after := #[{ on := 1, ground := Ground.data }, { on := 5, ground := Ground.data }, { on := 9, ground := Ground.data }, { on := 13, ground := Ground.data }], guard := none }) (v := ?_) rfl (Or.inl ⟨by rfl, ?_⟩) HHeld.out ?_
        rotate_left
        · intro w hSw; clear hSw; go_simp; try with_reducible rfl
        try simp only [pu, pn, s1, s2, s3]
        refine wpAnyH_ready (rs := [16]) (by kernel_rfl) (by simp) ?_
        refine AllReadyH.cons (o := { dst := none, op := Op.store 28 (Operand.tmp 9) (Operand.tmp 56), type := 0, pos := "ref.go:130", after := #[{ on := 15, ground := Ground.data }, { on := 14, ground := Ground.data }, { on := 13, ground := Ground.chain }, { on := 0, ground := Ground.phase }, { on := 1, ground := Ground.phase }, { on := 2, ground := Ground.phase }, { on := 3, ground := Ground.phase }, { on := 4, ground := Ground.phase }, { on := 5, ground := Ground.phase }, { on := 6, ground := Ground.phase }, { on := 7, ground := Ground.phase }, { on := 8, ground := Ground.phase }, { on := 9, ground := Ground.phase }, { on := 10, ground := Ground.phase }, { on := 11, ground := Ground.phase }, { on := 12, ground := Ground.phase }, { on := 13, ground := Ground.phase }, { on := 14, ground := Ground.phase }, { on := 15, ground := Ground.phase }], guard := none }) rfl (fun K hK => ?_) AllReadyH.nil
        obtain ⟨f0, f1, f2, f3, f4⟩ := froz5 ZZ.out
        obtain ⟨c0, c1, c2, c3, c4⟩ := cells5 ZZ.out
        have HO := Lib.hid HHeld.out
        go_simp
        clear f0 f1 f2 f3 f4 c0 c1 c2 c3 c4
        refine hK.out _ _ ?_ (fun hHeld => ?_)
        · with_reducible exact HO.out.chgN QS7.out (chg5 _ _ _ _ _ _ _) (Nat.le_refl _)
        clear HHeld; have HHeld := Lib.hid hHeld; clear hHeld
        clear hK K
        try simp only [pu, pn, s1, s2, s3]
        refine wpAnyH_done (by kernel_rfl) ?_ _
        have HF := Lib.hid HHeld.out
        clear HHeld
        refine at_exit (fun WF hWF => ?_)
        have BF := Lib.hid (show SK WA [(w.heap.size, (NO kd (.slice (some ⟨b0, o0, none⟩) n pc) (.slice (some ⟨b1, o1, none⟩) k kc) (.slice M m mc) (.slice B 0 bc))), (w.heap.size + 1, ZN), (w.heap.size + 1 + 1, ZN), (w.heap.size + 1 + 1 + 1, rgc emptyS at_), (g9, (NO kd (.slice (some ⟨b0, o0, none⟩) p pc) (.slice (some ⟨b1, o1, none⟩) h kc) (.slice M3 l m3) (.slice none 0 0)))] WF by rw [hWF]; exact HF.out)
        have ZB := Lib.hid (show WF.heap[WA.heap.size]? = some (NO kd (.slice (some ⟨b0, oP, none⟩) (n - h) (pc - h)) (.slice (some ⟨b1, oJ, none⟩) (k - h) (kc - h)) (.slice M4 r m4) (.slice none 0 0)) by rw [hWF]; with_reducible exact set5w ZZ.out _ _ _ _ _)
        have RF := Lib.hid (show EG.Rd WF M4 (resL emptyS at_ ms) by rw [hWF]; exact rd_chg RN7.out (chg5 _ _ _ _ _ _ _) (msg_off RN7.out ZZ.out))
        clear hWF HF ZZ
        go_wp2_with fail
        go_meet
        exact ⟨WA.heap.size, M4, m4, rfl, ZB.out, Nat.le_refl _, RF.out, BF.out⟩
    case rest =>
      obtain ⟨g10, M4, m4, rfl, z10, hg10, r10, sk10⟩ := hcut
      obtain ⟨WB, rfl⟩ : ∃ WB, WB = wc := ⟨_, rfl⟩
      have Z10 := Lib.hid z10
      have HG10 := Lib.hid hg10
      have X10 := Lib.hid (show WB.heap[w.heap.size + 1]? = some ZN from sk10.g 1 rfl)
      have Y10 := Lib.hid (show WB.heap[w.heap.size + 1 + 1]? = some ZN from sk10.g 2 rfl)
      have Z9b := Lib.hid (show WB.heap[g9]? = some (NO kd (.slice (some ⟨b0, o0, none⟩) p pc) (.slice (some ⟨b1, o1, none⟩) h kc) (.slice M3 l m3) (.slice none 0 0)) from sk10.g 4 rfl)
      have R10 := Lib.hid r10
      have R9b := Lib.hid (R9.out.later sk10.b)
      have HB := Lib.hid (bel_trans HA0.out sk10.b)
      have W3S : Hid (w.heap.size + 4 ≤ W5.heap.size) := Lib.hid (by have := (Array.getElem?_eq_some_iff.1 L5.out).1; omega)
      have G9 : Hid (w.heap.size + 4 ≤ g9) := Lib.hid (Nat.le_trans W3S.out HG9.out)
      have G10 : Hid (w.heap.size + 4 ≤ g10) := Lib.hid (Nat.le_trans (Nat.le_trans W3S.out SK9.out.b.size) HG10.out)
      have O9 := Lib.hid (And.intro (msg_off R9b.out X10.out) (msg_off R9b.out Y10.out))
      have O10 := Lib.hid (And.intro (msg_off R10.out X10.out) (msg_off R10.out Y10.out))
      clear z10 r10 hg10 sk10 QS7 A7
      obtain ⟨c0, c1, c2, c3, c4⟩ := cells5 X10.out
      obtain ⟨f0, f1, f2, f3, f4⟩ := froz5 X10.out
      obtain ⟨d0, d1, d2, d3, d4⟩ := cells5 Y10.out
      obtain ⟨e0, e1, e2, e3, e4⟩ := froz5 Y10.out
      go_upto_region 8 with fail
      refine wp_region_held_drew (S := (fun V : World => V.heap[g9]? = some (NO kd (.slice (some ⟨b0, o0, none⟩) p pc) (.slice (some ⟨b1, o1, none⟩) h kc) (.slice M3 l m3) (.slice none 0 0)) ∧ V.heap[g10]? = some (NO kd (.slice (some ⟨b0, oP, none⟩) (n - h) (pc - h)) (.slice (some ⟨b1, oJ, none⟩) (k - h) (kc - h)) (.slice M4 r m4) (.slice none 0 0)))) (by kernel_rfl) ?_ (fun hHeld => ?_)
      · exact ⟨Z9b.out, Z10.out⟩
      have HHeld := Lib.hid hHeld; clear hHeld
      refine wT (i := 0) (oi := { dst := some 57, op := Op.load 28 (Operand.tmp 8), type := 28, pos := "ref.go:131", after := #[], guard := none }) (v := (NV kd (.slice (some ⟨b0, o0, none⟩) p pc) (.slice (some ⟨b1, o1, none⟩) h kc) (.slice M3 l m3) (.slice none 0 0) : Value)) rfl (Or.inl ⟨by rfl, ?_⟩) HHeld.out ?_
      · intro V hV; have hc0 := (cells5 hV.1).1; have hc1 := (cells5 hV.1).2.1; have hc2 := (cells5 hV.1).2.2.1; have hc3 := (cells5 hV.1).2.2.2.1; have hc4 := (cells5 hV.1).2.2.2.2; clear hV; go_simp
      try simp only [pu, pn, s1, s2, s3]
      refine wT (i := 1) (oi := { dst := some 58, op := Op.load 28 (Operand.tmp 9), type := 28, pos := "ref.go:131", after := #[{ on := 3, ground := Ground.gcOnly Departure.lateStores }], guard := none }) (v := (NV kd (.slice (some ⟨b0, oP, none⟩) (n - h) (pc - h)) (.slice (some ⟨b1, oJ, none⟩) (k - h) (kc - h)) (.slice M4 r m4) (.slice none 0 0) : Value)) rfl (Or.inl ⟨by rfl, ?_⟩) HHeld.out ?_
      · intro V hV; have hc0 := (cells5 hV.2).1; have hc1 := (cells5 hV.2).2.1; have hc2 := (cells5 hV.2).2.2.1; have hc3 := (cells5 hV.2).2.2.2.1; have hc4 := (cells5 hV.2).2.2.2.2; clear hV; go_simp
      try simp only [pu, pn, s1, s2, s3]
      refine wT (i := 2) (oi := { dst := some 59, op := Op.move (Operand.tmp 6), type := 9, pos := "ref.go:131", after := #[{ on := 4, ground := Ground.gcOnly Departure.lateStores }], guard := none }) (v := ?_) rfl (Or.inl ⟨by rfl, ?_⟩) HHeld.out ?_
      rotate_left
      · intro w hSw; clear hSw; go_simp; try with_reducible rfl
      try simp only [pu, pn, s1, s2, s3]
      refine wpAnyH_ready (rs := [3]) (by kernel_rfl) (by simp) ?_
      refine AllReadyH.cons (o := { dst := none, op := Op.store 28 (Operand.tmp 2) (Operand.tmp 57), type := 0, pos := "ref.go:131", after := #[{ on := 0, ground := Ground.data }, { on := 0, ground := Ground.phase }, { on := 1, ground := Ground.textOnly Departure.lateStores }, { on := 2, ground := Ground.textOnly Departure.lateStores }], guard := none }) rfl (fun K hK => ?_) AllReadyH.nil
      go_simp
      generalize hW : World.setCell _ _ _ = W8
      have HCa := Lib.hid (show Chg (fun g => g = w.heap.size + 1) WB W8 by rw [← hW]; exact chg5 _ _ _ _ _ _ _)
      have Ba := Lib.hid (show W8.heap[w.heap.size + 1]? = some (NO kd (.slice (some ⟨b0, o0, none⟩) p pc) (.slice (some ⟨b1, o1, none⟩) h kc) (.slice M3 l m3) (.slice none 0 0)) by rw [← hW]; exact set5w X10.out _ _ _ _ _)
      have Y11 := Lib.hid (show W8.heap[w.heap.size + 1 + 1]? = some ZN from keep_chg HCa.out Y10.out (fun e => by omega))
      have U9a := Lib.hid (show W8.heap[g9]? = some (NO kd (.slice (some ⟨b0, o0, none⟩) p pc) (.slice (some ⟨b1, o1, none⟩) h kc) (.slice M3 l m3) (.slice none 0 0)) from keep_chg HCa.out Z9b.out (fun e => absurd (show g9 = _ from e) (by have := G9.out; omega)))
      have U10a := Lib.hid (show W8.heap[g10]? = some (NO kd (.slice (some ⟨b0, oP, none⟩) (n - h) (pc - h)) (.slice (some ⟨b1, oJ, none⟩) (k - h) (kc - h)) (.slice M4 r m4) (.slice none 0 0)) from keep_chg HCa.out Z10.out (fun e => absurd (show g10 = _ from e) (by have := G10.out; omega)))
      clear hW c0 c1 c2 c3 c4 f0 f1 f2 f3 f4 d0 d1 d2 d3 d4 e0 e1 e2 e3 e4
      obtain ⟨d0, d1, d2, d3, d4⟩ := cells5 Y11.out
      obtain ⟨e0, e1, e2, e3, e4⟩ := froz5 Y11.out
      obtain ⟨c0, c1, c2, c3, c4⟩ := cells5 Ba.out
      obtain ⟨f0, f1, f2, f3, f4⟩ := froz5 Ba.out
      refine hK.out _ _ ?_ (fun hHeld => ?_)
      · exact ⟨U9a.out, U10a.out⟩
      clear HHeld; have HHeld := Lib.hid hHeld; clear hHeld
      clear hK K
      try simp only [pu, pn, s1, s2, s3]
      refine wpAnyH_ready (rs := [4]) (by kernel_rfl) (by simp) ?_
      refine AllReadyH.cons (o := { dst := none, op := Op.store 28 (Operand.tmp 3) (Operand.tmp 58), type := 0, pos := "ref.go:131", after := #[{ on := 1, ground := Ground.data }, { on := 3, ground := Ground.chain }, { on := 0, ground := Ground.phase }, { on := 1, ground := Ground.phase }, { on := 2, ground := Ground.textOnly Departure.lateStores }, { on := 3, ground := Ground.phase }], guard := none }) rfl (fun K hK => ?_) AllReadyH.nil
      go_simp
      generalize hW : World.setCell _ _ _ = W9
      have HCb := Lib.hid (show Chg (fun g => g = w.heap.size + 1 + 1) W8 W9 by rw [← hW]; exact chg5 _ _ _ _ _ _ _)
      have Bb := Lib.hid (show W9.heap[w.heap.size + 1 + 1]? = some (NO kd (.slice (some ⟨b0, oP, none⟩) (n - h) (pc - h)) (.slice (some ⟨b1, oJ, none⟩) (k - h) (kc - h)) (.slice M4 r m4) (.slice none 0 0)) by rw [← hW]; exact set5w Y11.out _ _ _ _ _)
      have Bc := Lib.hid (show W9.heap[w.heap.size + 1]? = some (NO kd (.slice (some ⟨b0, o0, none⟩) p pc) (.slice (some ⟨b1, o1, none⟩) h kc) (.slice M3 l m3) (.slice none 0 0)) from keep_chg HCb.out Ba.out (fun e => by omega))
      have U9b := Lib.hid (show W9.heap[g9]? = some (NO kd (.slice (some ⟨b0, o0, none⟩) p pc) (.slice (some ⟨b1, o1, none⟩) h kc) (.slice M3 l m3) (.slice none 0 0)) from keep_chg HCb.out U9a.out (fun e => absurd (show g9 = _ from e) (by have := G9.out; omega)))
      have U10b := Lib.hid (show W9.heap[g10]? = some (NO kd (.slice (some ⟨b0, oP, none⟩) (n - h) (pc - h)) (.slice (some ⟨b1, oJ, none⟩) (k - h) (kc - h)) (.slice M4 r m4) (.slice none 0 0)) from keep_chg HCb.out U10a.out (fun e => absurd (show g10 = _ from e) (by have := G10.out; omega)))
      clear hW c0 c1 c2 c3 c4 f0 f1 f2 f3 f4 d0 d1 d2 d3 d4 e0 e1 e2 e3 e4
      refine hK.out _ _ ?_ (fun hHeld => ?_)
      · exact ⟨U9b.out, U10b.out⟩
      clear HHeld; have HHeld := Lib.hid hHeld; clear hHeld
      clear hK K
      try simp only [pu, pn, s1, s2, s3]
      refine wT (i := 5) (oi := { dst := some 4, op := Op.assign (Operand.tmp 59), type := 9, pos := "ref.go:131", after := #[{ on := 2, ground := Ground.data }, { on := 4, ground := Ground.chain }, { on := 0, ground := Ground.phase }, { on := 1, ground := Ground.phase }, { on := 2, ground := Ground.phase }, { on := 3, ground := Ground.phase }, { on := 4, ground := Ground.phase }], guard := none }) (v := ?_) rfl (Or.inl ⟨by rfl, ?_⟩) HHeld.out ?_
      rotate_left
      · intro w hSw; clear hSw; go_simp; try with_reducible rfl
      try simp only [pu, pn, s1, s2, s3]
      refine wpAnyH_done (by kernel_rfl) ?_ _
      clear HHeld
      obtain ⟨k0, k1, k2, k3, k4⟩ := cells5 Bc.out
      obtain ⟨q0, q1, q2, q3, q4⟩ := cells5 Bb.out
      go_wp2
      have HZ := Lib.hid (bel_chg (bel_chg HB.out HCa.out (by omega)) HCb.out (by omega)).drew
      refine bodyPost_ret (v := .tuple #[NV kd (.slice (some ⟨b0, o0, none⟩) p pc) (.slice (some ⟨b1, o1, none⟩) h kc) (.slice M3 l m3) (.slice none 0 0), NV kd (.slice (some ⟨b0, oP, none⟩) (n - h) (pc - h)) (.slice (some ⟨b1, oJ, none⟩) (k - h) (kc - h)) (.slice M4 r m4) (.slice none 0 0), .string at_]) (by simp [results, Tryz.results8, go_sem, k0, k1, k2, k3, k4, q0, q1, q2, q3, q4]) rfl ⟨(some ⟨b0, o0, none⟩), pc, (some ⟨b1, o1, none⟩), kc, M3, m3, none, 0, some ⟨b0, oP, none⟩, pc - h, some ⟨b1, oJ, none⟩, kc - h, M4, m4, none, 0, rfl, ⟨(HP.out _ HZ.out).take p, (HJ.out _ HZ.out).take h, ?_⟩, ⟨DP.out _ HZ.out, DJ.out _ HZ.out, ?_⟩, HZ.out⟩
      · exact (rd_chg (rd_chg R9b.out HCa.out O9.out.1) HCb.out O9.out.2).later (drew_bel _)
      · exact (rd_chg (rd_chg R10.out HCa.out O10.out.1) HCb.out O10.out.2).later (drew_bel _)
end Go.Proofs.YtilnpeekajnlhaaGreat
