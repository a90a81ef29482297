/- Nodes: Halves. -/
import Derived.Test.YtilnpeekajnlhaaGreatTh02
import Derived.Test.YtilnpeekajnlhaaGreatTh28
import Derived.Test.YtilnpeekajnlhaaGreatTh26
import Derived.Test.YtilnpeekajnlhaaGreatTh15
import Derived.Deep.DeepCutAuto
set_option linter.unusedVariables false
set_option linter.unusedSimpArgs false
namespace Go.Proofs.YtilnpeekajnlhaaGreat
open Go.RowKit Go.Maps
/-- Two nodes, and the pivot between; both in new memory. -/
def HalvesP (w : World) (ka kb : Int) (n1 k1 l1 n2 k2 l2 : Nat) (pa : List ByteArray) (ia : List Int) (ma : List MG) (pb : List ByteArray) (ib : List Int) (mb : List MG) (at_ : ByteArray) (e : Ending) (w' : World) : Prop :=
  ∃ P1 p1 J1 j1 M1 m1 B1 b1 P2 p2 J2 j2 M2 m2 B2 b2, e = .returned (.tuple #[NV ka (.slice P1 n1 p1) (.slice J1 k1 j1) (.slice M1 l1 m1) (.slice B1 0 b1), NV kb (.slice P2 n2 p2) (.slice J2 k2 j2) (.slice M2 l2 m2) (.slice B2 0 b2), .string at_]) ∧
    R3 w' w.heap.size P1 J1 M1 p1 j1 m1 pa ia ma ∧ R3 w' w.heap.size P2 J2 M2 p2 j2 m2 pb ib mb ∧ Below w.heap.size w w'
theorem RE.Rd.dropC {α : Type} {E : RE α} {w : World} {b off cap n k : Nat} {xs : List α} (hA : E.Rd w (some ⟨b, off, none⟩) xs) (hl : xs.length = n) (hk : k ≤ n) (hn : n ≤ cap) : E.Rd w (some ⟨b, if cap = k then off else off + k * E.k, none⟩) (xs.drop k) := by
  by_cases h : cap = k
  · have : xs.drop k = [] := List.drop_eq_nil_of_le (by omega)
    rw [this]; exact .inl rfl
  · rw [if_neg h]
    exact hA.drop k
theorem R3.nil {W : World} {b : Nat} {A B C : Option Addr} : R3 W b A B C 0 0 0 [] [] [] := ⟨RE.Row.nil, RE.Row.nil, RE.Row.nil⟩
set_option maxRecDepth 100000 in
set_option maxHeartbeats 8000000 in
theorem halves_one (kd : Int) (P J M B : Option Addr) (n pc k kc m mc bc : Nat) (ps : List ByteArray) (ks : List Int) (ms : List MG) (w : World) (hl : ps.length = n) (hP : ES.Rd w P ps) (hkl : ks.length = k) (hJ : EI.Rd w J ks) (hm : ms.length = m) (hm1 : m ≤ 400) (hM : EG.Rd w M ms) (hn : n = 0) (hk : k = 1) :
    Calls Tryz.prog 7 #[NV kd (.slice P n pc) (.slice J k kc) (.slice M m mc) (.slice B 0 bc)] w (HalvesP w kd 0 n k m 0 0 0 ps ks ms [] [] [] emptyS) := by
  have OA := Lib.hid (fun W (h : Below w.heap.size w W) => own_any kd P J M B n pc k kc m mc bc ps ks ms W hl hkl hm (by omega) (by omega) (by omega) (hP.later h) (hJ.later h) (hM.later h))
  have hw : IntKind.i64.wrap ((k : Int) - 1) = (n : Int) := by rw [IntWalk.i64_in _ (by omega)]; omega
  have y1 := three_new w (NO kd (.slice P n pc) (.slice J k kc) (.slice M m mc) (.slice B 0 bc)) ZN ZN
  have H0 := Lib.hid (bel_alloc (bel_alloc (alb w (NO kd (.slice P n pc) (.slice J k kc) (.slice M m mc) (.slice B 0 bc))) ZN) ZN)
  have Z := Lib.hid y1.1
  have X := Lib.hid y1.2.1
  have Y := Lib.hid y1.2.2
  clear y1 hP hJ hM
  have hk2 : (k : Int) < 2 := by omega
  clear hw hl hkl hm hm1 hn hk
  obtain ⟨c0, c1, c2, c3, c4⟩ := cells5 Z.out
  go_enter Tryz.func7, Tryz.ntmps7
  go_upto_region 2 with (first
    | (go_at_call 22; ((with_reducible refine (OA.out _ H0.out).mono ?_); rintro e w2 ⟨P2, p2, J2, j2, M2, m2, B2, b2, rfl, rr, b⟩; have RR := Lib.hid (rr.base (b2 := w.heap.size + 3) (by simp)); replace H0 := Lib.hid (bel_trans H0.out b); replace Z := Lib.hid (keep_bel b Z.out); replace X := Lib.hid (keep_bel b X.out); replace Y := Lib.hid (keep_bel b Y.out); clear b rr c0 c1 c2 c3 c4; obtain ⟨c0, c1, c2, c3, c4⟩ := cells5 Z.out; obtain ⟨f0, f1, f2, f3, f4⟩ := froz5 Z.out))
    | fail)
  generalize hW4 : World.setCell _ _ _ = W4
  have HC4 := Lib.hid (show Chg (fun g => g = w.heap.size) w2 W4 by rw [← hW4]; exact chg5 _ _ _ _ _ _ _)
  have Z4 := Lib.hid (show W4.heap[w.heap.size]? = some (NO kd (.slice P2 n p2) (.slice J2 k j2) (.slice M2 m m2) (.slice B2 0 b2)) from (by rw [← hW4]; exact set5w Z.out _ _ _ _ _))
  have X4 := Lib.hid (show W4.heap[w.heap.size + 1]? = some ZN from keep_chg HC4.out X.out (fun e => by omega))
  have Y4 := Lib.hid (show W4.heap[w.heap.size + 1 + 1]? = some ZN from keep_chg HC4.out Y.out (fun e => by omega))
  have RR4 := Lib.hid (RR.out.chgB HC4.out (by omega))
  have H4 := Lib.hid (bel_chg H0.out HC4.out (Nat.le_refl _))
  clear hW4 c0 c1 c2 c3 c4 f0 f1 f2 f3 f4 Z X Y RR
  obtain ⟨c0, c1, c2, c3, c4⟩ := cells5 Z4.out
  obtain ⟨k0, k1, k2, k3, k4⟩ := cells5 X4.out
  obtain ⟨q0, q1, q2, q3, q4⟩ := cells5 Y4.out
  obtain ⟨f0, f1, f2, f3, f4⟩ := froz5 X4.out
  obtain ⟨e0, e1, e2, e3, e4⟩ := froz5 Y4.out
  go_wp2
  generalize hW5 : ((((W4.setCell ⟨w.heap.size + 1, 0, none⟩ _).setCell ⟨w.heap.size + 1, 1, none⟩ _).setCell ⟨w.heap.size + 1, 2, none⟩ _).setCell ⟨w.heap.size + 1, 3, none⟩ _).setCell ⟨w.heap.size + 1, 4, none⟩ _ = W5
  have HC5 := Lib.hid (show Chg (fun g => g = w.heap.size + 1) W4 W5 by rw [← hW5]; exact chg5 _ _ _ _ _ _ _)
  have X5 := Lib.hid (show W5.heap[w.heap.size + 1]? = some (NO kd (.slice P2 n p2) (.slice J2 k j2) (.slice M2 m m2) (.slice B2 0 b2)) from (by rw [← hW5]; exact set5w X4.out _ _ _ _ _))
  have Y5 := Lib.hid (show W5.heap[w.heap.size + 1 + 1]? = some ZN from keep_chg HC5.out Y4.out (fun e => by omega))
  clear hW5
  generalize hW6 : World.setCell _ _ _ = W6
  have HC6 := Lib.hid (show Chg (fun g => g = w.heap.size + 1 + 1) W5 W6 by rw [← hW6]; exact chg5 _ _ _ _ _ _ _)
  have X6 := Lib.hid (show W6.heap[w.heap.size + 1]? = some (NO kd (.slice P2 n p2) (.slice J2 k j2) (.slice M2 m m2) (.slice B2 0 b2)) from keep_chg HC6.out X5.out (fun e => by omega))
  have Y6 := Lib.hid (show W6.heap[w.heap.size + 1 + 1]? = some ZN from (by rw [← hW6]; exact set5w Y5.out _ _ _ _ _))
  clear hW6 k0 k1 k2 k3 k4 q0 q1 q2 q3 q4
  obtain ⟨k0, k1, k2, k3, k4⟩ := cells5 X6.out
  obtain ⟨q0, q1, q2, q3, q4⟩ := cells5 Y6.out
  refine bodyPost_ret (v := .tuple #[NV kd (.slice P2 n p2) (.slice J2 k j2) (.slice M2 m m2) (.slice B2 0 b2), NV 0 (.slice none 0 0) (.slice none 0 0) (.slice none 0 0) (.slice none 0 0), .string emptyS]) (by simp [results, Tryz.results7, go_sem, k0, k1, k2, k3, k4, q0, q1, q2, q3, q4]) rfl ⟨P2, p2, J2, j2, M2, m2, B2, b2, none, 0, none, 0, none, 0, none, 0, rfl, ?_, R3.nil, ?_⟩
  · exact ((RR4.out.chgB HC5.out (by omega)).chgB HC6.out (by omega)).base (by omega)
  · exact bel_chg (bel_chg H4.out HC5.out (by omega)) HC6.out (by omega)
set_option maxRecDepth 100000 in
set_option maxHeartbeats 8000000 in
theorem halves_two (kd : Int) (P J M B : Option Addr) (n pc k kc m mc bc : Nat) (ps : List ByteArray) (ks : List Int) (ms : List MG) (w : World) (hl : ps.length = n) (hP : ES.Rd w P ps) (hkl : ks.length = k) (hJ : EI.Rd w J ks) (hm : ms.length = m) (hm1 : m ≤ 400) (hM : EG.Rd w M ms) (ho : OkA ms) (hn : n ≤ 100) (hk : k = n + 1) (h p l r : Nat) (hh : k / 2 = h) (hp1 : h = p + 1) (at_ : ByteArray) (hat : ps[p]? = some at_) (hL : (forL emptyS at_ ms).length = l) (hR : (resL emptyS at_ ms).length = r) :
    Calls Tryz.prog 7 #[NV kd (.slice P n pc) (.slice J k kc) (.slice M m mc) (.slice B 0 bc)] w (HalvesP w 2 2 p h l (n - h) (k - h) r (ps.take p) (ks.take h) (forL emptyS at_ ms) (ps.drop h) (ks.drop h) (resL emptyS at_ ms) at_) := by
  have OA := Lib.hid (fun W (h : Below w.heap.size w W) => own_any kd P J M B n pc k kc m mc bc ps ks ms W hl hkl hm (by omega) (by omega) (by omega) (hP.later h) (hJ.later h) (hM.later h))
  have hw : IntKind.i64.wrap ((k : Int) - 1) = (n : Int) := by rw [IntWalk.i64_in _ (by omega)]; omega
  have y1 := three_new w (NO kd (.slice P n pc) (.slice J k kc) (.slice M m mc) (.slice B 0 bc)) ZN ZN
  have H0 := Lib.hid (bel_alloc (bel_alloc (alb w (NO kd (.slice P n pc) (.slice J k kc) (.slice M m mc) (.slice B 0 bc))) ZN) ZN)
  have Z := Lib.hid y1.1
  have X := Lib.hid y1.2.1
  have Y := Lib.hid y1.2.2
  clear y1 hP hJ hM
  have TA := Lib.hid (fun A c W (h : EG.Rd W A ms) => take_row emptyS at_ A m c ms W hm (by omega) h ho)
  rw [hL, hR] at TA
  have hk2 : ¬ (k : Int) < 2 := by omega
  have hk3 : ((n : Int) != (n : Int)) = false := by simp
  have hdv : (k : Int).tdiv 2 = (h : Int) := by rw [Int.tdiv_eq_ediv_of_nonneg (by omega)]; omega
  have hwh : IntKind.i64.wrap (h : Int) = (h : Int) := IntWalk.i64_in _ (by omega)
  have hwp : IntKind.i64.wrap ((h : Int) - 1) = (p : Int) := by rw [IntWalk.i64_in _ (by omega)]; omega
  have hpn : (p : Int) < (n : Int) := by omega
  have hp0 : (0 : Int) ≤ (p : Int) := by omega
  have hh0 : (0 : Int) ≤ (h : Int) := by omega
  have hhn : (h : Int) ≤ (n : Int) := by omega
  have hhk : (h : Int) ≤ (k : Int) := by omega
  have HAT := Lib.hid hat
  have HKL := Lib.hid hkl
  have HPL := Lib.hid hl
  have HKN := Lib.hid hk
  have HHP := Lib.hid hp1
  have HN9 := Lib.hid hn
  have HL := Lib.hid hL
  have HR := Lib.hid hR
  have HLR : Hid (l ≤ 1000 ∧ r ≤ 1000) := Lib.hid (by have := forL_len emptyS at_ ms; have := resL_len emptyS at_ ms; omega)
  clear hl hkl hm hm1 hn hk hh hp1 hat ho hL hR
  obtain ⟨c0, c1, c2, c3, c4⟩ := cells5 Z.out
  go_enter Tryz.func7, Tryz.ntmps7
  go_upto_region 2 with (first
    | (go_at_call 22; ((with_reducible refine (OA.out _ H0.out).mono ?_); rintro e w2 ⟨P2, p2, J2, j2, M2, m2, B2, b2, rfl, rr, b⟩; have RR := Lib.hid (rr.base (b2 := w.heap.size + 3) (by simp)); replace H0 := Lib.hid (bel_trans H0.out b); replace Z := Lib.hid (keep_bel b Z.out); replace X := Lib.hid (keep_bel b X.out); replace Y := Lib.hid (keep_bel b Y.out); clear b rr c0 c1 c2 c3 c4; obtain ⟨c0, c1, c2, c3, c4⟩ := cells5 Z.out; obtain ⟨f0, f1, f2, f3, f4⟩ := froz5 Z.out))
    | fail)
  generalize hW4 : World.setCell _ _ _ = W4
  have HC4 := Lib.hid (show Chg (fun g => g = w.heap.size) w2 W4 by rw [← hW4]; exact chg5 _ _ _ _ _ _ _)
  have Z4 := Lib.hid (show W4.heap[w.heap.size]? = some (NO kd (.slice P2 n p2) (.slice J2 k j2) (.slice M2 m m2) (.slice B2 0 b2)) from (by rw [← hW4]; exact set5w Z.out _ _ _ _ _))
  have X4 := Lib.hid (show W4.heap[w.heap.size + 1]? = some ZN from keep_chg HC4.out X.out (fun e => by omega))
  have Y4 := Lib.hid (show W4.heap[w.heap.size + 1 + 1]? = some ZN from keep_chg HC4.out Y.out (fun e => by omega))
  have RR4 := Lib.hid (RR.out.chgB HC4.out (by omega))
  have H4 := Lib.hid (bel_chg H0.out HC4.out (Nat.le_refl _))
  clear hW4 c0 c1 c2 c3 c4 f0 f1 f2 f3 f4 Z X Y RR
  obtain ⟨c0, c1, c2, c3, c4⟩ := cells5 Z4.out
  obtain ⟨b0, off, hP2, -, g0⟩ := es_at RR4.out.r1.rd HAT.out
  subst hP2
  obtain ⟨b1, off1, hJ2, -, -⟩ := ei_at RR4.out.r2.rd (i := 0) (x := ks[0]'(by have := HKL.out; have := HKN.out; omega)) (List.getElem?_eq_getElem _)
  subst hJ2
  have cp := RR4.out.r1.cap
  have cj := RR4.out.r2.cap
  rw [HPL.out] at cp
  rw [HKL.out] at cj
  have cp1 : (n : Int) ≤ (p2 : Int) := by omega
  have cj1 : (k : Int) ≤ (j2 : Int) := by omega
  have hh1 : (h : Int) ≤ (p2 : Int) := by omega
  have hh2 : (h : Int) ≤ (j2 : Int) := by omega
  have hp2' : (p : Int) ≤ (p2 : Int) := by omega
  have CPN := Lib.hid cp
  have CJN := Lib.hid cj
  clear cp cj
  go_upto_region 7 with (first
    | (go_at_call 23; ((with_reducible refine (TA.out M2 m2 _ RR4.out.r3.rd).mono ?_); rintro e w3 ⟨⟨T3, t3, M5, m5, rfl, rt, rm⟩, b⟩; have RT := Lib.hid (rt.base (b2 := w.heap.size + 3) (by have := (Array.getElem?_eq_some_iff.1 Y4.out).1; omega)); have RM := Lib.hid (rm.base (b2 := w.heap.size + 3) (by have := (Array.getElem?_eq_some_iff.1 Y4.out).1; omega)); replace RR4 := Lib.hid (RR4.out.later b); replace H4 := Lib.hid (bel_trans H4.out b); replace Z4 := Lib.hid (keep_bel b Z4.out); replace X4 := Lib.hid (keep_bel b X4.out); replace Y4 := Lib.hid (keep_bel b Y4.out); clear b rt rm c0 c1 c2 c3 c4 g0))
    | fail)
  have QS7 := Lib.hid (show ∀ q ∈ ([(w.heap.size, (NO kd (.slice (some ⟨b0, off, none⟩) n p2) (.slice (some ⟨b1, off1, none⟩) k j2) (.slice M2 m m2) (.slice B2 0 b2))), (w.heap.size + 1, ZN), (w.heap.size + 1 + 1, ZN)] : List (Nat × Obj)), w3.heap[q.1]? = some q.2 by
    intro q hq
    simp only [List.mem_cons, List.not_mem_nil, or_false] at hq
    rcases hq with rfl | rfl | rfl
    · exact Z4.out
    · exact X4.out
    · exact Y4.out)
  have O7 := Lib.hid (fun W (q : Below w3.heap.size w3 W) => own_any 2 (some ⟨b0, off, none⟩) (some ⟨b1, off1, none⟩) T3 none p p2 h j2 l t3 0 (ps.take p) (ks.take h) (forL emptyS at_ ms) W (by have := HPL.out; have := HHP.out; rw [List.length_take]; omega) (by have := HKL.out; rw [List.length_take]; omega) HL.out (by have := HN9.out; omega) (by have := HN9.out; have := HKN.out; omega) HLR.out.1 ((RR4.out.r1.later q).rd.take p) ((RR4.out.r2.later q).rd.take h) (RT.out.later q).rd)
  unfold OwnP at O7
  go_cut [9] (fun u9 wx => ∃ g9 P3 p3 J3 j3 M3 m3 B3 b3, u9 = .pointer (some ⟨g9, 0, none⟩) ∧ wx.heap[g9]? = some (NO 2 (.slice P3 p p3) (.slice J3 h j3) (.slice M3 l m3) (.slice B3 0 b3)) ∧ w3.heap.size ≤ g9 ∧ R3 wx w3.heap.size P3 J3 M3 p3 j3 m3 (ps.take p) (ks.take h) (forL emptyS at_ ms) ∧ SK w3 [(w.heap.size, (NO kd (.slice (some ⟨b0, off, none⟩) n p2) (.slice (some ⟨b1, off1, none⟩) k j2) (.slice M2 m m2) (.slice B2 0 b2))), (w.heap.size + 1, ZN), (w.heap.size + 1 + 1, ZN)] wx)
  case first =>
    refine wp_region_held_drew (S := (SK w3 [(w.heap.size, (NO kd (.slice (some ⟨b0, off, none⟩) n p2) (.slice (some ⟨b1, off1, none⟩) k j2) (.slice M2 m m2) (.slice B2 0 b2))), (w.heap.size + 1, ZN), (w.heap.size + 1 + 1, ZN)])) (by kernel_rfl) ?_ (fun hHeld => ?_)
    · exact SK.start QS7.out
    have HHeld := Lib.hid hHeld; clear hHeld
    refine wT (i := 0) (oi := { dst := some 47, op := Op.fieldAddr 28 (Operand.tmp 1) 1, type := 0, pos := "inner.go:158", after := #[], guard := none }) (v := ?_) rfl (Or.inl ⟨by rfl, ?_⟩) HHeld.out ?_
    rotate_left
    · intro w hSw; clear hSw; go_simp; try with_reducible rfl
    try simp only [pu, pn, s1, s2, s3]
    refine wT (i := 1) (oi := { dst := some 48, op := Op.load 23 (Operand.tmp 47), type := 23, pos := "inner.go:158", after := #[{ on := 0, ground := Ground.data }], guard := none }) (v := (.slice (some ⟨b0, off, none⟩) n p2 : Value)) rfl (Or.inl ⟨by rfl, ?_⟩) HHeld.out ?_
    · intro V hV; have hc0 := (cells5 (hV.g 0 rfl)).2.1; clear hV; go_simp
    try simp only [pu, pn, s1, s2, s3]
    refine wT (i := 2) (oi := { dst := some 49, op := Op.move (Operand.tmp 5), type := 3, pos := "inner.go:158", after := #[], guard := none }) (v := ?_) rfl (Or.inl ⟨by rfl, ?_⟩) HHeld.out ?_
    rotate_left
    · intro w hSw; clear hSw; go_simp; try with_reducible rfl
    try simp only [pu, pn, s1, s2, s3]
    refine wT (i := 3) (oi := { dst := some 50, op := Op.binOp BinOp.sub 3 (Operand.tmp 49) (Operand.const (Value.int IntKind.i64 1)) 3, type := 3, pos := "inner.go:158", after := #[{ on := 2, ground := Ground.data }], guard := none }) (v := ?_) rfl (Or.inl ⟨by rfl, ?_⟩) HHeld.out ?_
    rotate_left
    · intro w hSw; clear hSw; go_simp; try with_reducible rfl
    try simp only [pu, pn, s1, s2, s3]
    refine wT (i := 4) (oi := { dst := some 51, op := Op.slice 23 (Operand.tmp 48) none (some (Operand.tmp 50)) none, type := 23, pos := "inner.go:158", after := #[{ on := 1, ground := Ground.data }, { on := 3, ground := Ground.data }], guard := none }) (v := ?_) rfl (Or.inl ⟨by rfl, ?_⟩) HHeld.out ?_
    rotate_left
    · intro w hSw; clear hSw; go_simp; try with_reducible rfl
    try simp only [pu, pn, s1, s2, s3]
    refine wT (i := 5) (oi := { dst := some 52, op := Op.fieldAddr 28 (Operand.tmp 1) 2, type := 0, pos := "inner.go:158", after := #[], guard := none }) (v := ?_) rfl (Or.inl ⟨by rfl, ?_⟩) HHeld.out ?_
    rotate_left
    · intro w hSw; clear hSw; go_simp; try with_reducible rfl
    try simp only [pu, pn, s1, s2, s3]
    refine wT (i := 6) (oi := { dst := some 53, op := Op.load 24 (Operand.tmp 52), type := 24, pos := "inner.go:158", after := #[{ on := 5, ground := Ground.data }], guard := none }) (v := (.slice (some ⟨b1, off1, none⟩) k j2 : Value)) rfl (Or.inl ⟨by rfl, ?_⟩) HHeld.out ?_
    · intro V hV; have hc0 := (cells5 (hV.g 0 rfl)).2.2.1; clear hV; go_simp
    try simp only [pu, pn, s1, s2, s3]
    refine wT (i := 7) (oi := { dst := some 54, op := Op.move (Operand.tmp 5), type := 3, pos := "inner.go:158", after := #[], guard := none }) (v := ?_) rfl (Or.inl ⟨by rfl, ?_⟩) HHeld.out ?_
    rotate_left
    · intro w hSw; clear hSw; go_simp; try with_reducible rfl
    try simp only [pu, pn, s1, s2, s3]
    refine wT (i := 8) (oi := { dst := some 55, op := Op.slice 24 (Operand.tmp 53) none (some (Operand.tmp 54)) none, type := 24, pos := "inner.go:158", after := #[{ on := 6, ground := Ground.data }, { on := 7, ground := Ground.data }], guard := none }) (v := ?_) rfl (Or.inl ⟨by rfl, ?_⟩) HHeld.out ?_
    rotate_left
    · intro w hSw; clear hSw; go_simp; try with_reducible rfl
    try simp only [pu, pn, s1, s2, s3]
    refine wT (i := 9) (oi := { dst := some 56, op := Op.move (Operand.tmp 7), type := 25, pos := "inner.go:158", after := #[], guard := none }) (v := ?_) rfl (Or.inl ⟨by rfl, ?_⟩) HHeld.out ?_
    rotate_left
    · intro w hSw; clear hSw; go_simp; try with_reducible rfl
    try simp only [pu, pn, s1, s2, s3]
    refine wT (i := 10) (oi := { dst := some 57, op := Op.build 28 #[(0, Operand.const (Value.int IntKind.u8 2)), (1, Operand.tmp 51), (2, Operand.tmp 55), (3, Operand.tmp 56)], type := 28, pos := "inner.go:158", after := #[{ on := 4, ground := Ground.data }, { on := 8, ground := Ground.data }, { on := 9, ground := Ground.data }], guard := none }) (v := ?_) rfl (Or.inl ⟨by rfl, ?_⟩) HHeld.out ?_
    rotate_left
    · intro w hSw; clear hSw; go_simp; try with_reducible rfl
    try simp only [pu, pn, s1, s2, s3]
    refine wpAnyH_ready (rs := [11, 12]) (by kernel_rfl) (by simp) ?_
    refine AllReadyH.cons (o := { dst := some 58, op := Op.call { callee := Callee.value (Operand.func 22), args := #[Operand.tmp 57], argTypes := #[28] }, type := 28, pos := "inner.go:158", after := #[{ on := 10, ground := Ground.data }], guard := none }) rfl (fun K hK => ?_) (AllReadyH.cons (o := { dst := some 9, op := Op.alloc 28, type := 0, pos := "inner.go:158", after := #[], guard := none }) rfl (fun K hK => ?_) AllReadyH.nil)
    · go_simp
      go_at_call 22; ((with_reducible refine (O7.out _ HHeld.out.b).mono ?_); rintro e v7 ⟨P3, p3, J3, j3, M3, m3, B3, b3, rfl, rr, b⟩; have RN7 := Lib.hid (rr.base (b2 := w3.heap.size) (HHeld.out.b.size)); have K7 := Lib.hid (HHeld.out.later b); clear b rr)
      refine hK.out _ _ ?_ (fun hHeld => ?_)
      · exact K7.out
      clear HHeld; have HHeld := Lib.hid hHeld; clear hHeld
      clear hK K
      try simp only [pu, pn, s1, s2, s3]
      refine wpAnyH_ready (rs := [12]) (by kernel_rfl) (by simp) ?_
      refine AllReadyH.cons (o := { dst := some 9, op := Op.alloc 28, type := 0, pos := "inner.go:158", after := #[], guard := none }) rfl (fun K hK => ?_) AllReadyH.nil
      have ZZ := Lib.hid (heap_alloc_new v7 ZN)
      have CA := Lib.hid (HHeld.out.later (alb v7 ZN))
      go_simp
      refine hK.out _ _ ?_ (fun hHeld => ?_)
      · exact CA.out
      clear HHeld; have HHeld := Lib.hid hHeld; clear hHeld
      clear hK K
      try simp only [pu, pn, s1, s2, s3]
      refine wpAnyH_ready (rs := [13]) (by kernel_rfl) (by simp) ?_
      refine AllReadyH.cons (o := { dst := none, op := Op.store 28 (Operand.tmp 9) (Operand.tmp 58), type := 0, pos := "inner.go:158", after := #[{ on := 12, ground := Ground.data }, { on := 11, ground := Ground.data }, { on := 11, ground := Ground.chain }, { on := 0, ground := Ground.phase }, { on := 1, ground := Ground.phase }, { on := 2, ground := Ground.phase }, { on := 3, ground := Ground.phase }, { on := 4, ground := Ground.phase }, { on := 5, ground := Ground.phase }, { on := 6, ground := Ground.phase }, { on := 7, ground := Ground.phase }, { on := 8, ground := Ground.phase }, { on := 9, ground := Ground.phase }, { on := 10, ground := Ground.phase }, { on := 11, ground := Ground.phase }, { on := 12, ground := Ground.phase }], guard := none }) rfl (fun K hK => ?_) AllReadyH.nil
      obtain ⟨f0, f1, f2, f3, f4⟩ := froz5 ZZ.out
      obtain ⟨c0, c1, c2, c3, c4⟩ := cells5 ZZ.out
      have HO := Lib.hid HHeld.out
      go_simp
      clear f0 f1 f2 f3 f4 c0 c1 c2 c3 c4
      refine hK.out _ _ ?_ (fun hHeld => ?_)
      · with_reducible exact K7.out.later (alb _ _)
      clear HHeld; have HHeld := Lib.hid hHeld; clear hHeld
      clear hK K
      try simp only [pu, pn, s1, s2, s3]
      refine wpAnyH_done (by kernel_rfl) ?_ _
      have HF := Lib.hid HHeld.out
      clear HHeld
      refine at_exit (fun WF hWF => ?_)
      have BF := Lib.hid (show SK w3 [(w.heap.size, (NO kd (.slice (some ⟨b0, off, none⟩) n p2) (.slice (some ⟨b1, off1, none⟩) k j2) (.slice M2 m m2) (.slice B2 0 b2))), (w.heap.size + 1, ZN), (w.heap.size + 1 + 1, ZN)] WF by rw [hWF]; exact HF.out)
      have ZB := Lib.hid (show WF.heap[v7.heap.size]? = some (NO 2 (.slice P3 p p3) (.slice J3 h j3) (.slice M3 l m3) (.slice B3 0 b3)) by rw [hWF]; with_reducible exact heap_alloc_new _ _)
      have RF := Lib.hid (show R3 WF w3.heap.size P3 J3 M3 p3 j3 m3 (ps.take p) (ks.take h) (forL emptyS at_ ms) by rw [hWF]; with_reducible exact RN7.out.later (alb _ _))
      clear hWF HF ZZ
      go_wp2_with fail
      go_meet
      exact ⟨v7.heap.size, P3, p3, J3, j3, M3, m3, B3, b3, rfl, ZB.out, K7.out.b.size, RF.out, BF.out⟩
    · have ZZ := Lib.hid (show (w3.alloc ZN).drew.heap[w3.heap.size]? = some ZN from heap_alloc_new _ _)
      have CA := Lib.hid (show SK w3 [(w.heap.size, (NO kd (.slice (some ⟨b0, off, none⟩) n p2) (.slice (some ⟨b1, off1, none⟩) k j2) (.slice M2 m m2) (.slice B2 0 b2))), (w.heap.size + 1, ZN), (w.heap.size + 1 + 1, ZN)] (w3.alloc ZN).drew from HHeld.out.later ((alb _ ZN)))
      go_simp
      refine hK.out _ _ ?_ (fun hHeld => ?_)
      · exact CA.out
      clear HHeld; have HHeld := Lib.hid hHeld; clear hHeld
      clear hK K
      try simp only [pu, pn, s1, s2, s3]
      refine wpAnyH_ready (rs := [11]) (by kernel_rfl) (by simp) ?_
      refine AllReadyH.cons (o := { dst := some 58, op := Op.call { callee := Callee.value (Operand.func 22), args := #[Operand.tmp 57], argTypes := #[28] }, type := 28, pos := "inner.go:158", after := #[{ on := 10, ground := Ground.data }], guard := none }) rfl (fun K hK => ?_) AllReadyH.nil
      go_simp
      go_at_call 22; ((with_reducible refine (O7.out _ HHeld.out.b).mono ?_); rintro e v7 ⟨P3, p3, J3, j3, M3, m3, B3, b3, rfl, rr, b⟩; have RN7 := Lib.hid (rr.base (b2 := w3.heap.size + 1) (by simp)); have K7 := Lib.hid (HHeld.out.later b); replace ZZ := Lib.hid (keep_bel b ZZ.out); clear b rr)
      refine hK.out _ _ ?_ (fun hHeld => ?_)
      · exact K7.out
      clear HHeld; have HHeld := Lib.hid hHeld; clear hHeld
      clear hK K
      try simp only [pu, pn, s1, s2, s3]
      refine wpAnyH_ready (rs := [13]) (by kernel_rfl) (by simp) ?_
      refine AllReadyH.cons (o := { dst := none, op := Op.store 28 (Operand.tmp 9) (Operand.tmp 58), type := 0, pos := "inner.go:158", after := #[{ on := 12, ground := Ground.data }, { on := 11, ground := Ground.data }, { on := 11, ground := Ground.chain }, { on := 0, ground := Ground.phase }, { on := 1, ground := Ground.phase }, { on := 2, ground := Ground.phase }, { on := 3, ground := Ground.phase }, { on := 4, ground := Ground.phase }, { on := 5, ground := Ground.phase }, { on := 6, ground := Ground.phase }, { on := 7, ground := Ground.phase }, { on := 8, ground := Ground.phase }, { on := 9, ground := Ground.phase }, { on := 10, ground := Ground.phase }, { on := 11, ground := Ground.phase }, { on := 12, ground := Ground.phase }], guard := none }) rfl (fun K hK => ?_) AllReadyH.nil
      obtain ⟨f0, f1, f2, f3, f4⟩ := froz5 ZZ.out
      obtain ⟨c0, c1, c2, c3, c4⟩ := cells5 ZZ.out
      have HO := Lib.hid HHeld.out
      go_simp
      clear f0 f1 f2 f3 f4 c0 c1 c2 c3 c4
      refine hK.out _ _ ?_ (fun hHeld => ?_)
      · with_reducible exact HO.out.chgN QS7.out (chg5 _ _ _ _ _ _ _) (Nat.le_refl _)
      clear HHeld; have HHeld := Lib.hid hHeld; clear hHeld
      clear hK K
      try simp only [pu, pn, s1, s2, s3]
      refine wpAnyH_done (by kernel_rfl) ?_ _
      have HF := Lib.hid HHeld.out
      clear HHeld
      refine at_exit (fun WF hWF => ?_)
      have BF := Lib.hid (show SK w3 [(w.heap.size, (NO kd (.slice (some ⟨b0, off, none⟩) n p2) (.slice (some ⟨b1, off1, none⟩) k j2) (.slice M2 m m2) (.slice B2 0 b2))), (w.heap.size + 1, ZN), (w.heap.size + 1 + 1, ZN)] WF by rw [hWF]; exact HF.out)
      have ZB := Lib.hid (show WF.heap[w3.heap.size]? = some (NO 2 (.slice P3 p p3) (.slice J3 h j3) (.slice M3 l m3) (.slice B3 0 b3)) by rw [hWF]; with_reducible exact set5w ZZ.out _ _ _ _ _)
      have RF := Lib.hid (show R3 WF w3.heap.size P3 J3 M3 p3 j3 m3 (ps.take p) (ks.take h) (forL emptyS at_ ms) by rw [hWF]; exact (RN7.out.chgB (chg5 _ _ _ _ _ _ _) (by omega)).base (by omega))
      clear hWF HF ZZ
      go_wp2_with fail
      go_meet
      exact ⟨w3.heap.size, P3, p3, J3, j3, M3, m3, B3, b3, rfl, ZB.out, Nat.le_refl _, RF.out, BF.out⟩
  case rest =>
    obtain ⟨g9, P3, p3, J3, j3, M3, m3, B3, b3, rfl, z9, hg9, r9, sk9⟩ := hcut
    obtain ⟨WA, rfl⟩ : ∃ WA, WA = wc := ⟨_, rfl⟩
    have Z9 := Lib.hid z9
    have R9 := Lib.hid r9
    have HG9 := Lib.hid hg9
    have SK9 := Lib.hid sk9
    clear z9 r9 hg9 sk9 QS7 O7
    obtain ⟨oP, hoP⟩ : ∃ oP, oP = (if p2 = h then off else off + h * 1) := ⟨_, rfl⟩
    obtain ⟨oJ, hoJ⟩ : ∃ oJ, oJ = (if j2 = h then off1 else off1 + h * 1) := ⟨_, rfl⟩
    have HOP := Lib.hid hoP
    have HOJ := Lib.hid hoJ
    clear hoP hoJ
    have QS8 := Lib.hid (show ∀ q ∈ ([(w.heap.size, (NO kd (.slice (some ⟨b0, off, none⟩) n p2) (.slice (some ⟨b1, off1, none⟩) k j2) (.slice M2 m m2) (.slice B2 0 b2))), (w.heap.size + 1, ZN), (w.heap.size + 1 + 1, ZN), (g9, (NO 2 (.slice P3 p p3) (.slice J3 h j3) (.slice M3 l m3) (.slice B3 0 b3)))] : List (Nat × Obj)), WA.heap[q.1]? = some q.2 by
      intro q hq
      simp only [List.mem_cons, List.not_mem_nil, or_false] at hq
      rcases hq with rfl | rfl | rfl | rfl
      · exact SK9.out.g 0 rfl
      · exact SK9.out.g 1 rfl
      · exact SK9.out.g 2 rfl
      · exact Z9.out)
    have O8 := Lib.hid (fun W (q : Below WA.heap.size WA W) => own_any 2 (some ⟨b0, oP, none⟩) (some ⟨b1, oJ, none⟩) M5 none (n - h) (p2 - h) (k - h) (j2 - h) r m5 0 (ps.drop h) (ks.drop h) (resL emptyS at_ ms) W (by have := HPL.out; rw [List.length_drop]; omega) (by have := HKL.out; rw [List.length_drop]; omega) HR.out (by have := HN9.out; omega) (by have := HN9.out; have := HKN.out; omega) HLR.out.2 (by rw [HOP.out]; exact (RR4.out.r1.later (bel_trans SK9.out.b q)).rd.dropC HPL.out (by omega) CPN.out.1) (by rw [HOJ.out]; exact (RR4.out.r2.later (bel_trans SK9.out.b q)).rd.dropC HKL.out (by omega) CJN.out.1) (RM.out.later (bel_trans SK9.out.b q)).rd)
    unfold OwnP at O8
    go_upto_region 8 with fail
    go_cut [10] (fun u10 wx => ∃ g10 P4 p4 J4 j4 M4 m4 B4 b4, u10 = .pointer (some ⟨g10, 0, none⟩) ∧ wx.heap[g10]? = some (NO 2 (.slice P4 (n - h) p4) (.slice J4 (k - h) j4) (.slice M4 r m4) (.slice B4 0 b4)) ∧ WA.heap.size ≤ g10 ∧ R3 wx WA.heap.size P4 J4 M4 p4 j4 m4 (ps.drop h) (ks.drop h) (resL emptyS at_ ms) ∧ SK WA [(w.heap.size, (NO kd (.slice (some ⟨b0, off, none⟩) n p2) (.slice (some ⟨b1, off1, none⟩) k j2) (.slice M2 m m2) (.slice B2 0 b2))), (w.heap.size + 1, ZN), (w.heap.size + 1 + 1, ZN), (g9, (NO 2 (.slice P3 p p3) (.slice J3 h j3) (.slice M3 l m3) (.slice B3 0 b3)))] wx)
    case first =>
      refine wp_region_held_drew (S := (SK WA [(w.heap.size, (NO kd (.slice (some ⟨b0, off, none⟩) n p2) (.slice (some ⟨b1, off1, none⟩) k j2) (.slice M2 m m2) (.slice B2 0 b2))), (w.heap.size + 1, ZN), (w.heap.size + 1 + 1, ZN), (g9, (NO 2 (.slice P3 p p3) (.slice J3 h j3) (.slice M3 l m3) (.slice B3 0 b3)))])) (by kernel_rfl) ?_ (fun hHeld => ?_)
      · exact SK.start QS8.out
      have HHeld := Lib.hid hHeld; clear hHeld
      refine wT (i := 0) (oi := { dst := some 59, op := Op.fieldAddr 28 (Operand.tmp 1) 1, type := 0, pos := "inner.go:159", after := #[], guard := none }) (v := ?_) rfl (Or.inl ⟨by rfl, ?_⟩) HHeld.out ?_
      rotate_left
      · intro w hSw; clear hSw; go_simp; try with_reducible rfl
      try simp only [pu, pn, s1, s2, s3]
      refine wT (i := 1) (oi := { dst := some 60, op := Op.load 23 (Operand.tmp 59), type := 23, pos := "inner.go:159", after := #[{ on := 0, ground := Ground.data }], guard := none }) (v := (.slice (some ⟨b0, off, none⟩) n p2 : Value)) rfl (Or.inl ⟨by rfl, ?_⟩) HHeld.out ?_
      · intro V hV; have hc0 := (cells5 (hV.g 0 rfl)).2.1; clear hV; go_simp
      try simp only [pu, pn, s1, s2, s3]
      refine wT (i := 2) (oi := { dst := some 61, op := Op.move (Operand.tmp 5), type := 3, pos := "inner.go:159", after := #[], guard := none }) (v := ?_) rfl (Or.inl ⟨by rfl, ?_⟩) HHeld.out ?_
      rotate_left
      · intro w hSw; clear hSw; go_simp; try with_reducible rfl
      try simp only [pu, pn, s1, s2, s3]
      refine wT (i := 3) (oi := { dst := some 62, op := Op.slice 23 (Operand.tmp 60) (some (Operand.tmp 61)) none none, type := 23, pos := "inner.go:159", after := #[{ on := 1, ground := Ground.data }, { on := 2, ground := Ground.data }], guard := none }) (v := (.slice (some ⟨b0, oP, none⟩) (n - h) (p2 - h) : Value)) rfl (Or.inl ⟨by rfl, ?_⟩) HHeld.out ?_
      · intro V hV; have hc0 := HOP.out; clear hV; go_simp; (try (split <;> rfl))
      try simp only [pu, pn, s1, s2, s3]
      refine wT (i := 4) (oi := { dst := some 63, op := Op.fieldAddr 28 (Operand.tmp 1) 2, type := 0, pos := "inner.go:159", after := #[], guard := none }) (v := ?_) rfl (Or.inl ⟨by rfl, ?_⟩) HHeld.out ?_
      rotate_left
      · intro w hSw; clear hSw; go_simp; try with_reducible rfl
      try simp only [pu, pn, s1, s2, s3]
      refine wT (i := 5) (oi := { dst := some 64, op := Op.load 24 (Operand.tmp 63), type := 24, pos := "inner.go:159", after := #[{ on := 4, ground := Ground.data }], guard := none }) (v := (.slice (some ⟨b1, off1, none⟩) k j2 : Value)) rfl (Or.inl ⟨by rfl, ?_⟩) HHeld.out ?_
      · intro V hV; have hc0 := (cells5 (hV.g 0 rfl)).2.2.1; clear hV; go_simp
      try simp only [pu, pn, s1, s2, s3]
      refine wT (i := 6) (oi := { dst := some 65, op := Op.move (Operand.tmp 5), type := 3, pos := "inner.go:159", after := #[], guard := none }) (v := ?_) rfl (Or.inl ⟨by rfl, ?_⟩) HHeld.out ?_
      rotate_left
      · intro w hSw; clear hSw; go_simp; try with_reducible rfl
      try simp only [pu, pn, s1, s2, s3]
      refine wT (i := 7) (oi := { dst := some 66, op := Op.slice 24 (Operand.tmp 64) (some (Operand.tmp 65)) none none, type := 24, pos := "inner.go:159", after := #[{ on := 5, ground := Ground.data }, { on := 6, ground := Ground.data }], guard := none }) (v := (.slice (some ⟨b1, oJ, none⟩) (k - h) (j2 - h) : Value)) rfl (Or.inl ⟨by rfl, ?_⟩) HHeld.out ?_
      · intro V hV; have hc0 := HOJ.out; clear hV; go_simp; (try (split <;> rfl))
      try simp only [pu, pn, s1, s2, s3]
      refine wT (i := 8) (oi := { dst := some 67, op := Op.move (Operand.tmp 8), type := 25, pos := "inner.go:159", after := #[], guard := none }) (v := ?_) rfl (Or.inl ⟨by rfl, ?_⟩) HHeld.out ?_
      rotate_left
      · intro w hSw; clear hSw; go_simp; try with_reducible rfl
      try simp only [pu, pn, s1, s2, s3]
      refine wT (i := 9) (oi := { dst := some 68, op := Op.build 28 #[(0, Operand.const (Value.int IntKind.u8 2)), (1, Operand.tmp 62), (2, Operand.tmp 66), (3, Operand.tmp 67)], type := 28, pos := "inner.go:159", after := #[{ on := 3, ground := Ground.data }, { on := 7, ground := Ground.data }, { on := 8, ground := Ground.data }], guard := none }) (v := ?_) rfl (Or.inl ⟨by rfl, ?_⟩) HHeld.out ?_
      rotate_left
      · intro w hSw; clear hSw; go_simp; try with_reducible rfl
      try simp only [pu, pn, s1, s2, s3]
      refine wpAnyH_ready (rs := [10, 11]) (by kernel_rfl) (by simp) ?_
      refine AllReadyH.cons (o := { dst := some 69, op := Op.call { callee := Callee.value (Operand.func 22), args := #[Operand.tmp 68], argTypes := #[28] }, type := 28, pos := "inner.go:159", after := #[{ on := 9, ground := Ground.data }], guard := none }) rfl (fun K hK => ?_) (AllReadyH.cons (o := { dst := some 10, op := Op.alloc 28, type := 0, pos := "inner.go:159", after := #[], guard := none }) rfl (fun K hK => ?_) AllReadyH.nil)
      · go_simp
        go_at_call 22; ((with_reducible refine (O8.out _ HHeld.out.b).mono ?_); rintro e v8 ⟨P4, p4, J4, j4, M4, m4, B4, b4, rfl, rr, b⟩; have RN8 := Lib.hid (rr.base (b2 := WA.heap.size) (HHeld.out.b.size)); have K8 := Lib.hid (HHeld.out.later b); clear b rr)
        refine hK.out _ _ ?_ (fun hHeld => ?_)
        · exact K8.out
        clear HHeld; have HHeld := Lib.hid hHeld; clear hHeld
        clear hK K
        try simp only [pu, pn, s1, s2, s3]
        refine wpAnyH_ready (rs := [11]) (by kernel_rfl) (by simp) ?_
        refine AllReadyH.cons (o := { dst := some 10, op := Op.alloc 28, type := 0, pos := "inner.go:159", after := #[], guard := none }) rfl (fun K hK => ?_) AllReadyH.nil
        have ZZ := Lib.hid (heap_alloc_new v8 ZN)
        have CA := Lib.hid (HHeld.out.later (alb v8 ZN))
        go_simp
        refine hK.out _ _ ?_ (fun hHeld => ?_)
        · exact CA.out
        clear HHeld; have HHeld := Lib.hid hHeld; clear hHeld
        clear hK K
        try simp only [pu, pn, s1, s2, s3]
        refine wpAnyH_ready (rs := [12]) (by kernel_rfl) (by simp) ?_
        refine AllReadyH.cons (o := { dst := none, op := Op.store 28 (Operand.tmp 10) (Operand.tmp 69), type := 0, pos := "inner.go:159", after := #[{ on := 11, ground := Ground.data }, { on := 10, ground := Ground.data }, { on := 10, ground := Ground.chain }, { on := 0, ground := Ground.phase }, { on := 1, ground := Ground.phase }, { on := 2, ground := Ground.phase }, { on := 3, ground := Ground.phase }, { on := 4, ground := Ground.phase }, { on := 5, ground := Ground.phase }, { on := 6, ground := Ground.phase }, { on := 7, ground := Ground.phase }, { on := 8, ground := Ground.phase }, { on := 9, ground := Ground.phase }, { on := 10, ground := Ground.phase }, { on := 11, ground := Ground.phase }], guard := none }) rfl (fun K hK => ?_) AllReadyH.nil
        obtain ⟨f0, f1, f2, f3, f4⟩ := froz5 ZZ.out
        obtain ⟨c0, c1, c2, c3, c4⟩ := cells5 ZZ.out
        have HO := Lib.hid HHeld.out
        go_simp
        clear f0 f1 f2 f3 f4 c0 c1 c2 c3 c4
        refine hK.out _ _ ?_ (fun hHeld => ?_)
        · with_reducible exact K8.out.later (alb _ _)
        clear HHeld; have HHeld := Lib.hid hHeld; clear hHeld
        clear hK K
        try simp only [pu, pn, s1, s2, s3]
        refine wpAnyH_done (by kernel_rfl) ?_ _
        have HF := Lib.hid HHeld.out
        clear HHeld
        refine at_exit (fun WF hWF => ?_)
        have BF := Lib.hid (show SK WA [(w.heap.size, (NO kd (.slice (some ⟨b0, off, none⟩) n p2) (.slice (some ⟨b1, off1, none⟩) k j2) (.slice M2 m m2) (.slice B2 0 b2))), (w.heap.size + 1, ZN), (w.heap.size + 1 + 1, ZN), (g9, (NO 2 (.slice P3 p p3) (.slice J3 h j3) (.slice M3 l m3) (.slice B3 0 b3)))] WF by rw [hWF]; exact HF.out)
        have ZB := Lib.hid (show WF.heap[v8.heap.size]? = some (NO 2 (.slice P4 (n - h) p4) (.slice J4 (k - h) j4) (.slice M4 r m4) (.slice B4 0 b4)) by rw [hWF]; with_reducible exact heap_alloc_new _ _)
        have RF := Lib.hid (show R3 WF WA.heap.size P4 J4 M4 p4 j4 m4 (ps.drop h) (ks.drop h) (resL emptyS at_ ms) by rw [hWF]; with_reducible exact RN8.out.later (alb _ _))
        clear hWF HF ZZ
        go_wp2_with fail
        go_meet
        exact ⟨v8.heap.size, P4, p4, J4, j4, M4, m4, B4, b4, rfl, ZB.out, K8.out.b.size, RF.out, BF.out⟩
      · have ZZ := Lib.hid (show (WA.alloc ZN).drew.heap[WA.heap.size]? = some ZN from heap_alloc_new _ _)
        have CA := Lib.hid (show SK WA [(w.heap.size, (NO kd (.slice (some ⟨b0, off, none⟩) n p2) (.slice (some ⟨b1, off1, none⟩) k j2) (.slice M2 m m2) (.slice B2 0 b2))), (w.heap.size + 1, ZN), (w.heap.size + 1 + 1, ZN), (g9, (NO 2 (.slice P3 p p3) (.slice J3 h j3) (.slice M3 l m3) (.slice B3 0 b3)))] (WA.alloc ZN).drew from HHeld.out.later ((alb _ ZN)))
        go_simp
        refine hK.out _ _ ?_ (fun hHeld => ?_)
        · exact CA.out
        clear HHeld; have HHeld := Lib.hid hHeld; clear hHeld
        clear hK K
        try simp only [pu, pn, s1, s2, s3]
        refine wpAnyH_ready (rs := [10]) (by kernel_rfl) (by simp) ?_
        refine AllReadyH.cons (o := { dst := some 69, op := Op.call { callee := Callee.value (Operand.func 22), args := #[Operand.tmp 68], argTypes := #[28] }, type := 28, pos := "inner.go:159", after := #[{ on := 9, ground := Ground.data }], guard := none }) rfl (fun K hK => ?_) AllReadyH.nil
        go_simp
        go_at_call 22; ((with_reducible refine (O8.out _ HHeld.out.b).mono ?_); rintro e v8 ⟨P4, p4, J4, j4, M4, m4, B4, b4, rfl, rr, b⟩; have RN8 := Lib.hid (rr.base (b2 := WA.heap.size + 1) (by simp)); have K8 := Lib.hid (HHeld.out.later b); replace ZZ := Lib.hid (keep_bel b ZZ.out); clear b rr)
        refine hK.out _ _ ?_ (fun hHeld => ?_)
        · exact K8.out
        clear HHeld; have HHeld := Lib.hid hHeld; clear hHeld
        clear hK K
        try simp only [pu, pn, s1, s2, s3]
        refine wpAnyH_ready (rs := [12]) (by kernel_rfl) (by simp) ?_
        refine AllReadyH.cons (o := { dst := none, op := Op.store 28 (Operand.tmp 10) (Operand.tmp 69), type := 0, pos := "inner.go:159", after := #[{ on := 11, ground := Ground.data }, { on := 10, ground := Ground.data }, { on := 10, ground := Ground.chain }, { on := 0, ground := Ground.phase }, { on := 1, ground := Ground.phase }, { on := 2, ground := Ground.phase }, { on := 3, ground := Ground.phase }, { on := 4, ground := Ground.phase }, { on := 5, ground := Ground.phase }, { on := 6, ground := Ground.phase }, { on := 7, ground := Ground.phase }, { on := 8, ground := Ground.phase }, { on := 9, ground := Ground.phase }, { on := 10, ground := Ground.phase }, { on := 11, ground := Ground.phase }], guard := none }) rfl (fun K hK => ?_) AllReadyH.nil
        obtain ⟨f0, f1, f2, f3, f4⟩ := froz5 ZZ.out
        obtain ⟨c0, c1, c2, c3, c4⟩ := cells5 ZZ.out
        have HO := Lib.hid HHeld.out
        go_simp
        clear f0 f1 f2 f3 f4 c0 c1 c2 c3 c4
        refine hK.out _ _ ?_ (fun hHeld => ?_)
        · with_reducible exact HO.out.chgN QS8.out (chg5 _ _ _ _ _ _ _) (Nat.le_refl _)
        clear HHeld; have HHeld := Lib.hid hHeld; clear hHeld
        clear hK K
        try simp only [pu, pn, s1, s2, s3]
        refine wpAnyH_done (by kernel_rfl) ?_ _
        have HF := Lib.hid HHeld.out
        clear HHeld
        refine at_exit (fun WF hWF => ?_)
        have BF := Lib.hid (show SK WA [(w.heap.size, (NO kd (.slice (some ⟨b0, off, none⟩) n p2) (.slice (some ⟨b1, off1, none⟩) k j2) (.slice M2 m m2) (.slice B2 0 b2))), (w.heap.size + 1, ZN), (w.heap.size + 1 + 1, ZN), (g9, (NO 2 (.slice P3 p p3) (.slice J3 h j3) (.slice M3 l m3) (.slice B3 0 b3)))] WF by rw [hWF]; exact HF.out)
        have ZB := Lib.hid (show WF.heap[WA.heap.size]? = some (NO 2 (.slice P4 (n - h) p4) (.slice J4 (k - h) j4) (.slice M4 r m4) (.slice B4 0 b4)) by rw [hWF]; with_reducible exact set5w ZZ.out _ _ _ _ _)
        have RF := Lib.hid (show R3 WF WA.heap.size P4 J4 M4 p4 j4 m4 (ps.drop h) (ks.drop h) (resL emptyS at_ ms) by rw [hWF]; exact (RN8.out.chgB (chg5 _ _ _ _ _ _ _) (by omega)).base (by omega))
        clear hWF HF ZZ
        go_wp2_with fail
        go_meet
        exact ⟨WA.heap.size, P4, p4, J4, j4, M4, m4, B4, b4, rfl, ZB.out, Nat.le_refl _, RF.out, BF.out⟩
    case rest =>
      obtain ⟨g10, P4, p4, J4, j4, M4, m4, B4, b4, rfl, z10, hg10, r10, sk10⟩ := hcut
      obtain ⟨WB, rfl⟩ : ∃ WB, WB = wc := ⟨_, rfl⟩
      have Z10 := Lib.hid z10
      have HG10 := Lib.hid hg10
      have X10 := Lib.hid (show WB.heap[w.heap.size + 1]? = some ZN from sk10.g 1 rfl)
      have Y10 := Lib.hid (show WB.heap[w.heap.size + 1 + 1]? = some ZN from sk10.g 2 rfl)
      have Z9b := Lib.hid (show WB.heap[g9]? = some (NO 2 (.slice P3 p p3) (.slice J3 h j3) (.slice M3 l m3) (.slice B3 0 b3)) from sk10.g 3 rfl)
      have R10 := Lib.hid (r10.base SK9.out.b.size)
      have R9b := Lib.hid (R9.out.later sk10.b)
      have HB := Lib.hid (bel_trans H4.out (bel_trans SK9.out.b sk10.b))
      have W3S : Hid (w.heap.size + 3 ≤ w3.heap.size) := Lib.hid (by have := (Array.getElem?_eq_some_iff.1 Y4.out).1; omega)
      have G9 : Hid (w.heap.size + 3 ≤ g9) := Lib.hid (Nat.le_trans W3S.out HG9.out)
      have G10 : Hid (w.heap.size + 3 ≤ g10) := Lib.hid (Nat.le_trans (Nat.le_trans W3S.out SK9.out.b.size) HG10.out)
      clear z10 r10 hg10 sk10 QS8 O8
      obtain ⟨c0, c1, c2, c3, c4⟩ := cells5 X10.out
      obtain ⟨f0, f1, f2, f3, f4⟩ := froz5 X10.out
      obtain ⟨d0, d1, d2, d3, d4⟩ := cells5 Y10.out
      obtain ⟨e0, e1, e2, e3, e4⟩ := froz5 Y10.out
      go_upto_region 9 with fail
      refine wp_region_held_drew (S := (fun V : World => V.heap[g9]? = some (NO 2 (.slice P3 p p3) (.slice J3 h j3) (.slice M3 l m3) (.slice B3 0 b3)) ∧ V.heap[g10]? = some (NO 2 (.slice P4 (n - h) p4) (.slice J4 (k - h) j4) (.slice M4 r m4) (.slice B4 0 b4)))) (by kernel_rfl) ?_ (fun hHeld => ?_)
      · exact ⟨Z9b.out, Z10.out⟩
      have HHeld := Lib.hid hHeld; clear hHeld
      refine wT (i := 0) (oi := { dst := some 70, op := Op.load 28 (Operand.tmp 9), type := 28, pos := "inner.go:160", after := #[], guard := none }) (v := (NV 2 (.slice P3 p p3) (.slice J3 h j3) (.slice M3 l m3) (.slice B3 0 b3) : Value)) rfl (Or.inl ⟨by rfl, ?_⟩) HHeld.out ?_
      · intro V hV; have hc0 := (cells5 hV.1).1; have hc1 := (cells5 hV.1).2.1; have hc2 := (cells5 hV.1).2.2.1; have hc3 := (cells5 hV.1).2.2.2.1; have hc4 := (cells5 hV.1).2.2.2.2; clear hV; go_simp
      try simp only [pu, pn, s1, s2, s3]
      refine wT (i := 1) (oi := { dst := some 71, op := Op.load 28 (Operand.tmp 10), type := 28, pos := "inner.go:160", after := #[{ on := 3, ground := Ground.gcOnly Departure.lateStores }], guard := none }) (v := (NV 2 (.slice P4 (n - h) p4) (.slice J4 (k - h) j4) (.slice M4 r m4) (.slice B4 0 b4) : Value)) rfl (Or.inl ⟨by rfl, ?_⟩) HHeld.out ?_
      · intro V hV; have hc0 := (cells5 hV.2).1; have hc1 := (cells5 hV.2).2.1; have hc2 := (cells5 hV.2).2.2.1; have hc3 := (cells5 hV.2).2.2.2.1; have hc4 := (cells5 hV.2).2.2.2.2; clear hV; go_simp
      try simp only [pu, pn, s1, s2, s3]
      refine wT (i := 2) (oi := { dst := some 72, op := Op.move (Operand.tmp 6), type := 9, pos := "inner.go:160", after := #[{ on := 4, ground := Ground.gcOnly Departure.lateStores }], guard := none }) (v := ?_) rfl (Or.inl ⟨by rfl, ?_⟩) HHeld.out ?_
      rotate_left
      · intro w hSw; clear hSw; go_simp; try with_reducible rfl
      try simp only [pu, pn, s1, s2, s3]
      refine wpAnyH_ready (rs := [3]) (by kernel_rfl) (by simp) ?_
      refine AllReadyH.cons (o := { dst := none, op := Op.store 28 (Operand.tmp 2) (Operand.tmp 70), type := 0, pos := "inner.go:160", after := #[{ on := 0, ground := Ground.data }, { on := 0, ground := Ground.phase }, { on := 1, ground := Ground.textOnly Departure.lateStores }, { on := 2, ground := Ground.textOnly Departure.lateStores }], guard := none }) rfl (fun K hK => ?_) AllReadyH.nil
      go_simp
      generalize hW : World.setCell _ _ _ = W8
      have HCa := Lib.hid (show Chg (fun g => g = w.heap.size + 1) WB W8 by rw [← hW]; exact chg5 _ _ _ _ _ _ _)
      have Ba := Lib.hid (show W8.heap[w.heap.size + 1]? = some (NO 2 (.slice P3 p p3) (.slice J3 h j3) (.slice M3 l m3) (.slice B3 0 b3)) by rw [← hW]; exact set5w X10.out _ _ _ _ _)
      have Y11 := Lib.hid (show W8.heap[w.heap.size + 1 + 1]? = some ZN from keep_chg HCa.out Y10.out (fun e => by omega))
      have U9a := Lib.hid (show W8.heap[g9]? = some (NO 2 (.slice P3 p p3) (.slice J3 h j3) (.slice M3 l m3) (.slice B3 0 b3)) from keep_chg HCa.out Z9b.out (fun e => absurd (show g9 = _ from e) (by have := G9.out; omega)))
      have U10a := Lib.hid (show W8.heap[g10]? = some (NO 2 (.slice P4 (n - h) p4) (.slice J4 (k - h) j4) (.slice M4 r m4) (.slice B4 0 b4)) from keep_chg HCa.out Z10.out (fun e => absurd (show g10 = _ from e) (by have := G10.out; omega)))
      clear hW c0 c1 c2 c3 c4 f0 f1 f2 f3 f4 d0 d1 d2 d3 d4 e0 e1 e2 e3 e4
      obtain ⟨d0, d1, d2, d3, d4⟩ := cells5 Y11.out
      obtain ⟨e0, e1, e2, e3, e4⟩ := froz5 Y11.out
      obtain ⟨c0, c1, c2, c3, c4⟩ := cells5 Ba.out
      obtain ⟨f0, f1, f2, f3, f4⟩ := froz5 Ba.out
      refine hK.out _ _ ?_ (fun hHeld => ?_)
      · exact ⟨U9a.out, U10a.out⟩
      clear HHeld; have HHeld := Lib.hid hHeld; clear hHeld
      clear hK K
      try simp only [pu, pn, s1, s2, s3]
      refine wpAnyH_ready (rs := [4]) (by kernel_rfl) (by simp) ?_
      refine AllReadyH.cons (o := { dst := none, op := Op.store 28 (Operand.tmp 3) (Operand.tmp 71), type := 0, pos := "inner.go:160", after := #[{ on := 1, ground := Ground.data }, { on := 3, ground := Ground.chain }, { on := 0, ground := Ground.phase }, { on := 1, ground := Ground.phase }, { on := 2, ground := Ground.textOnly Departure.lateStores }, { on := 3, ground := Ground.phase }], guard := none }) rfl (fun K hK => ?_) AllReadyH.nil
      go_simp
      generalize hW : World.setCell _ _ _ = W9
      have HCb := Lib.hid (show Chg (fun g => g = w.heap.size + 1 + 1) W8 W9 by rw [← hW]; exact chg5 _ _ _ _ _ _ _)
      have Bb := Lib.hid (show W9.heap[w.heap.size + 1 + 1]? = some (NO 2 (.slice P4 (n - h) p4) (.slice J4 (k - h) j4) (.slice M4 r m4) (.slice B4 0 b4)) by rw [← hW]; exact set5w Y11.out _ _ _ _ _)
      have Bc := Lib.hid (show W9.heap[w.heap.size + 1]? = some (NO 2 (.slice P3 p p3) (.slice J3 h j3) (.slice M3 l m3) (.slice B3 0 b3)) from keep_chg HCb.out Ba.out (fun e => by omega))
      have U9b := Lib.hid (show W9.heap[g9]? = some (NO 2 (.slice P3 p p3) (.slice J3 h j3) (.slice M3 l m3) (.slice B3 0 b3)) from keep_chg HCb.out U9a.out (fun e => absurd (show g9 = _ from e) (by have := G9.out; omega)))
      have U10b := Lib.hid (show W9.heap[g10]? = some (NO 2 (.slice P4 (n - h) p4) (.slice J4 (k - h) j4) (.slice M4 r m4) (.slice B4 0 b4)) from keep_chg HCb.out U10a.out (fun e => absurd (show g10 = _ from e) (by have := G10.out; omega)))
      clear hW c0 c1 c2 c3 c4 f0 f1 f2 f3 f4 d0 d1 d2 d3 d4 e0 e1 e2 e3 e4
      refine hK.out _ _ ?_ (fun hHeld => ?_)
      · exact ⟨U9b.out, U10b.out⟩
      clear HHeld; have HHeld := Lib.hid hHeld; clear hHeld
      clear hK K
      try simp only [pu, pn, s1, s2, s3]
      refine wT (i := 5) (oi := { dst := some 4, op := Op.assign (Operand.tmp 72), type := 9, pos := "inner.go:160", after := #[{ on := 2, ground := Ground.data }, { on := 4, ground := Ground.chain }, { on := 0, ground := Ground.phase }, { on := 1, ground := Ground.phase }, { on := 2, ground := Ground.phase }, { on := 3, ground := Ground.phase }, { on := 4, ground := Ground.phase }], guard := none }) (v := ?_) rfl (Or.inl ⟨by rfl, ?_⟩) HHeld.out ?_
      rotate_left
      · intro w hSw; clear hSw; go_simp; try with_reducible rfl
      try simp only [pu, pn, s1, s2, s3]
      refine wpAnyH_done (by kernel_rfl) ?_ _
      clear HHeld
      obtain ⟨k0, k1, k2, k3, k4⟩ := cells5 Bc.out
      obtain ⟨q0, q1, q2, q3, q4⟩ := cells5 Bb.out
      go_wp2
      refine bodyPost_ret (v := .tuple #[NV 2 (.slice P3 p p3) (.slice J3 h j3) (.slice M3 l m3) (.slice B3 0 b3), NV 2 (.slice P4 (n - h) p4) (.slice J4 (k - h) j4) (.slice M4 r m4) (.slice B4 0 b4), .string at_]) (by simp [results, Tryz.results7, go_sem, k0, k1, k2, k3, k4, q0, q1, q2, q3, q4]) rfl ⟨P3, p3, J3, j3, M3, m3, B3, b3, P4, p4, J4, j4, M4, m4, B4, b4, rfl, ?_, ?_, ?_⟩
      · exact (((R9b.out.chgB HCa.out (by have := W3S.out; omega)).chgB HCb.out (by have := W3S.out; omega)).base (by have := W3S.out; omega)).later (drew_bel _)
      · exact (((R10.out.chgB HCa.out (by have := W3S.out; omega)).chgB HCb.out (by have := W3S.out; omega)).base (by have := W3S.out; omega)).later (drew_bel _)
      · exact (bel_chg (bel_chg HB.out HCa.out (by omega)) HCb.out (by omega)).drew
end Go.Proofs.YtilnpeekajnlhaaGreat
