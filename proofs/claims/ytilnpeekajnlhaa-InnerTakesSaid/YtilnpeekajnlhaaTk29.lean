/- The law InnerTakes answers true. -/
import Derived.Test.YtilnpeekajnlhaaTk16
import Derived.Test.YtilnpeekajnlhaaTk27
import Derived.Test.YtilnpeekajnlhaaTk28
set_option linter.unusedVariables false
set_option linter.unusedSimpArgs false
namespace Go.Proofs.Ytilnpeekajnlhaa
open Go.RowKit Go.Maps
/-- A later world, and what lies in boxes. -/
structure SK (W : World) (Q : List (Nat × Obj)) (V : World) : Prop where
  b : Below W.heap.size W V
  q : ∀ p ∈ Q, V.heap[p.1]? = some p.2
theorem SK.g {W V : World} {Q : List (Nat × Obj)} (h : SK W Q V) (i : Nat) {g : Nat} {o : Obj} (hx : Q[i]? = some (g, o)) : V.heap[g]? = some o := h.q (g, o) (List.mem_of_getElem? hx)
theorem SK.later {W V V2 : World} {Q : List (Nat × Obj)} (h : SK W Q V) (b : Below V.heap.size V V2) : SK W Q V2 := ⟨bel_trans h.b b, fun p hp => keep_bel b (h.q p hp)⟩
theorem SK.start {W : World} {Q : List (Nat × Obj)} (h : ∀ p ∈ Q, W.heap[p.1]? = some p.2) : SK W Q W.drew := ⟨(Below.refl _ _).drew, fun p hp => h p hp⟩
theorem small_yes {n k m b : Nat} (h : smallB n k m b = true) : k ≤ 20 ∧ n ≤ 20 ∧ m ≤ 30 ∧ b ≤ 5 := by
  unfold smallB at h
  simp only [Bool.and_eq_true, decide_eq_true_eq] at h
  omega
set_option maxRecDepth 100000 in
set_option maxHeartbeats 8000000 in
theorem takes_not (kd : Int) (P J M B L : Option Addr) (n pc k kc m mc b bc q lc : Nat) (ps : List ByteArray) (ks : List Int) (ms : List MG) (f t : ByteArray) (i : Int) (w : World) (hl : ps.length = n) (hP : Pv.RdS w P ps) (hkl : ks.length = k) (hJ : EI.Rd w J ks) (hm : ms.length = m) (hM : EG.Rd w M ms) (ho : OkA ms)
    (hno : (smallB n k m b && rnB kd n k b ps ks ms f t) = false) :
    Calls Try.prog 3 #[NV kd (.slice P n pc) (.slice J k kc) (.slice M m mc) (.slice B b bc), .agg #[.string f, .string t], .int .i64 i, .slice L q lc] w fun e w' => e = .returned (.bool true) ∧ Below w.heap.size w w' := by
  have y1 := two_new w (NO kd (.slice P n pc) (.slice J k kc) (.slice M m mc) (.slice B b bc)) (rgc f t)
  have H0 := Lib.hid (bel_alloc (alb w (NO kd (.slice P n pc) (.slice J k kc) (.slice M m mc) (.slice B b bc))) (rgc f t))
  have Z := Lib.hid y1.1
  have Y := Lib.hid y1.2
  clear y1
  obtain ⟨c0, c1, c2, c3, c4⟩ := cells5 Z.out
  obtain ⟨d0, d1, -, -⟩ := has_two Y.out
  have SA := Lib.hid (fun W => small_any kd P J M B n pc k kc m mc b bc W)
  cases hs : smallB n k m b
  · rw [hs] at SA
    clear hl hP hkl hJ hm hM ho hno hs
    go_enter Try.func3, Try.ntmps3
    go_wp2_with (first
      | (go_at_call 7; ((with_reducible refine (SA.out _).mono ?_); rintro e w1 ⟨rfl, b1⟩; have B1 := Lib.hid (bel_trans H0.out b1); clear b1))
      | (go_at_call 9; ((with_reducible refine (live_true _).mono ?_); rintro e w3 ⟨rfl, b3⟩; have B3 := Lib.hid (bel_trans B1.out b3); clear b3))
      | fail)
    go_ret
    exact ⟨rfl, B3.out⟩
  · rw [hs] at SA hno
    obtain ⟨s1, s2, s3, s4⟩ := small_yes hs
    rw [Bool.true_and] at hno
    have RA : Hid (∀ W, Below w.heap.size w W → Calls Try.prog 8 #[NV kd (.slice P n pc) (.slice J k kc) (.slice M m mc) (.slice B b bc), .agg #[.string f, .string t]] W fun e w' => e = .returned (.bool false) ∧ Below W.heap.size W w') := Lib.hid (fun W h => by
      have q := rright14 kd P J M B n pc k kc m mc b bc ps ks ms f t W hl (by omega) (Rd.later hP h) hkl (by omega) (hJ.later h) hm (by omega) (hM.later h) ho
      rw [hno] at q; exact q)
    clear hl hP hkl hJ hm hM ho hno hs
    go_enter Try.func3, Try.ntmps3
    go_wp2_with (first
      | (go_at_call 7; ((with_reducible refine (SA.out _).mono ?_); rintro e w1 ⟨rfl, b1⟩; have B1 := Lib.hid (bel_trans H0.out b1); replace Z := Lib.hid (keep_bel b1 Z.out); replace Y := Lib.hid (keep_bel b1 Y.out); clear b1 c0 c1 c2 c3 c4 d0 d1; obtain ⟨c0, c1, c2, c3, c4⟩ := cells5 Z.out; obtain ⟨d0, d1, -, -⟩ := has_two Y.out))
      | (go_at_call 8; ((with_reducible refine (RA.out _ B1.out).mono ?_); rintro e w2 ⟨rfl, b2⟩; have B2 := Lib.hid (bel_trans B1.out b2); clear b2))
      | (go_at_call 9; ((with_reducible refine (live_true _).mono ?_); rintro e w3 ⟨rfl, b3⟩; have B3 := Lib.hid (bel_trans B2.out b3); clear b3))
      | fail)
    go_ret
    exact ⟨rfl, B3.out⟩
set_option maxRecDepth 100000 in
set_option maxHeartbeats 8000000 in
theorem takes_lo (kd : Int) (P J M B L : Option Addr) (n pc k kc m mc bc q0 lc : Nat) (ps : List ByteArray) (ks : List Int) (ms ys : List MG) (f t : ByteArray) (i : Int) (w : World) (hl : ps.length = n) (hP : Pv.RdS w P ps) (hkl : ks.length = k) (hJ : EI.Rd w J ks) (hx : ∀ x ∈ ks, (Lit.int .i64 x).wf = true) (hm : ms.length = m) (hM : EG.Rd w M ms) (ho : OkA ms)
    (hps : ∀ x ∈ ps, SzOk x) (hf : SzOk f) (ht : SzOk t) (hs : smallB n k m 0 = true) (hr : RN kd n k 0 ps ks ms f t) (hq : q0 ≤ 10) (hql : q0 ≤ lc) (hlc : lc ≤ maxLen) (hy : ys.length = q0) (hY : EG.Rd w L ys) :
    Calls Try.prog 3 #[NV kd (.slice P n pc) (.slice J k kc) (.slice M m mc) (.slice B 0 bc), .agg #[.string f, .string t], .int .i64 i, .slice L q0 lc] w fun e w' => e = .returned (.bool true) ∧ Below w.heap.size w w' := by
  obtain ⟨s1, s2, s3, -⟩ := small_yes hs
  have hk := hr.hk
  have hq10 : q0 ≤ 10 := by omega
  have hqI : (q0 : Int) ≤ 10 := by omega
  have hmin : min (q0 : Int) 10 = (q0 : Int) := by omega
  have hq1 : (q0 : Int) ≤ (lc : Int) := by omega
  have hq2 : (0 : Int) ≤ (q0 : Int) := by omega
  have hq3 : q0 ≤ lc := by omega
  have KN : (kidL ps f t i ms).length ≤ 1000 := by have := kidL_len ps f t i ms; omega
  have RL : (restL ps f t i ms).length ≤ 60 := by have := restL_len ps f t i ms; omega
  have OR := restL_ok hps hf ht i ho
  have RR0 := rest_rn hr i
  have SA : Hid (∀ W, Calls Try.prog 7 #[NV kd (.slice P n pc) (.slice J k kc) (.slice M m mc) (.slice B 0 bc)] W fun e w' => e = .returned (.bool true) ∧ Below W.heap.size W w') := Lib.hid (fun W => by
    have q := small_any kd P J M B n pc k kc m mc 0 bc W
    rw [hs] at q; exact q)
  have RA : Hid (∀ W, Below w.heap.size w W → Calls Try.prog 8 #[NV kd (.slice P n pc) (.slice J k kc) (.slice M m mc) (.slice B 0 bc), .agg #[.string f, .string t]] W fun e w' => e = .returned (.bool true) ∧ Below W.heap.size W w') := Lib.hid (fun W h => by
    have q := rright14 kd P J M B n pc k kc m mc 0 bc ps ks ms f t W hl (by omega) (Rd.later hP h) hkl (by omega) (hJ.later h) hm (by omega) (hM.later h) ho
    rw [rnB_iff.2 hr] at q; exact q)
  have TA := Lib.hid (fun W (h : Below w.heap.size w W) => itake_any kd P J M B n pc k kc m mc bc ps ks ms f t i W hl (by omega) (Rd.later hP h) hkl hk (hJ.later h) hm (by omega) (hM.later h) ho)
  have FA := Lib.hid (fun W (h : Below w.heap.size w W) => rfor14 kd P J M B n pc k kc m mc 0 bc ps ms f t i W hl (by omega) (Rd.later hP h) hr.hps hm (by omega) (hM.later h) hr.hms)
  have GA := Lib.hid (fun W (h : Below w.heap.size w W) => rrest14 kd P J M B n pc k kc m mc 0 bc ps ms f t i W hl (by omega) (Rd.later hP h) hr.hps hm (by omega) (hM.later h) hr.hms)
  have SM := Lib.hid (fun (P2 J2 B2 A2 M2 : Option Addr) (p2 j2 m2 b2 c2 l : Nat) (L2 : List MG) W (h : Below w.heap.size w W) (hl2 : L2.length = l) (hl3 : l ≤ 1000) (h1 : ES.Rd W P2 ps) (h2 : EI.Rd W J2 ks) (h3 : EG.Rd W M2 L2) (h4 : EG.Rd W A2 L2) => same14 kd P2 J2 M2 B2 P J A2 B n k l p2 j2 m2 b2 pc kc c2 bc ps ks L2 W hl (by omega) hkl (by omega) hl2 hl3 h1 (es_rd.2 (Rd.later hP h)) h2 (hJ.later h) h3 h4)
  have IR := Lib.hid (fun (P2 J2 M2 B2 : Option Addr) (p2 j2 m2 b2 : Nat) W (h1 : ES.Rd W P2 ps) (h2 : EI.Rd W J2 ks) (h3 : EG.Rd W M2 (restL ps f t i ms)) => iright_true kd P2 J2 M2 B2 n p2 k j2 (restL ps f t i ms).length m2 0 b2 ps ks (restL ps f t i ms) f t W hl (by omega) (es_rd.1 h1) hkl h2 hx rfl (by omega) h3 OR RR0)
  have IF := Lib.hid (fun (P2 J2 M2 B2 : Option Addr) (p2 j2 m2 b2 : Nat) W (h1 : ES.Rd W P2 ps) (h3 : EG.Rd W M2 (restL ps f t i ms)) => show Calls Try.prog 18 #[NV kd (.slice P2 n p2) (.slice J2 k j2) (.slice M2 (restL ps f t i ms).length m2) (.slice B2 0 b2), .agg #[.string f, .string t], .int .i64 i] W fun r w' => (∃ A' c', r = .returned (.slice A' 0 c')) ∧ Below W.heap.size W w' from by
    have q := ifor_any kd P2 J2 M2 B2 n p2 k j2 (restL ps f t i ms).length m2 0 b2 ps (restL ps f t i ms) f t i W hl (by omega) (es_rd.1 h1) hk rfl (by omega) h3 OR
    rw [kid_rest] at q
    exact q.mono (fun e w1 h => ⟨⟨_, _, h.1.choose_spec.choose_spec.1⟩, h.2⟩))
  have AA := Lib.hid (fun W (h : Below w.heap.size w W) => iadd_any kd P J M B L n pc k kc m mc bc q0 lc ps ks ms ys W hl (by omega) hkl (by omega) hm (by omega) hy (by omega) (es_rd.2 (Rd.later hP h)) (hJ.later h) (hM.later h) (hY.later h))
  have MM := Lib.hid (fun W (h : Below w.heap.size w W) => hM.later h)
  have YY := Lib.hid (fun W (h : Below w.heap.size w W) => hY.later h)
  have HML := Lib.hid hm
  have HYL := Lib.hid hy
  have HKN := Lib.hid KN
  have HRL := Lib.hid RL
  have HSL := Lib.hid (show (stab (ms ++ ys)).length = m + q0 by rw [stab_len, List.length_append, hm, hy])
  have HM30 := Lib.hid s3
  have y1 := two_new w (NO kd (.slice P n pc) (.slice J k kc) (.slice M m mc) (.slice B 0 bc)) (rgc f t)
  have H0 := Lib.hid (bel_alloc (alb w (NO kd (.slice P n pc) (.slice J k kc) (.slice M m mc) (.slice B 0 bc))) (rgc f t))
  have Z := Lib.hid y1.1
  have Y := Lib.hid y1.2
  clear y1 hl hP hkl hJ hx hm hM ho hps hf ht hs hr hk hq hql hlc hy hY KN RL OR RR0 s1 s2 s3
  obtain ⟨c0, c1, c2, c3, c4⟩ := cells5 Z.out
  obtain ⟨d0, d1, -, -⟩ := has_two Y.out
  go_enter Try.func3, Try.ntmps3
  go_upto_region 5 with (first
    | (go_at_call 7; ((with_reducible refine (SA.out _).mono ?_); rintro e w1 ⟨rfl, b1⟩; replace H0 := Lib.hid (bel_trans H0.out b1); replace Z := Lib.hid (keep_bel b1 Z.out); replace Y := Lib.hid (keep_bel b1 Y.out); clear b1 c0 c1 c2 c3 c4 d0 d1; obtain ⟨c0, c1, c2, c3, c4⟩ := cells5 Z.out; obtain ⟨d0, d1, -, -⟩ := has_two Y.out))
    | (go_at_call 8; ((with_reducible refine (RA.out _ H0.out).mono ?_); rintro e w2 ⟨rfl, b2⟩; replace H0 := Lib.hid (bel_trans H0.out b2); replace Z := Lib.hid (keep_bel b2 Z.out); replace Y := Lib.hid (keep_bel b2 Y.out); clear b2 c0 c1 c2 c3 c4 d0 d1; obtain ⟨c0, c1, c2, c3, c4⟩ := cells5 Z.out; obtain ⟨d0, d1, -, -⟩ := has_two Y.out))
    | (go_at_call 10; ((with_reducible refine (TA.out _ H0.out).mono ?_); rintro e w3 ⟨T, tc, P2, p2, J2, j2, M2, m2, B2, b2, rfl, rt, rr, b3⟩; have RT := Lib.hid rt.rd; have RR := Lib.hid rr; replace H0 := Lib.hid (bel_trans H0.out b3); replace Z := Lib.hid (keep_bel b3 Z.out); replace Y := Lib.hid (keep_bel b3 Y.out); clear b3 rt rr c0 c1 c2 c3 c4 d0 d1))
    | fail)
  have AL4 := alb w3 (NO kd (.slice P2 n p2) (.slice J2 k j2) (.slice M2 (restL ps f t i ms).length m2) (.slice B2 0 b2))
  obtain ⟨W4, hW4⟩ : ∃ W4, W4 = w3.alloc (NO kd (.slice P2 n p2) (.slice J2 k j2) (.slice M2 (restL ps f t i ms).length m2) (.slice B2 0 b2)) := ⟨_, rfl⟩
  have X := Lib.hid (show W4.heap[w3.heap.size]? = some (NO kd (.slice P2 n p2) (.slice J2 k j2) (.slice M2 (restL ps f t i ms).length m2) (.slice B2 0 b2)) by rw [hW4]; exact heap_alloc_new _ _)
  rw [← hW4] at AL4 ⊢
  replace H0 := Lib.hid (bel_trans H0.out AL4)
  replace Z := Lib.hid (keep_bel AL4 Z.out)
  replace Y := Lib.hid (keep_bel AL4 Y.out)
  replace RT := Lib.hid (RT.out.later AL4)
  replace RR := Lib.hid (RR.out.later AL4)
  clear AL4 hW4
  have HT := Lib.hid (fun V (h : Below W4.heap.size W4 V) => RT.out.later h)
  have HRR := Lib.hid (fun V (h : Below W4.heap.size W4 V) => RR.out.later h)
  have F12 := Lib.hid (fun V (h : Below W4.heap.size W4 V) => FA.out V (bel_trans H0.out h))
  have F15 := Lib.hid (fun V (h : Below W4.heap.size W4 V) => GA.out V (bel_trans H0.out h))
  unfold RowsOf at F12 F15
  have F13 := Lib.hid (fun A6 q6 V (h : Below W4.heap.size W4 V) (h4 : EG.Rd V A6 (restL ps f t i ms)) => SM.out P2 J2 B2 A6 M2 p2 j2 m2 b2 q6 _ (restL ps f t i ms) V (bel_trans H0.out h) rfl (by have := HRL.out; omega) (HRR.out V h).r1.rd (HRR.out V h).r2.rd (HRR.out V h).r3.rd h4)
  have F16 := Lib.hid (fun V (h : Below W4.heap.size W4 V) => IR.out P2 J2 M2 B2 p2 j2 m2 b2 V (HRR.out V h).r1.rd (HRR.out V h).r2.rd (HRR.out V h).r3.rd)
  have F18 := Lib.hid (fun V (h : Below W4.heap.size W4 V) => IF.out P2 J2 M2 B2 p2 j2 m2 b2 V (HRR.out V h).r1.rd (HRR.out V h).r3.rd)
  have QST := Lib.hid (show ∀ p ∈ ([(w.heap.size, (NO kd (.slice P n pc) (.slice J k kc) (.slice M m mc) (.slice B 0 bc))), (w.heap.size + 1, rgc f t), (w3.heap.size, (NO kd (.slice P2 n p2) (.slice J2 k j2) (.slice M2 (restL ps f t i ms).length m2) (.slice B2 0 b2)))] : List (Nat × Obj)), W4.heap[p.1]? = some p.2 by
    intro p hp
    simp only [List.mem_cons, List.not_mem_nil, or_false] at hp
    rcases hp with rfl | rfl | rfl
    · exact Z.out
    · exact Y.out
    · exact X.out)
  clear FA GA IR RA TA IF
  refine wp_region_held_drew (S := (SK W4 [(w.heap.size, (NO kd (.slice P n pc) (.slice J k kc) (.slice M m mc) (.slice B 0 bc))), (w.heap.size + 1, rgc f t), (w3.heap.size, (NO kd (.slice P2 n p2) (.slice J2 k j2) (.slice M2 (restL ps f t i ms).length m2) (.slice B2 0 b2)))])) (by kernel_rfl) ?_ (fun hHeld => ?_)
  · exact SK.start QST.out
  have HHeld := Lib.hid hHeld; clear hHeld
  refine wpAnyH_take (i := 0) (oi := { dst := some 35, op := Op.move (Operand.tmp 9), type := 25, pos := "law.go:56", after := #[], guard := none }) (v := ?_) rfl (by kernel_rfl) (by kernel_rfl) (by kernel_rfl) (fun _ _ _ h => h) (Or.inl ⟨by rfl, ?_⟩) HHeld.out ?_
  rotate_left
  · intro w hSw; clear hSw; go_simp; try with_reducible rfl
  try simp only [Act.put, List.setIfInBounds_toArray, List.set_cons_zero, List.set_cons_succ]
  refine wpAnyH_take (i := 1) (oi := { dst := some 36, op := Op.load 28 (Operand.tmp 4), type := 28, pos := "law.go:56", after := #[], guard := none }) (v := (NV kd (.slice P n pc) (.slice J k kc) (.slice M m mc) (.slice B 0 bc) : Value)) rfl (by kernel_rfl) (by kernel_rfl) (by kernel_rfl) (fun _ _ _ h => h) (Or.inl ⟨by rfl, ?_⟩) HHeld.out ?_
  · intro V hV; have hc0 := (cells5 (hV.g 0 rfl)).1; have hc1 := (cells5 (hV.g 0 rfl)).2.1; have hc2 := (cells5 (hV.g 0 rfl)).2.2.1; have hc3 := (cells5 (hV.g 0 rfl)).2.2.2.1; have hc4 := (cells5 (hV.g 0 rfl)).2.2.2.2; clear hV; go_simp
  try simp only [Act.put, List.setIfInBounds_toArray, List.set_cons_zero, List.set_cons_succ]
  refine wpAnyH_take (i := 2) (oi := { dst := some 37, op := Op.load 30 (Operand.tmp 5), type := 30, pos := "law.go:56", after := #[], guard := none }) (v := (.agg #[.string f, .string t] : Value)) rfl (by kernel_rfl) (by kernel_rfl) (by kernel_rfl) (fun _ _ _ h => h) (Or.inl ⟨by rfl, ?_⟩) HHeld.out ?_
  · intro V hV; have hc0 := (has_two (hV.g 1 rfl)).1; have hc1 := (has_two (hV.g 1 rfl)).2.1; clear hV; go_simp
  try simp only [Act.put, List.setIfInBounds_toArray, List.set_cons_zero, List.set_cons_succ]
  refine wpAnyH_take (i := 3) (oi := { dst := some 38, op := Op.move (Operand.tmp 2), type := 3, pos := "law.go:56", after := #[], guard := none }) (v := ?_) rfl (by kernel_rfl) (by kernel_rfl) (by kernel_rfl) (fun _ _ _ h => h) (Or.inl ⟨by rfl, ?_⟩) HHeld.out ?_
  rotate_left
  · intro w hSw; clear hSw; go_simp; try with_reducible rfl
  try simp only [Act.put, List.setIfInBounds_toArray, List.set_cons_zero, List.set_cons_succ]
  refine wpAnyH_ready (rs := [4]) (by kernel_rfl) (by simp) ?_
  refine AllReadyH.cons (o := { dst := some 39, op := Op.call { callee := Callee.value (Operand.func 12), args := #[Operand.tmp 36, Operand.tmp 37, Operand.tmp 38], argTypes := #[28, 30, 3] }, type := 25, pos := "law.go:56", after := #[{ on := 1, ground := Ground.data }, { on := 2, ground := Ground.data }, { on := 3, ground := Ground.data }], guard := none }) rfl (fun K hK => ?_) AllReadyH.nil
  go_simp
  go_at_call 12; ((with_reducible refine (F12.out _ HHeld.out.b).mono ?_); rintro e v4 ⟨⟨A5, q5, rfl, r5⟩, b4⟩; have K4 := Lib.hid (HHeld.out.later b4); have R5 := Lib.hid r5; clear r5; clear b4)
  refine hK.out _ _ ?_ (fun hHeld => ?_)
  · exact K4.out
  clear HHeld; have HHeld := Lib.hid hHeld; clear hHeld
  clear hK K
  try simp only [Act.put, List.setIfInBounds_toArray, List.set_cons_zero, List.set_cons_succ]
  refine wpAnyH_ready (rs := [5]) (by kernel_rfl) (by simp) ?_
  refine AllReadyH.cons (o := { dst := some 40, op := Op.call { callee := Callee.value (Operand.func 11), args := #[Operand.tmp 35, Operand.tmp 39], argTypes := #[25, 25] }, type := 4, pos := "law.go:56", after := #[{ on := 0, ground := Ground.data }, { on := 4, ground := Ground.data }, { on := 4, ground := Ground.chain }], guard := none }) rfl (fun K hK => ?_) AllReadyH.nil
  go_simp
  go_at_call 11; ((with_reducible refine (same_any T A5 _ tc q5 (kidL ps f t i ms) _ rfl HKN.out (HT.out _ HHeld.out.b) R5.out).mono ?_); rintro e v5 ⟨rfl, b5⟩; have K5 := Lib.hid (HHeld.out.later b5); clear b5)
  refine hK.out _ _ ?_ (fun hHeld => ?_)
  · exact K5.out
  clear HHeld; have HHeld := Lib.hid hHeld; clear hHeld
  clear hK K
  try simp only [Act.put, List.setIfInBounds_toArray, List.set_cons_zero, List.set_cons_succ]
  refine wpAnyH_take (i := 6) (oi := { dst := some 41, op := Op.unOp UnOp.not 4 (Operand.tmp 40), type := 4, pos := "law.go:56", after := #[{ on := 5, ground := Ground.data }], guard := none }) (v := ?_) rfl (by kernel_rfl) (by kernel_rfl) (by kernel_rfl) (fun _ _ _ h => h) (Or.inl ⟨by rfl, ?_⟩) HHeld.out ?_
  rotate_left
  · intro w hSw; clear hSw; go_simp; try with_reducible rfl
  try simp only [Act.put, List.setIfInBounds_toArray, List.set_cons_zero, List.set_cons_succ]
  refine wpAnyH_take (i := 7) (oi := { dst := some 42, op := Op.move (Operand.tmp 41), type := 4, pos := "law.go:56", after := #[{ on := 6, ground := Ground.data }, { on := 5, ground := Ground.chain }], guard := none }) (v := ?_) rfl (by kernel_rfl) (by kernel_rfl) (by kernel_rfl) (fun _ _ _ h => h) (Or.inl ⟨by rfl, ?_⟩) HHeld.out ?_
  rotate_left
  · intro w hSw; clear hSw; go_simp; try with_reducible rfl
  try simp only [Act.put, List.setIfInBounds_toArray, List.set_cons_zero, List.set_cons_succ]
  refine wpAnyH_take (i := 8) (oi := { dst := some 43, op := Op.load 28 (Operand.tmp 10), type := 28, pos := "law.go:56", after := #[{ on := 7, ground := Ground.guard }], guard := some (7, false) }) (v := (NV kd (.slice P2 n p2) (.slice J2 k j2) (.slice M2 (restL ps f t i ms).length m2) (.slice B2 0 b2) : Value)) rfl (by kernel_rfl) (by kernel_rfl) (by kernel_rfl) (fun _ _ _ h => h) (Or.inl ⟨by rfl, ?_⟩) HHeld.out ?_
  · intro V hV; have hc0 := (cells5 (hV.g 2 rfl)).1; have hc1 := (cells5 (hV.g 2 rfl)).2.1; have hc2 := (cells5 (hV.g 2 rfl)).2.2.1; have hc3 := (cells5 (hV.g 2 rfl)).2.2.2.1; have hc4 := (cells5 (hV.g 2 rfl)).2.2.2.2; clear hV; go_simp
  try simp only [Act.put, List.setIfInBounds_toArray, List.set_cons_zero, List.set_cons_succ]
  refine wpAnyH_take (i := 9) (oi := { dst := some 44, op := Op.load 28 (Operand.tmp 4), type := 28, pos := "law.go:56", after := #[{ on := 7, ground := Ground.guard }], guard := some (7, false) }) (v := (NV kd (.slice P n pc) (.slice J k kc) (.slice M m mc) (.slice B 0 bc) : Value)) rfl (by kernel_rfl) (by kernel_rfl) (by kernel_rfl) (fun _ _ _ h => h) (Or.inl ⟨by rfl, ?_⟩) HHeld.out ?_
  · intro V hV; have hc0 := (cells5 (hV.g 0 rfl)).1; have hc1 := (cells5 (hV.g 0 rfl)).2.1; have hc2 := (cells5 (hV.g 0 rfl)).2.2.1; have hc3 := (cells5 (hV.g 0 rfl)).2.2.2.1; have hc4 := (cells5 (hV.g 0 rfl)).2.2.2.2; clear hV; go_simp
  try simp only [Act.put, List.setIfInBounds_toArray, List.set_cons_zero, List.set_cons_succ]
  refine wpAnyH_take (i := 10) (oi := { dst := some 45, op := Op.load 28 (Operand.tmp 4), type := 28, pos := "law.go:56", after := #[{ on := 7, ground := Ground.guard }], guard := some (7, false) }) (v := (NV kd (.slice P n pc) (.slice J k kc) (.slice M m mc) (.slice B 0 bc) : Value)) rfl (by kernel_rfl) (by kernel_rfl) (by kernel_rfl) (fun _ _ _ h => h) (Or.inl ⟨by rfl, ?_⟩) HHeld.out ?_
  · intro V hV; have hc0 := (cells5 (hV.g 0 rfl)).1; have hc1 := (cells5 (hV.g 0 rfl)).2.1; have hc2 := (cells5 (hV.g 0 rfl)).2.2.1; have hc3 := (cells5 (hV.g 0 rfl)).2.2.2.1; have hc4 := (cells5 (hV.g 0 rfl)).2.2.2.2; clear hV; go_simp
  try simp only [Act.put, List.setIfInBounds_toArray, List.set_cons_zero, List.set_cons_succ]
  refine wpAnyH_take (i := 11) (oi := { dst := some 46, op := Op.load 30 (Operand.tmp 5), type := 30, pos := "law.go:56", after := #[{ on := 7, ground := Ground.guard }], guard := some (7, false) }) (v := (.agg #[.string f, .string t] : Value)) rfl (by kernel_rfl) (by kernel_rfl) (by kernel_rfl) (fun _ _ _ h => h) (Or.inl ⟨by rfl, ?_⟩) HHeld.out ?_
  · intro V hV; have hc0 := (has_two (hV.g 1 rfl)).1; have hc1 := (has_two (hV.g 1 rfl)).2.1; clear hV; go_simp
  try simp only [Act.put, List.setIfInBounds_toArray, List.set_cons_zero, List.set_cons_succ]
  refine wpAnyH_take (i := 12) (oi := { dst := some 47, op := Op.move (Operand.tmp 2), type := 3, pos := "law.go:56", after := #[{ on := 7, ground := Ground.guard }], guard := some (7, false) }) (v := ?_) rfl (by kernel_rfl) (by kernel_rfl) (by kernel_rfl) (fun _ _ _ h => h) (Or.inl ⟨by rfl, ?_⟩) HHeld.out ?_
  rotate_left
  · intro w hSw; clear hSw; go_simp; try with_reducible rfl
  try simp only [Act.put, List.setIfInBounds_toArray, List.set_cons_zero, List.set_cons_succ]
  refine wpAnyH_ready (rs := [13]) (by kernel_rfl) (by simp) ?_
  refine AllReadyH.cons (o := { dst := some 48, op := Op.call { callee := Callee.value (Operand.func 15), args := #[Operand.tmp 45, Operand.tmp 46, Operand.tmp 47], argTypes := #[28, 30, 3] }, type := 25, pos := "law.go:56", after := #[{ on := 10, ground := Ground.data }, { on := 11, ground := Ground.data }, { on := 12, ground := Ground.data }, { on := 7, ground := Ground.chain }, { on := 7, ground := Ground.guard }], guard := some (7, false) }) rfl (fun K hK => ?_) AllReadyH.nil
  go_simp
  go_at_call 15; ((with_reducible refine (F15.out _ HHeld.out.b).mono ?_); rintro e v13 ⟨⟨A6, q6, rfl, r6⟩, b13⟩; have K13 := Lib.hid (HHeld.out.later b13); have R6 := Lib.hid r6; clear r6; clear b13)
  refine hK.out _ _ ?_ (fun hHeld => ?_)
  · exact K13.out
  clear HHeld; have HHeld := Lib.hid hHeld; clear hHeld
  clear hK K
  try simp only [Act.put, List.setIfInBounds_toArray, List.set_cons_zero, List.set_cons_succ]
  refine wpAnyH_ready (rs := [14]) (by kernel_rfl) (by simp) ?_
  refine AllReadyH.cons (o := { dst := some 49, op := Op.call { callee := Callee.value (Operand.func 14), args := #[Operand.tmp 44, Operand.tmp 48], argTypes := #[28, 25] }, type := 28, pos := "law.go:56", after := #[{ on := 9, ground := Ground.data }, { on := 13, ground := Ground.data }, { on := 13, ground := Ground.chain }, { on := 7, ground := Ground.guard }], guard := some (7, false) }) rfl (fun K hK => ?_) AllReadyH.nil
  go_simp
  go_at_call 14; ((with_reducible refine (with_any kd P J M B A6 n pc k kc m mc 0 bc (restL ps f t i ms).length q6 _).mono ?_); rintro e v14 ⟨rfl, b14⟩; have K14 := Lib.hid (HHeld.out.later b14); replace R6 := Lib.hid (R6.out.later b14); clear b14)
  refine hK.out _ _ ?_ (fun hHeld => ?_)
  · exact K14.out
  clear HHeld; have HHeld := Lib.hid hHeld; clear hHeld
  clear hK K
  try simp only [Act.put, List.setIfInBounds_toArray, List.set_cons_zero, List.set_cons_succ]
  refine wpAnyH_ready (rs := [15]) (by kernel_rfl) (by simp) ?_
  refine AllReadyH.cons (o := { dst := some 50, op := Op.call { callee := Callee.value (Operand.func 13), args := #[Operand.tmp 43, Operand.tmp 49], argTypes := #[28, 28] }, type := 4, pos := "law.go:56", after := #[{ on := 8, ground := Ground.data }, { on := 14, ground := Ground.data }, { on := 14, ground := Ground.chain }, { on := 7, ground := Ground.guard }], guard := some (7, false) }) rfl (fun K hK => ?_) AllReadyH.nil
  go_simp
  go_at_call 13; ((with_reducible refine (F13.out A6 q6 _ HHeld.out.b R6.out).mono ?_); rintro e v15 ⟨rfl, b15⟩; have K15 := Lib.hid (HHeld.out.later b15); clear b15)
  refine hK.out _ _ ?_ (fun hHeld => ?_)
  · exact K15.out
  clear HHeld; have HHeld := Lib.hid hHeld; clear hHeld
  clear hK K
  try simp only [Act.put, List.setIfInBounds_toArray, List.set_cons_zero, List.set_cons_succ]
  refine wpAnyH_take (i := 16) (oi := { dst := some 51, op := Op.unOp UnOp.not 4 (Operand.tmp 50), type := 4, pos := "law.go:56", after := #[{ on := 15, ground := Ground.data }, { on := 7, ground := Ground.guard }], guard := some (7, false) }) (v := ?_) rfl (by kernel_rfl) (by kernel_rfl) (by kernel_rfl) (fun _ _ _ h => h) (Or.inl ⟨by rfl, ?_⟩) HHeld.out ?_
  rotate_left
  · intro w hSw; clear hSw; go_simp; try with_reducible rfl
  try simp only [Act.put, List.setIfInBounds_toArray, List.set_cons_zero, List.set_cons_succ]
  refine wpAnyH_take (i := 17) (oi := { dst := some 52, op := Op.pick (Operand.tmp 42) (Operand.const (Value.bool true)) (Operand.tmp 51), type := 4, pos := "law.go:56", after := #[{ on := 7, ground := Ground.data }, { on := 16, ground := Ground.data }], guard := none }) (v := ?_) rfl (by kernel_rfl) (by kernel_rfl) (by kernel_rfl) (fun _ _ _ h => h) (Or.inl ⟨by rfl, ?_⟩) HHeld.out ?_
  rotate_left
  · intro w hSw; clear hSw; go_simp; try with_reducible rfl
  try simp only [Act.put, List.setIfInBounds_toArray, List.set_cons_zero, List.set_cons_succ]
  refine wpAnyH_take (i := 18) (oi := { dst := some 53, op := Op.move (Operand.tmp 52), type := 4, pos := "law.go:56", after := #[{ on := 17, ground := Ground.data }, { on := 15, ground := Ground.chain }], guard := none }) (v := ?_) rfl (by kernel_rfl) (by kernel_rfl) (by kernel_rfl) (fun _ _ _ h => h) (Or.inl ⟨by rfl, ?_⟩) HHeld.out ?_
  rotate_left
  · intro w hSw; clear hSw; go_simp; try with_reducible rfl
  try simp only [Act.put, List.setIfInBounds_toArray, List.set_cons_zero, List.set_cons_succ]
  refine wpAnyH_take (i := 19) (oi := { dst := some 54, op := Op.load 28 (Operand.tmp 10), type := 28, pos := "law.go:56", after := #[{ on := 18, ground := Ground.guard }], guard := some (18, false) }) (v := (NV kd (.slice P2 n p2) (.slice J2 k j2) (.slice M2 (restL ps f t i ms).length m2) (.slice B2 0 b2) : Value)) rfl (by kernel_rfl) (by kernel_rfl) (by kernel_rfl) (fun _ _ _ h => h) (Or.inl ⟨by rfl, ?_⟩) HHeld.out ?_
  · intro V hV; have hc0 := (cells5 (hV.g 2 rfl)).1; have hc1 := (cells5 (hV.g 2 rfl)).2.1; have hc2 := (cells5 (hV.g 2 rfl)).2.2.1; have hc3 := (cells5 (hV.g 2 rfl)).2.2.2.1; have hc4 := (cells5 (hV.g 2 rfl)).2.2.2.2; clear hV; go_simp
  try simp only [Act.put, List.setIfInBounds_toArray, List.set_cons_zero, List.set_cons_succ]
  refine wpAnyH_take (i := 20) (oi := { dst := some 55, op := Op.load 30 (Operand.tmp 5), type := 30, pos := "law.go:56", after := #[{ on := 18, ground := Ground.guard }], guard := some (18, false) }) (v := (.agg #[.string f, .string t] : Value)) rfl (by kernel_rfl) (by kernel_rfl) (by kernel_rfl) (fun _ _ _ h => h) (Or.inl ⟨by rfl, ?_⟩) HHeld.out ?_
  · intro V hV; have hc0 := (has_two (hV.g 1 rfl)).1; have hc1 := (has_two (hV.g 1 rfl)).2.1; clear hV; go_simp
  try simp only [Act.put, List.setIfInBounds_toArray, List.set_cons_zero, List.set_cons_succ]
  refine wpAnyH_ready (rs := [21]) (by kernel_rfl) (by simp) ?_
  refine AllReadyH.cons (o := { dst := some 56, op := Op.call { callee := Callee.value (Operand.func 16), args := #[Operand.tmp 54, Operand.tmp 55], argTypes := #[28, 30] }, type := 4, pos := "law.go:56", after := #[{ on := 19, ground := Ground.data }, { on := 20, ground := Ground.data }, { on := 18, ground := Ground.chain }, { on := 18, ground := Ground.guard }], guard := some (18, false) }) rfl (fun K hK => ?_) AllReadyH.nil
  go_simp
  go_at_call 16; ((with_reducible refine (F16.out _ HHeld.out.b).mono ?_); rintro e v21 ⟨rfl, b21⟩; have K21 := Lib.hid (HHeld.out.later b21); clear b21)
  refine hK.out _ _ ?_ (fun hHeld => ?_)
  · exact K21.out
  clear HHeld; have HHeld := Lib.hid hHeld; clear hHeld
  clear hK K
  try simp only [Act.put, List.setIfInBounds_toArray, List.set_cons_zero, List.set_cons_succ]
  refine wpAnyH_take (i := 22) (oi := { dst := some 57, op := Op.unOp UnOp.not 4 (Operand.tmp 56), type := 4, pos := "law.go:56", after := #[{ on := 21, ground := Ground.data }, { on := 18, ground := Ground.guard }], guard := some (18, false) }) (v := ?_) rfl (by kernel_rfl) (by kernel_rfl) (by kernel_rfl) (fun _ _ _ h => h) (Or.inl ⟨by rfl, ?_⟩) HHeld.out ?_
  rotate_left
  · intro w hSw; clear hSw; go_simp; try with_reducible rfl
  try simp only [Act.put, List.setIfInBounds_toArray, List.set_cons_zero, List.set_cons_succ]
  refine wpAnyH_take (i := 23) (oi := { dst := some 58, op := Op.pick (Operand.tmp 53) (Operand.const (Value.bool true)) (Operand.tmp 57), type := 4, pos := "law.go:56", after := #[{ on := 18, ground := Ground.data }, { on := 22, ground := Ground.data }], guard := none }) (v := ?_) rfl (by kernel_rfl) (by kernel_rfl) (by kernel_rfl) (fun _ _ _ h => h) (Or.inl ⟨by rfl, ?_⟩) HHeld.out ?_
  rotate_left
  · intro w hSw; clear hSw; go_simp; try with_reducible rfl
  try simp only [Act.put, List.setIfInBounds_toArray, List.set_cons_zero, List.set_cons_succ]
  refine wpAnyH_done (by kernel_rfl) ?_ _
  have H5 := Lib.hid HHeld.out.b
  have Z5 := Lib.hid (HHeld.out.g 0 rfl)
  have Y5 := Lib.hid (HHeld.out.g 1 rfl)
  have X5 := Lib.hid (HHeld.out.g 2 rfl)
  clear HHeld K4 K5 K13 K14 K15 K21 R5 R6 F12 F15 F13 F16
  obtain ⟨c0, c1, c2, c3, c4⟩ := cells5 Z5.out
  obtain ⟨d0, d1, -, -⟩ := has_two Y5.out
  have HH5 := Lib.hid (bel_trans H0.out H5.out)
  go_upto_region 8 with (first
    | (go_at_call 17; ((with_reducible refine (AA.out _ HH5.out).mono ?_); rintro e w7 ⟨P3, p3, J3, j3, M3, m3, B3, b3, rfl, r1, r2, r3, b7⟩; have R1 := Lib.hid r1.rd; have R2 := Lib.hid r2.rd; replace H5 := Lib.hid (bel_trans H5.out b7); replace Z5 := Lib.hid (keep_bel b7 Z5.out); replace Y5 := Lib.hid (keep_bel b7 Y5.out); replace X5 := Lib.hid (keep_bel b7 X5.out); clear b7 r1 r2 r3 c0 c1 c2 c3 c4 d0 d1))
    | fail)
  have AL7 := alb w7 (NO kd (.slice P3 n p3) (.slice J3 k j3) (.slice M3 (m + q0) m3) (.slice B3 0 b3))
  obtain ⟨W7, hW7⟩ : ∃ W7, W7 = w7.alloc (NO kd (.slice P3 n p3) (.slice J3 k j3) (.slice M3 (m + q0) m3) (.slice B3 0 b3)) := ⟨_, rfl⟩
  have X7 := Lib.hid (show W7.heap[w7.heap.size]? = some (NO kd (.slice P3 n p3) (.slice J3 k j3) (.slice M3 (m + q0) m3) (.slice B3 0 b3)) by rw [hW7]; exact heap_alloc_new _ _)
  rw [← hW7] at AL7 ⊢
  replace H5 := Lib.hid (bel_trans H5.out AL7)
  replace Z5 := Lib.hid (keep_bel AL7 Z5.out)
  replace Y5 := Lib.hid (keep_bel AL7 Y5.out)
  replace X5 := Lib.hid (keep_bel AL7 X5.out)
  replace R1 := Lib.hid (R1.out.later AL7)
  replace R2 := Lib.hid (R2.out.later AL7)
  clear AL7 hW7
  replace HH5 := Lib.hid (bel_trans H0.out H5.out)
  obtain ⟨c0, c1, c2, c3, c4⟩ := cells5 Z5.out
  have HB8 := Lib.hid (alb W7 (.cells #[] 62 (0, 0)))
  have HR8 := Lib.hid ((RE.Row.nil : EG.Row (W7.alloc (.cells #[] 62 (0, 0))) W7.heap.size (some ⟨W7.heap.size, 0, none⟩) [] 0))
  have MM8 := Lib.hid (MM.out _ (bel_trans HH5.out HB8.out))
  have HSZ : Hid (W7.heap.size ≤ (W7.alloc (.cells #[] 62 (0, 0))).heap.size) := Lib.hid HB8.out.size
  replace c3 : (W7.alloc (.cells #[] 62 (0, 0))).cell? ⟨w.heap.size, 3, none⟩ = some (.slice M m mc) := (cells5 (keep_bel HB8.out Z5.out)).2.2.2.1
  go_upto_region 9 with (first
    | (at_builtin; refine RE.wpList_put EG _ rfl (.tmp 62) (.tmp 64) rfl (base := W7.heap.size) (some ⟨W7.heap.size, 0, none⟩) 0 0 [] M m mc ms rfl rfl HR8.out rfl (by omega) HSZ.out HML.out (by have := HM30.out; omega) MM8.out ?_; intro A8 k8 w8 r1 r2 r3; have R8 := Lib.hid r1; have BX := Lib.hid (HB8.out.trans (RE.Row.below r2 HR8.out (Nat.le_refl _) HSZ.out)); clear r1 r2 r3 c0 c1 c2 c3 c4)
    | (at_builtin; refine RE.wpList_put EG _ rfl (.tmp 65) (.tmp 66) rfl (base := W7.heap.size) A8 m k8 ([] ++ ms) L q0 lc ys rfl rfl R8.out (by simpa using HML.out) (by have := HM30.out; omega) BX.out.size HYL.out (by omega) (YY.out _ (bel_trans HH5.out BX.out)) ?_; intro A9 k9 w9 r1 r2 r3; have B9 := Lib.hid (BX.out.trans (RE.Row.below r2 R8.out (Nat.le_refl _) BX.out.size)); clear r1 r2 r3)
    | fail)
  obtain ⟨W9, hW9⟩ : ∃ W9, W9 = w9 := ⟨_, rfl⟩
  rw [← hW9] at B9 ⊢
  clear hW9
  replace H5 := Lib.hid (bel_trans H5.out B9.out)
  replace Z5 := Lib.hid (keep_bel B9.out Z5.out)
  replace Y5 := Lib.hid (keep_bel B9.out Y5.out)
  replace X5 := Lib.hid (keep_bel B9.out X5.out)
  replace X7 := Lib.hid (keep_bel B9.out X7.out)
  replace R1 := Lib.hid (R1.out.later B9.out)
  replace R2 := Lib.hid (R2.out.later B9.out)
  replace HH5 := Lib.hid (bel_trans H0.out H5.out)
  have G13 := Lib.hid (fun V (h : Below W9.heap.size W9 V) => SM.out P3 J3 B3 M M p3 j3 mc b3 mc m ms V (bel_trans HH5.out h) HML.out (by have := HM30.out; omega) (R1.out.later h) (R2.out.later h) (MM.out _ (bel_trans HH5.out h)) (MM.out _ (bel_trans HH5.out h)))
  have QSX := Lib.hid (show ∀ p ∈ ([(w.heap.size, (NO kd (.slice P n pc) (.slice J k kc) (.slice M m mc) (.slice B 0 bc))), (w.heap.size + 1, rgc f t), (w3.heap.size, (NO kd (.slice P2 n p2) (.slice J2 k j2) (.slice M2 (restL ps f t i ms).length m2) (.slice B2 0 b2))), (w7.heap.size, (NO kd (.slice P3 n p3) (.slice J3 k j3) (.slice M3 (m + q0) m3) (.slice B3 0 b3)))] : List (Nat × Obj)), W9.heap[p.1]? = some p.2 by
    intro p hp
    simp only [List.mem_cons, List.not_mem_nil, or_false] at hp
    rcases hp with rfl | rfl | rfl | rfl
    · exact Z5.out
    · exact Y5.out
    · exact X5.out
    · exact X7.out)
  have hmq : ((m + q0 : Nat) : Int) = (m : Int) + (q0 : Int) := by omega
  refine wp_region_held_drew (S := (SK W9 [(w.heap.size, (NO kd (.slice P n pc) (.slice J k kc) (.slice M m mc) (.slice B 0 bc))), (w.heap.size + 1, rgc f t), (w3.heap.size, (NO kd (.slice P2 n p2) (.slice J2 k j2) (.slice M2 (restL ps f t i ms).length m2) (.slice B2 0 b2))), (w7.heap.size, (NO kd (.slice P3 n p3) (.slice J3 k j3) (.slice M3 (m + q0) m3) (.slice B3 0 b3)))])) (by kernel_rfl) ?_ (fun hHeld => ?_)
  · exact SK.start QSX.out
  have HHeld := Lib.hid hHeld; clear hHeld
  refine wpAnyH_take (i := 0) (oi := { dst := some 68, op := Op.fieldAddr 28 (Operand.tmp 11) 3, type := 0, pos := "law.go:61", after := #[], guard := none }) (v := ?_) rfl (by kernel_rfl) (by kernel_rfl) (by kernel_rfl) (fun _ _ _ h => h) (Or.inl ⟨by rfl, ?_⟩) HHeld.out ?_
  rotate_left
  · intro w hSw; clear hSw; go_simp; try with_reducible rfl
  try simp only [Act.put, List.setIfInBounds_toArray, List.set_cons_zero, List.set_cons_succ]
  refine wpAnyH_take (i := 1) (oi := { dst := some 69, op := Op.load 25 (Operand.tmp 68), type := 25, pos := "law.go:61", after := #[{ on := 0, ground := Ground.data }], guard := none }) (v := (.slice M3 (m + q0) m3 : Value)) rfl (by kernel_rfl) (by kernel_rfl) (by kernel_rfl) (fun _ _ _ h => h) (Or.inl ⟨by rfl, ?_⟩) HHeld.out ?_
  · intro V hV; have hc0 := (cells5 (hV.g 3 rfl)).2.2.2.1; clear hV; go_simp
  try simp only [Act.put, List.setIfInBounds_toArray, List.set_cons_zero, List.set_cons_succ]
  refine wpAnyH_take (i := 2) (oi := { dst := some 70, op := Op.call { callee := Callee.builtin Builtin.len, args := #[Operand.tmp 69], argTypes := #[25] }, type := 3, pos := "law.go:61", after := #[{ on := 1, ground := Ground.data }], guard := none }) (v := ?_) rfl (by kernel_rfl) (by kernel_rfl) (by kernel_rfl) (fun _ _ _ h => h) (Or.inl ⟨by rfl, ?_⟩) HHeld.out ?_
  rotate_left
  · intro w hSw; clear hSw; go_simp; try with_reducible rfl
  try simp only [Act.put, List.setIfInBounds_toArray, List.set_cons_zero, List.set_cons_succ]
  refine wpAnyH_take (i := 3) (oi := { dst := some 71, op := Op.move (Operand.tmp 12), type := 25, pos := "law.go:61", after := #[], guard := none }) (v := ?_) rfl (by kernel_rfl) (by kernel_rfl) (by kernel_rfl) (fun _ _ _ h => h) (Or.inl ⟨by rfl, ?_⟩) HHeld.out ?_
  rotate_left
  · intro w hSw; clear hSw; go_simp; try with_reducible rfl
  try simp only [Act.put, List.setIfInBounds_toArray, List.set_cons_zero, List.set_cons_succ]
  refine wpAnyH_take (i := 4) (oi := { dst := some 72, op := Op.call { callee := Callee.builtin Builtin.len, args := #[Operand.tmp 71], argTypes := #[25] }, type := 3, pos := "law.go:61", after := #[{ on := 3, ground := Ground.data }], guard := none }) (v := ?_) rfl (by kernel_rfl) (by kernel_rfl) (by kernel_rfl) (fun _ _ _ h => h) (Or.inl ⟨by rfl, ?_⟩) HHeld.out ?_
  rotate_left
  · intro w hSw; clear hSw; go_simp; try with_reducible rfl
  try simp only [Act.put, List.setIfInBounds_toArray, List.set_cons_zero, List.set_cons_succ]
  refine wpAnyH_take (i := 5) (oi := { dst := some 73, op := Op.binOp BinOp.neq 3 (Operand.tmp 70) (Operand.tmp 72) 3, type := 4, pos := "law.go:61", after := #[{ on := 2, ground := Ground.data }, { on := 4, ground := Ground.data }], guard := none }) (v := ?_) rfl (by kernel_rfl) (by kernel_rfl) (by kernel_rfl) (fun _ _ _ h => h) (Or.inl ⟨by rfl, ?_⟩) HHeld.out ?_
  rotate_left
  · intro w hSw; clear hSw; go_simp; try with_reducible rfl
  try simp only [Act.put, List.setIfInBounds_toArray, List.set_cons_zero, List.set_cons_succ]
  refine wpAnyH_take (i := 6) (oi := { dst := some 74, op := Op.move (Operand.tmp 73), type := 4, pos := "law.go:61", after := #[{ on := 5, ground := Ground.data }], guard := none }) (v := ?_) rfl (by kernel_rfl) (by kernel_rfl) (by kernel_rfl) (fun _ _ _ h => h) (Or.inl ⟨by rfl, ?_⟩) HHeld.out ?_
  rotate_left
  · intro w hSw; clear hSw; go_simp; try with_reducible rfl
  try simp only [Act.put, List.setIfInBounds_toArray, List.set_cons_zero, List.set_cons_succ]
  refine wpAnyH_take (i := 7) (oi := { dst := some 75, op := Op.load 28 (Operand.tmp 11), type := 28, pos := "law.go:61", after := #[{ on := 6, ground := Ground.guard }], guard := some (6, false) }) (v := (NV kd (.slice P3 n p3) (.slice J3 k j3) (.slice M3 (m + q0) m3) (.slice B3 0 b3) : Value)) rfl (by kernel_rfl) (by kernel_rfl) (by kernel_rfl) (fun _ _ _ h => h) (Or.inl ⟨by rfl, ?_⟩) HHeld.out ?_
  · intro V hV; have hc0 := (cells5 (hV.g 3 rfl)).1; have hc1 := (cells5 (hV.g 3 rfl)).2.1; have hc2 := (cells5 (hV.g 3 rfl)).2.2.1; have hc3 := (cells5 (hV.g 3 rfl)).2.2.2.1; have hc4 := (cells5 (hV.g 3 rfl)).2.2.2.2; clear hV; go_simp
  try simp only [Act.put, List.setIfInBounds_toArray, List.set_cons_zero, List.set_cons_succ]
  refine wpAnyH_take (i := 8) (oi := { dst := some 76, op := Op.fieldAddr 28 (Operand.tmp 4) 3, type := 0, pos := "law.go:61", after := #[{ on := 6, ground := Ground.guard }], guard := some (6, false) }) (v := ?_) rfl (by kernel_rfl) (by kernel_rfl) (by kernel_rfl) (fun _ _ _ h => h) (Or.inl ⟨by rfl, ?_⟩) HHeld.out ?_
  rotate_left
  · intro w hSw; clear hSw; go_simp; try with_reducible rfl
  try simp only [Act.put, List.setIfInBounds_toArray, List.set_cons_zero, List.set_cons_succ]
  refine wpAnyH_take (i := 9) (oi := { dst := some 77, op := Op.load 25 (Operand.tmp 76), type := 25, pos := "law.go:61", after := #[{ on := 8, ground := Ground.data }, { on := 6, ground := Ground.guard }], guard := some (6, false) }) (v := (.slice M m mc : Value)) rfl (by kernel_rfl) (by kernel_rfl) (by kernel_rfl) (fun _ _ _ h => h) (Or.inl ⟨by rfl, ?_⟩) HHeld.out ?_
  · intro V hV; have hc0 := (cells5 (hV.g 0 rfl)).2.2.2.1; clear hV; go_simp
  try simp only [Act.put, List.setIfInBounds_toArray, List.set_cons_zero, List.set_cons_succ]
  refine wpAnyH_take (i := 11) (oi := { dst := some 79, op := Op.load 28 (Operand.tmp 4), type := 28, pos := "law.go:61", after := #[{ on := 6, ground := Ground.guard }], guard := some (6, false) }) (v := (NV kd (.slice P n pc) (.slice J k kc) (.slice M m mc) (.slice B 0 bc) : Value)) rfl (by kernel_rfl) (by kernel_rfl) (by kernel_rfl) (fun _ _ _ h => h) (Or.inl ⟨by rfl, ?_⟩) HHeld.out ?_
  · intro V hV; have hc0 := (cells5 (hV.g 0 rfl)).1; have hc1 := (cells5 (hV.g 0 rfl)).2.1; have hc2 := (cells5 (hV.g 0 rfl)).2.2.1; have hc3 := (cells5 (hV.g 0 rfl)).2.2.2.1; have hc4 := (cells5 (hV.g 0 rfl)).2.2.2.2; clear hV; go_simp
  try simp only [Act.put, List.setIfInBounds_toArray, List.set_cons_zero, List.set_cons_succ]
  refine wpAnyH_ready (rs := [10]) (by kernel_rfl) (by simp) ?_
  refine AllReadyH.cons (o := { dst := some 78, op := Op.call { callee := Callee.value (Operand.func 14), args := #[Operand.tmp 75, Operand.tmp 77], argTypes := #[28, 25] }, type := 28, pos := "law.go:61", after := #[{ on := 7, ground := Ground.data }, { on := 9, ground := Ground.data }, { on := 6, ground := Ground.chain }, { on := 6, ground := Ground.guard }], guard := some (6, false) }) rfl (fun K hK => ?_) AllReadyH.nil
  go_simp
  go_at_call 14; ((with_reducible refine (with_any kd P3 J3 M3 B3 M n p3 k j3 (m + q0) m3 0 b3 m mc _).mono ?_); rintro e v10 ⟨rfl, b10⟩; have K10 := Lib.hid (HHeld.out.later b10); clear b10)
  refine hK.out _ _ ?_ (fun hHeld => ?_)
  · exact K10.out
  clear HHeld; have HHeld := Lib.hid hHeld; clear hHeld
  clear hK K
  try simp only [Act.put, List.setIfInBounds_toArray, List.set_cons_zero, List.set_cons_succ]
  refine wpAnyH_ready (rs := [12]) (by kernel_rfl) (by simp) ?_
  refine AllReadyH.cons (o := { dst := some 80, op := Op.call { callee := Callee.value (Operand.func 13), args := #[Operand.tmp 78, Operand.tmp 79], argTypes := #[28, 28] }, type := 4, pos := "law.go:61", after := #[{ on := 10, ground := Ground.data }, { on := 11, ground := Ground.data }, { on := 10, ground := Ground.chain }, { on := 6, ground := Ground.guard }], guard := some (6, false) }) rfl (fun K hK => ?_) AllReadyH.nil
  go_simp
  go_at_call 13; ((with_reducible refine (G13.out _ HHeld.out.b).mono ?_); rintro e v12 ⟨rfl, b12⟩; have K12 := Lib.hid (HHeld.out.later b12); clear b12)
  refine hK.out _ _ ?_ (fun hHeld => ?_)
  · exact K12.out
  clear HHeld; have HHeld := Lib.hid hHeld; clear hHeld
  clear hK K
  try simp only [Act.put, List.setIfInBounds_toArray, List.set_cons_zero, List.set_cons_succ]
  refine wpAnyH_take (i := 13) (oi := { dst := some 81, op := Op.unOp UnOp.not 4 (Operand.tmp 80), type := 4, pos := "law.go:61", after := #[{ on := 12, ground := Ground.data }, { on := 6, ground := Ground.guard }], guard := some (6, false) }) (v := ?_) rfl (by kernel_rfl) (by kernel_rfl) (by kernel_rfl) (fun _ _ _ h => h) (Or.inl ⟨by rfl, ?_⟩) HHeld.out ?_
  rotate_left
  · intro w hSw; clear hSw; go_simp; try with_reducible rfl
  try simp only [Act.put, List.setIfInBounds_toArray, List.set_cons_zero, List.set_cons_succ]
  refine wpAnyH_take (i := 14) (oi := { dst := some 82, op := Op.pick (Operand.tmp 74) (Operand.const (Value.bool true)) (Operand.tmp 81), type := 4, pos := "law.go:61", after := #[{ on := 6, ground := Ground.data }, { on := 13, ground := Ground.data }], guard := none }) (v := ?_) rfl (by kernel_rfl) (by kernel_rfl) (by kernel_rfl) (fun _ _ _ h => h) (Or.inl ⟨by rfl, ?_⟩) HHeld.out ?_
  rotate_left
  · intro w hSw; clear hSw; go_simp; try with_reducible rfl
  try simp only [Act.put, List.setIfInBounds_toArray, List.set_cons_zero, List.set_cons_succ]
  refine wpAnyH_done (by kernel_rfl) ?_ _
  have H9 := Lib.hid HHeld.out.b
  have Y9 := Lib.hid (HHeld.out.g 1 rfl)
  have X9 := Lib.hid (HHeld.out.g 2 rfl)
  clear HHeld K10 K12
  replace H9 := Lib.hid (bel_trans H5.out H9.out)
  obtain ⟨c0, c1, c2, c3, c4⟩ := cells5 X9.out
  obtain ⟨d0, d1, -, -⟩ := has_two Y9.out
  go_wp2_with (first
    | (go_at_call 9; ((with_reducible refine (live_true _).mono ?_); rintro e wa ⟨rfl, ba⟩; replace H9 := Lib.hid (bel_trans H9.out ba); replace Y9 := Lib.hid (keep_bel ba Y9.out); replace X9 := Lib.hid (keep_bel ba X9.out); clear ba c0 c1 c2 c3 c4 d0 d1; obtain ⟨c0, c1, c2, c3, c4⟩ := cells5 X9.out; obtain ⟨d0, d1, -, -⟩ := has_two Y9.out))
    | (go_at_call 18; ((with_reducible refine (F18.out _ H9.out).mono ?_); rintro e wb ⟨⟨Ab, cb, rfl⟩, bb⟩; replace H9 := Lib.hid (bel_trans H9.out bb); clear bb c0 c1 c2 c3 c4 d0 d1))
    | fail)
  go_ret
  exact ⟨rfl, bel_trans H0.out H9.out⟩
set_option maxRecDepth 100000 in
set_option maxHeartbeats 8000000 in
theorem takes_hi (kd : Int) (P J M B L : Option Addr) (n pc k kc m mc bc q0 lc : Nat) (ps : List ByteArray) (ks : List Int) (ms ys : List MG) (f t : ByteArray) (i : Int) (w : World) (hl : ps.length = n) (hP : Pv.RdS w P ps) (hkl : ks.length = k) (hJ : EI.Rd w J ks) (hx : ∀ x ∈ ks, (Lit.int .i64 x).wf = true) (hm : ms.length = m) (hM : EG.Rd w M ms) (ho : OkA ms)
    (hps : ∀ x ∈ ps, SzOk x) (hf : SzOk f) (ht : SzOk t) (hs : smallB n k m 0 = true) (hr : RN kd n k 0 ps ks ms f t) (hq : ¬ q0 ≤ 10) (hql : q0 ≤ lc) (hlc : lc ≤ maxLen) (hy : ys.length = 10) (hY : EG.Rd w L ys) :
    Calls Try.prog 3 #[NV kd (.slice P n pc) (.slice J k kc) (.slice M m mc) (.slice B 0 bc), .agg #[.string f, .string t], .int .i64 i, .slice L q0 lc] w fun e w' => e = .returned (.bool true) ∧ Below w.heap.size w w' := by
  obtain ⟨s1, s2, s3, -⟩ := small_yes hs
  have hk := hr.hk
  have hq10 : 10 ≤ 10 := by omega
  have hqI : ¬ (q0 : Int) ≤ 10 := by omega
  have hmin : min (q0 : Int) 10 = (10 : Int) := by omega
  have hq1 : (10 : Int) ≤ (lc : Int) := by omega
  have hq2 : (0 : Int) ≤ (10 : Int) := by omega
  have hq3 : 10 ≤ lc := by omega
  have KN : (kidL ps f t i ms).length ≤ 1000 := by have := kidL_len ps f t i ms; omega
  have RL : (restL ps f t i ms).length ≤ 60 := by have := restL_len ps f t i ms; omega
  have OR := restL_ok hps hf ht i ho
  have RR0 := rest_rn hr i
  have SA : Hid (∀ W, Calls Try.prog 7 #[NV kd (.slice P n pc) (.slice J k kc) (.slice M m mc) (.slice B 0 bc)] W fun e w' => e = .returned (.bool true) ∧ Below W.heap.size W w') := Lib.hid (fun W => by
    have q := small_any kd P J M B n pc k kc m mc 0 bc W
    rw [hs] at q; exact q)
  have RA : Hid (∀ W, Below w.heap.size w W → Calls Try.prog 8 #[NV kd (.slice P n pc) (.slice J k kc) (.slice M m mc) (.slice B 0 bc), .agg #[.string f, .string t]] W fun e w' => e = .returned (.bool true) ∧ Below W.heap.size W w') := Lib.hid (fun W h => by
    have q := rright14 kd P J M B n pc k kc m mc 0 bc ps ks ms f t W hl (by omega) (Rd.later hP h) hkl (by omega) (hJ.later h) hm (by omega) (hM.later h) ho
    rw [rnB_iff.2 hr] at q; exact q)
  have TA := Lib.hid (fun W (h : Below w.heap.size w W) => itake_any kd P J M B n pc k kc m mc bc ps ks ms f t i W hl (by omega) (Rd.later hP h) hkl hk (hJ.later h) hm (by omega) (hM.later h) ho)
  have FA := Lib.hid (fun W (h : Below w.heap.size w W) => rfor14 kd P J M B n pc k kc m mc 0 bc ps ms f t i W hl (by omega) (Rd.later hP h) hr.hps hm (by omega) (hM.later h) hr.hms)
  have GA := Lib.hid (fun W (h : Below w.heap.size w W) => rrest14 kd P J M B n pc k kc m mc 0 bc ps ms f t i W hl (by omega) (Rd.later hP h) hr.hps hm (by omega) (hM.later h) hr.hms)
  have SM := Lib.hid (fun (P2 J2 B2 A2 M2 : Option Addr) (p2 j2 m2 b2 c2 l : Nat) (L2 : List MG) W (h : Below w.heap.size w W) (hl2 : L2.length = l) (hl3 : l ≤ 1000) (h1 : ES.Rd W P2 ps) (h2 : EI.Rd W J2 ks) (h3 : EG.Rd W M2 L2) (h4 : EG.Rd W A2 L2) => same14 kd P2 J2 M2 B2 P J A2 B n k l p2 j2 m2 b2 pc kc c2 bc ps ks L2 W hl (by omega) hkl (by omega) hl2 hl3 h1 (es_rd.2 (Rd.later hP h)) h2 (hJ.later h) h3 h4)
  have IR := Lib.hid (fun (P2 J2 M2 B2 : Option Addr) (p2 j2 m2 b2 : Nat) W (h1 : ES.Rd W P2 ps) (h2 : EI.Rd W J2 ks) (h3 : EG.Rd W M2 (restL ps f t i ms)) => iright_true kd P2 J2 M2 B2 n p2 k j2 (restL ps f t i ms).length m2 0 b2 ps ks (restL ps f t i ms) f t W hl (by omega) (es_rd.1 h1) hkl h2 hx rfl (by omega) h3 OR RR0)
  have IF := Lib.hid (fun (P2 J2 M2 B2 : Option Addr) (p2 j2 m2 b2 : Nat) W (h1 : ES.Rd W P2 ps) (h3 : EG.Rd W M2 (restL ps f t i ms)) => show Calls Try.prog 18 #[NV kd (.slice P2 n p2) (.slice J2 k j2) (.slice M2 (restL ps f t i ms).length m2) (.slice B2 0 b2), .agg #[.string f, .string t], .int .i64 i] W fun r w' => (∃ A' c', r = .returned (.slice A' 0 c')) ∧ Below W.heap.size W w' from by
    have q := ifor_any kd P2 J2 M2 B2 n p2 k j2 (restL ps f t i ms).length m2 0 b2 ps (restL ps f t i ms) f t i W hl (by omega) (es_rd.1 h1) hk rfl (by omega) h3 OR
    rw [kid_rest] at q
    exact q.mono (fun e w1 h => ⟨⟨_, _, h.1.choose_spec.choose_spec.1⟩, h.2⟩))
  have AA := Lib.hid (fun W (h : Below w.heap.size w W) => iadd_any kd P J M B L n pc k kc m mc bc 10 lc ps ks ms ys W hl (by omega) hkl (by omega) hm (by omega) hy (by omega) (es_rd.2 (Rd.later hP h)) (hJ.later h) (hM.later h) (hY.later h))
  have MM := Lib.hid (fun W (h : Below w.heap.size w W) => hM.later h)
  have YY := Lib.hid (fun W (h : Below w.heap.size w W) => hY.later h)
  have HML := Lib.hid hm
  have HYL := Lib.hid hy
  have HKN := Lib.hid KN
  have HRL := Lib.hid RL
  have HSL := Lib.hid (show (stab (ms ++ ys)).length = m + 10 by rw [stab_len, List.length_append, hm, hy])
  have HM30 := Lib.hid s3
  have y1 := two_new w (NO kd (.slice P n pc) (.slice J k kc) (.slice M m mc) (.slice B 0 bc)) (rgc f t)
  have H0 := Lib.hid (bel_alloc (alb w (NO kd (.slice P n pc) (.slice J k kc) (.slice M m mc) (.slice B 0 bc))) (rgc f t))
  have Z := Lib.hid y1.1
  have Y := Lib.hid y1.2
  clear y1 hl hP hkl hJ hx hm hM ho hps hf ht hs hr hk hq hql hlc hy hY KN RL OR RR0 s1 s2 s3
  obtain ⟨c0, c1, c2, c3, c4⟩ := cells5 Z.out
  obtain ⟨d0, d1, -, -⟩ := has_two Y.out
  go_enter Try.func3, Try.ntmps3
  go_upto_region 5 with (first
    | (go_at_call 7; ((with_reducible refine (SA.out _).mono ?_); rintro e w1 ⟨rfl, b1⟩; replace H0 := Lib.hid (bel_trans H0.out b1); replace Z := Lib.hid (keep_bel b1 Z.out); replace Y := Lib.hid (keep_bel b1 Y.out); clear b1 c0 c1 c2 c3 c4 d0 d1; obtain ⟨c0, c1, c2, c3, c4⟩ := cells5 Z.out; obtain ⟨d0, d1, -, -⟩ := has_two Y.out))
    | (go_at_call 8; ((with_reducible refine (RA.out _ H0.out).mono ?_); rintro e w2 ⟨rfl, b2⟩; replace H0 := Lib.hid (bel_trans H0.out b2); replace Z := Lib.hid (keep_bel b2 Z.out); replace Y := Lib.hid (keep_bel b2 Y.out); clear b2 c0 c1 c2 c3 c4 d0 d1; obtain ⟨c0, c1, c2, c3, c4⟩ := cells5 Z.out; obtain ⟨d0, d1, -, -⟩ := has_two Y.out))
    | (go_at_call 10; ((with_reducible refine (TA.out _ H0.out).mono ?_); rintro e w3 ⟨T, tc, P2, p2, J2, j2, M2, m2, B2, b2, rfl, rt, rr, b3⟩; have RT := Lib.hid rt.rd; have RR := Lib.hid rr; replace H0 := Lib.hid (bel_trans H0.out b3); replace Z := Lib.hid (keep_bel b3 Z.out); replace Y := Lib.hid (keep_bel b3 Y.out); clear b3 rt rr c0 c1 c2 c3 c4 d0 d1))
    | fail)
  have AL4 := alb w3 (NO kd (.slice P2 n p2) (.slice J2 k j2) (.slice M2 (restL ps f t i ms).length m2) (.slice B2 0 b2))
  obtain ⟨W4, hW4⟩ : ∃ W4, W4 = w3.alloc (NO kd (.slice P2 n p2) (.slice J2 k j2) (.slice M2 (restL ps f t i ms).length m2) (.slice B2 0 b2)) := ⟨_, rfl⟩
  have X := Lib.hid (show W4.heap[w3.heap.size]? = some (NO kd (.slice P2 n p2) (.slice J2 k j2) (.slice M2 (restL ps f t i ms).length m2) (.slice B2 0 b2)) by rw [hW4]; exact heap_alloc_new _ _)
  rw [← hW4] at AL4 ⊢
  replace H0 := Lib.hid (bel_trans H0.out AL4)
  replace Z := Lib.hid (keep_bel AL4 Z.out)
  replace Y := Lib.hid (keep_bel AL4 Y.out)
  replace RT := Lib.hid (RT.out.later AL4)
  replace RR := Lib.hid (RR.out.later AL4)
  clear AL4 hW4
  have HT := Lib.hid (fun V (h : Below W4.heap.size W4 V) => RT.out.later h)
  have HRR := Lib.hid (fun V (h : Below W4.heap.size W4 V) => RR.out.later h)
  have F12 := Lib.hid (fun V (h : Below W4.heap.size W4 V) => FA.out V (bel_trans H0.out h))
  have F15 := Lib.hid (fun V (h : Below W4.heap.size W4 V) => GA.out V (bel_trans H0.out h))
  unfold RowsOf at F12 F15
  have F13 := Lib.hid (fun A6 q6 V (h : Below W4.heap.size W4 V) (h4 : EG.Rd V A6 (restL ps f t i ms)) => SM.out P2 J2 B2 A6 M2 p2 j2 m2 b2 q6 _ (restL ps f t i ms) V (bel_trans H0.out h) rfl (by have := HRL.out; omega) (HRR.out V h).r1.rd (HRR.out V h).r2.rd (HRR.out V h).r3.rd h4)
  have F16 := Lib.hid (fun V (h : Below W4.heap.size W4 V) => IR.out P2 J2 M2 B2 p2 j2 m2 b2 V (HRR.out V h).r1.rd (HRR.out V h).r2.rd (HRR.out V h).r3.rd)
  have F18 := Lib.hid (fun V (h : Below W4.heap.size W4 V) => IF.out P2 J2 M2 B2 p2 j2 m2 b2 V (HRR.out V h).r1.rd (HRR.out V h).r3.rd)
  have QST := Lib.hid (show ∀ p ∈ ([(w.heap.size, (NO kd (.slice P n pc) (.slice J k kc) (.slice M m mc) (.slice B 0 bc))), (w.heap.size + 1, rgc f t), (w3.heap.size, (NO kd (.slice P2 n p2) (.slice J2 k j2) (.slice M2 (restL ps f t i ms).length m2) (.slice B2 0 b2)))] : List (Nat × Obj)), W4.heap[p.1]? = some p.2 by
    intro p hp
    simp only [List.mem_cons, List.not_mem_nil, or_false] at hp
    rcases hp with rfl | rfl | rfl
    · exact Z.out
    · exact Y.out
    · exact X.out)
  clear FA GA IR RA TA IF
  refine wp_region_held_drew (S := (SK W4 [(w.heap.size, (NO kd (.slice P n pc) (.slice J k kc) (.slice M m mc) (.slice B 0 bc))), (w.heap.size + 1, rgc f t), (w3.heap.size, (NO kd (.slice P2 n p2) (.slice J2 k j2) (.slice M2 (restL ps f t i ms).length m2) (.slice B2 0 b2)))])) (by kernel_rfl) ?_ (fun hHeld => ?_)
  · exact SK.start QST.out
  have HHeld := Lib.hid hHeld; clear hHeld
  refine wpAnyH_take (i := 0) (oi := { dst := some 35, op := Op.move (Operand.tmp 9), type := 25, pos := "law.go:56", after := #[], guard := none }) (v := ?_) rfl (by kernel_rfl) (by kernel_rfl) (by kernel_rfl) (fun _ _ _ h => h) (Or.inl ⟨by rfl, ?_⟩) HHeld.out ?_
  rotate_left
  · intro w hSw; clear hSw; go_simp; try with_reducible rfl
  try simp only [Act.put, List.setIfInBounds_toArray, List.set_cons_zero, List.set_cons_succ]
  refine wpAnyH_take (i := 1) (oi := { dst := some 36, op := Op.load 28 (Operand.tmp 4), type := 28, pos := "law.go:56", after := #[], guard := none }) (v := (NV kd (.slice P n pc) (.slice J k kc) (.slice M m mc) (.slice B 0 bc) : Value)) rfl (by kernel_rfl) (by kernel_rfl) (by kernel_rfl) (fun _ _ _ h => h) (Or.inl ⟨by rfl, ?_⟩) HHeld.out ?_
  · intro V hV; have hc0 := (cells5 (hV.g 0 rfl)).1; have hc1 := (cells5 (hV.g 0 rfl)).2.1; have hc2 := (cells5 (hV.g 0 rfl)).2.2.1; have hc3 := (cells5 (hV.g 0 rfl)).2.2.2.1; have hc4 := (cells5 (hV.g 0 rfl)).2.2.2.2; clear hV; go_simp
  try simp only [Act.put, List.setIfInBounds_toArray, List.set_cons_zero, List.set_cons_succ]
  refine wpAnyH_take (i := 2) (oi := { dst := some 37, op := Op.load 30 (Operand.tmp 5), type := 30, pos := "law.go:56", after := #[], guard := none }) (v := (.agg #[.string f, .string t] : Value)) rfl (by kernel_rfl) (by kernel_rfl) (by kernel_rfl) (fun _ _ _ h => h) (Or.inl ⟨by rfl, ?_⟩) HHeld.out ?_
  · intro V hV; have hc0 := (has_two (hV.g 1 rfl)).1; have hc1 := (has_two (hV.g 1 rfl)).2.1; clear hV; go_simp
  try simp only [Act.put, List.setIfInBounds_toArray, List.set_cons_zero, List.set_cons_succ]
  refine wpAnyH_take (i := 3) (oi := { dst := some 38, op := Op.move (Operand.tmp 2), type := 3, pos := "law.go:56", after := #[], guard := none }) (v := ?_) rfl (by kernel_rfl) (by kernel_rfl) (by kernel_rfl) (fun _ _ _ h => h) (Or.inl ⟨by rfl, ?_⟩) HHeld.out ?_
  rotate_left
  · intro w hSw; clear hSw; go_simp; try with_reducible rfl
  try simp only [Act.put, List.setIfInBounds_toArray, List.set_cons_zero, List.set_cons_succ]
  refine wpAnyH_ready (rs := [4]) (by kernel_rfl) (by simp) ?_
  refine AllReadyH.cons (o := { dst := some 39, op := Op.call { callee := Callee.value (Operand.func 12), args := #[Operand.tmp 36, Operand.tmp 37, Operand.tmp 38], argTypes := #[28, 30, 3] }, type := 25, pos := "law.go:56", after := #[{ on := 1, ground := Ground.data }, { on := 2, ground := Ground.data }, { on := 3, ground := Ground.data }], guard := none }) rfl (fun K hK => ?_) AllReadyH.nil
  go_simp
  go_at_call 12; ((with_reducible refine (F12.out _ HHeld.out.b).mono ?_); rintro e v4 ⟨⟨A5, q5, rfl, r5⟩, b4⟩; have K4 := Lib.hid (HHeld.out.later b4); have R5 := Lib.hid r5; clear r5; clear b4)
  refine hK.out _ _ ?_ (fun hHeld => ?_)
  · exact K4.out
  clear HHeld; have HHeld := Lib.hid hHeld; clear hHeld
  clear hK K
  try simp only [Act.put, List.setIfInBounds_toArray, List.set_cons_zero, List.set_cons_succ]
  refine wpAnyH_ready (rs := [5]) (by kernel_rfl) (by simp) ?_
  refine AllReadyH.cons (o := { dst := some 40, op := Op.call { callee := Callee.value (Operand.func 11), args := #[Operand.tmp 35, Operand.tmp 39], argTypes := #[25, 25] }, type := 4, pos := "law.go:56", after := #[{ on := 0, ground := Ground.data }, { on := 4, ground := Ground.data }, { on := 4, ground := Ground.chain }], guard := none }) rfl (fun K hK => ?_) AllReadyH.nil
  go_simp
  go_at_call 11; ((with_reducible refine (same_any T A5 _ tc q5 (kidL ps f t i ms) _ rfl HKN.out (HT.out _ HHeld.out.b) R5.out).mono ?_); rintro e v5 ⟨rfl, b5⟩; have K5 := Lib.hid (HHeld.out.later b5); clear b5)
  refine hK.out _ _ ?_ (fun hHeld => ?_)
  · exact K5.out
  clear HHeld; have HHeld := Lib.hid hHeld; clear hHeld
  clear hK K
  try simp only [Act.put, List.setIfInBounds_toArray, List.set_cons_zero, List.set_cons_succ]
  refine wpAnyH_take (i := 6) (oi := { dst := some 41, op := Op.unOp UnOp.not 4 (Operand.tmp 40), type := 4, pos := "law.go:56", after := #[{ on := 5, ground := Ground.data }], guard := none }) (v := ?_) rfl (by kernel_rfl) (by kernel_rfl) (by kernel_rfl) (fun _ _ _ h => h) (Or.inl ⟨by rfl, ?_⟩) HHeld.out ?_
  rotate_left
  · intro w hSw; clear hSw; go_simp; try with_reducible rfl
  try simp only [Act.put, List.setIfInBounds_toArray, List.set_cons_zero, List.set_cons_succ]
  refine wpAnyH_take (i := 7) (oi := { dst := some 42, op := Op.move (Operand.tmp 41), type := 4, pos := "law.go:56", after := #[{ on := 6, ground := Ground.data }, { on := 5, ground := Ground.chain }], guard := none }) (v := ?_) rfl (by kernel_rfl) (by kernel_rfl) (by kernel_rfl) (fun _ _ _ h => h) (Or.inl ⟨by rfl, ?_⟩) HHeld.out ?_
  rotate_left
  · intro w hSw; clear hSw; go_simp; try with_reducible rfl
  try simp only [Act.put, List.setIfInBounds_toArray, List.set_cons_zero, List.set_cons_succ]
  refine wpAnyH_take (i := 8) (oi := { dst := some 43, op := Op.load 28 (Operand.tmp 10), type := 28, pos := "law.go:56", after := #[{ on := 7, ground := Ground.guard }], guard := some (7, false) }) (v := (NV kd (.slice P2 n p2) (.slice J2 k j2) (.slice M2 (restL ps f t i ms).length m2) (.slice B2 0 b2) : Value)) rfl (by kernel_rfl) (by kernel_rfl) (by kernel_rfl) (fun _ _ _ h => h) (Or.inl ⟨by rfl, ?_⟩) HHeld.out ?_
  · intro V hV; have hc0 := (cells5 (hV.g 2 rfl)).1; have hc1 := (cells5 (hV.g 2 rfl)).2.1; have hc2 := (cells5 (hV.g 2 rfl)).2.2.1; have hc3 := (cells5 (hV.g 2 rfl)).2.2.2.1; have hc4 := (cells5 (hV.g 2 rfl)).2.2.2.2; clear hV; go_simp
  try simp only [Act.put, List.setIfInBounds_toArray, List.set_cons_zero, List.set_cons_succ]
  refine wpAnyH_take (i := 9) (oi := { dst := some 44, op := Op.load 28 (Operand.tmp 4), type := 28, pos := "law.go:56", after := #[{ on := 7, ground := Ground.guard }], guard := some (7, false) }) (v := (NV kd (.slice P n pc) (.slice J k kc) (.slice M m mc) (.slice B 0 bc) : Value)) rfl (by kernel_rfl) (by kernel_rfl) (by kernel_rfl) (fun _ _ _ h => h) (Or.inl ⟨by rfl, ?_⟩) HHeld.out ?_
  · intro V hV; have hc0 := (cells5 (hV.g 0 rfl)).1; have hc1 := (cells5 (hV.g 0 rfl)).2.1; have hc2 := (cells5 (hV.g 0 rfl)).2.2.1; have hc3 := (cells5 (hV.g 0 rfl)).2.2.2.1; have hc4 := (cells5 (hV.g 0 rfl)).2.2.2.2; clear hV; go_simp
  try simp only [Act.put, List.setIfInBounds_toArray, List.set_cons_zero, List.set_cons_succ]
  refine wpAnyH_take (i := 10) (oi := { dst := some 45, op := Op.load 28 (Operand.tmp 4), type := 28, pos := "law.go:56", after := #[{ on := 7, ground := Ground.guard }], guard := some (7, false) }) (v := (NV kd (.slice P n pc) (.slice J k kc) (.slice M m mc) (.slice B 0 bc) : Value)) rfl (by kernel_rfl) (by kernel_rfl) (by kernel_rfl) (fun _ _ _ h => h) (Or.inl ⟨by rfl, ?_⟩) HHeld.out ?_
  · intro V hV; have hc0 := (cells5 (hV.g 0 rfl)).1; have hc1 := (cells5 (hV.g 0 rfl)).2.1; have hc2 := (cells5 (hV.g 0 rfl)).2.2.1; have hc3 := (cells5 (hV.g 0 rfl)).2.2.2.1; have hc4 := (cells5 (hV.g 0 rfl)).2.2.2.2; clear hV; go_simp
  try simp only [Act.put, List.setIfInBounds_toArray, List.set_cons_zero, List.set_cons_succ]
  refine wpAnyH_take (i := 11) (oi := { dst := some 46, op := Op.load 30 (Operand.tmp 5), type := 30, pos := "law.go:56", after := #[{ on := 7, ground := Ground.guard }], guard := some (7, false) }) (v := (.agg #[.string f, .string t] : Value)) rfl (by kernel_rfl) (by kernel_rfl) (by kernel_rfl) (fun _ _ _ h => h) (Or.inl ⟨by rfl, ?_⟩) HHeld.out ?_
  · intro V hV; have hc0 := (has_two (hV.g 1 rfl)).1; have hc1 := (has_two (hV.g 1 rfl)).2.1; clear hV; go_simp
  try simp only [Act.put, List.setIfInBounds_toArray, List.set_cons_zero, List.set_cons_succ]
  refine wpAnyH_take (i := 12) (oi := { dst := some 47, op := Op.move (Operand.tmp 2), type := 3, pos := "law.go:56", after := #[{ on := 7, ground := Ground.guard }], guard := some (7, false) }) (v := ?_) rfl (by kernel_rfl) (by kernel_rfl) (by kernel_rfl) (fun _ _ _ h => h) (Or.inl ⟨by rfl, ?_⟩) HHeld.out ?_
  rotate_left
  · intro w hSw; clear hSw; go_simp; try with_reducible rfl
  try simp only [Act.put, List.setIfInBounds_toArray, List.set_cons_zero, List.set_cons_succ]
  refine wpAnyH_ready (rs := [13]) (by kernel_rfl) (by simp) ?_
  refine AllReadyH.cons (o := { dst := some 48, op := Op.call { callee := Callee.value (Operand.func 15), args := #[Operand.tmp 45, Operand.tmp 46, Operand.tmp 47], argTypes := #[28, 30, 3] }, type := 25, pos := "law.go:56", after := #[{ on := 10, ground := Ground.data }, { on := 11, ground := Ground.data }, { on := 12, ground := Ground.data }, { on := 7, ground := Ground.chain }, { on := 7, ground := Ground.guard }], guard := some (7, false) }) rfl (fun K hK => ?_) AllReadyH.nil
  go_simp
  go_at_call 15; ((with_reducible refine (F15.out _ HHeld.out.b).mono ?_); rintro e v13 ⟨⟨A6, q6, rfl, r6⟩, b13⟩; have K13 := Lib.hid (HHeld.out.later b13); have R6 := Lib.hid r6; clear r6; clear b13)
  refine hK.out _ _ ?_ (fun hHeld => ?_)
  · exact K13.out
  clear HHeld; have HHeld := Lib.hid hHeld; clear hHeld
  clear hK K
  try simp only [Act.put, List.setIfInBounds_toArray, List.set_cons_zero, List.set_cons_succ]
  refine wpAnyH_ready (rs := [14]) (by kernel_rfl) (by simp) ?_
  refine AllReadyH.cons (o := { dst := some 49, op := Op.call { callee := Callee.value (Operand.func 14), args := #[Operand.tmp 44, Operand.tmp 48], argTypes := #[28, 25] }, type := 28, pos := "law.go:56", after := #[{ on := 9, ground := Ground.data }, { on := 13, ground := Ground.data }, { on := 13, ground := Ground.chain }, { on := 7, ground := Ground.guard }], guard := some (7, false) }) rfl (fun K hK => ?_) AllReadyH.nil
  go_simp
  go_at_call 14; ((with_reducible refine (with_any kd P J M B A6 n pc k kc m mc 0 bc (restL ps f t i ms).length q6 _).mono ?_); rintro e v14 ⟨rfl, b14⟩; have K14 := Lib.hid (HHeld.out.later b14); replace R6 := Lib.hid (R6.out.later b14); clear b14)
  refine hK.out _ _ ?_ (fun hHeld => ?_)
  · exact K14.out
  clear HHeld; have HHeld := Lib.hid hHeld; clear hHeld
  clear hK K
  try simp only [Act.put, List.setIfInBounds_toArray, List.set_cons_zero, List.set_cons_succ]
  refine wpAnyH_ready (rs := [15]) (by kernel_rfl) (by simp) ?_
  refine AllReadyH.cons (o := { dst := some 50, op := Op.call { callee := Callee.value (Operand.func 13), args := #[Operand.tmp 43, Operand.tmp 49], argTypes := #[28, 28] }, type := 4, pos := "law.go:56", after := #[{ on := 8, ground := Ground.data }, { on := 14, ground := Ground.data }, { on := 14, ground := Ground.chain }, { on := 7, ground := Ground.guard }], guard := some (7, false) }) rfl (fun K hK => ?_) AllReadyH.nil
  go_simp
  go_at_call 13; ((with_reducible refine (F13.out A6 q6 _ HHeld.out.b R6.out).mono ?_); rintro e v15 ⟨rfl, b15⟩; have K15 := Lib.hid (HHeld.out.later b15); clear b15)
  refine hK.out _ _ ?_ (fun hHeld => ?_)
  · exact K15.out
  clear HHeld; have HHeld := Lib.hid hHeld; clear hHeld
  clear hK K
  try simp only [Act.put, List.setIfInBounds_toArray, List.set_cons_zero, List.set_cons_succ]
  refine wpAnyH_take (i := 16) (oi := { dst := some 51, op := Op.unOp UnOp.not 4 (Operand.tmp 50), type := 4, pos := "law.go:56", after := #[{ on := 15, ground := Ground.data }, { on := 7, ground := Ground.guard }], guard := some (7, false) }) (v := ?_) rfl (by kernel_rfl) (by kernel_rfl) (by kernel_rfl) (fun _ _ _ h => h) (Or.inl ⟨by rfl, ?_⟩) HHeld.out ?_
  rotate_left
  · intro w hSw; clear hSw; go_simp; try with_reducible rfl
  try simp only [Act.put, List.setIfInBounds_toArray, List.set_cons_zero, List.set_cons_succ]
  refine wpAnyH_take (i := 17) (oi := { dst := some 52, op := Op.pick (Operand.tmp 42) (Operand.const (Value.bool true)) (Operand.tmp 51), type := 4, pos := "law.go:56", after := #[{ on := 7, ground := Ground.data }, { on := 16, ground := Ground.data }], guard := none }) (v := ?_) rfl (by kernel_rfl) (by kernel_rfl) (by kernel_rfl) (fun _ _ _ h => h) (Or.inl ⟨by rfl, ?_⟩) HHeld.out ?_
  rotate_left
  · intro w hSw; clear hSw; go_simp; try with_reducible rfl
  try simp only [Act.put, List.setIfInBounds_toArray, List.set_cons_zero, List.set_cons_succ]
  refine wpAnyH_take (i := 18) (oi := { dst := some 53, op := Op.move (Operand.tmp 52), type := 4, pos := "law.go:56", after := #[{ on := 17, ground := Ground.data }, { on := 15, ground := Ground.chain }], guard := none }) (v := ?_) rfl (by kernel_rfl) (by kernel_rfl) (by kernel_rfl) (fun _ _ _ h => h) (Or.inl ⟨by rfl, ?_⟩) HHeld.out ?_
  rotate_left
  · intro w hSw; clear hSw; go_simp; try with_reducible rfl
  try simp only [Act.put, List.setIfInBounds_toArray, List.set_cons_zero, List.set_cons_succ]
  refine wpAnyH_take (i := 19) (oi := { dst := some 54, op := Op.load 28 (Operand.tmp 10), type := 28, pos := "law.go:56", after := #[{ on := 18, ground := Ground.guard }], guard := some (18, false) }) (v := (NV kd (.slice P2 n p2) (.slice J2 k j2) (.slice M2 (restL ps f t i ms).length m2) (.slice B2 0 b2) : Value)) rfl (by kernel_rfl) (by kernel_rfl) (by kernel_rfl) (fun _ _ _ h => h) (Or.inl ⟨by rfl, ?_⟩) HHeld.out ?_
  · intro V hV; have hc0 := (cells5 (hV.g 2 rfl)).1; have hc1 := (cells5 (hV.g 2 rfl)).2.1; have hc2 := (cells5 (hV.g 2 rfl)).2.2.1; have hc3 := (cells5 (hV.g 2 rfl)).2.2.2.1; have hc4 := (cells5 (hV.g 2 rfl)).2.2.2.2; clear hV; go_simp
  try simp only [Act.put, List.setIfInBounds_toArray, List.set_cons_zero, List.set_cons_succ]
  refine wpAnyH_take (i := 20) (oi := { dst := some 55, op := Op.load 30 (Operand.tmp 5), type := 30, pos := "law.go:56", after := #[{ on := 18, ground := Ground.guard }], guard := some (18, false) }) (v := (.agg #[.string f, .string t] : Value)) rfl (by kernel_rfl) (by kernel_rfl) (by kernel_rfl) (fun _ _ _ h => h) (Or.inl ⟨by rfl, ?_⟩) HHeld.out ?_
  · intro V hV; have hc0 := (has_two (hV.g 1 rfl)).1; have hc1 := (has_two (hV.g 1 rfl)).2.1; clear hV; go_simp
  try simp only [Act.put, List.setIfInBounds_toArray, List.set_cons_zero, List.set_cons_succ]
  refine wpAnyH_ready (rs := [21]) (by kernel_rfl) (by simp) ?_
  refine AllReadyH.cons (o := { dst := some 56, op := Op.call { callee := Callee.value (Operand.func 16), args := #[Operand.tmp 54, Operand.tmp 55], argTypes := #[28, 30] }, type := 4, pos := "law.go:56", after := #[{ on := 19, ground := Ground.data }, { on := 20, ground := Ground.data }, { on := 18, ground := Ground.chain }, { on := 18, ground := Ground.guard }], guard := some (18, false) }) rfl (fun K hK => ?_) AllReadyH.nil
  go_simp
  go_at_call 16; ((with_reducible refine (F16.out _ HHeld.out.b).mono ?_); rintro e v21 ⟨rfl, b21⟩; have K21 := Lib.hid (HHeld.out.later b21); clear b21)
  refine hK.out _ _ ?_ (fun hHeld => ?_)
  · exact K21.out
  clear HHeld; have HHeld := Lib.hid hHeld; clear hHeld
  clear hK K
  try simp only [Act.put, List.setIfInBounds_toArray, List.set_cons_zero, List.set_cons_succ]
  refine wpAnyH_take (i := 22) (oi := { dst := some 57, op := Op.unOp UnOp.not 4 (Operand.tmp 56), type := 4, pos := "law.go:56", after := #[{ on := 21, ground := Ground.data }, { on := 18, ground := Ground.guard }], guard := some (18, false) }) (v := ?_) rfl (by kernel_rfl) (by kernel_rfl) (by kernel_rfl) (fun _ _ _ h => h) (Or.inl ⟨by rfl, ?_⟩) HHeld.out ?_
  rotate_left
  · intro w hSw; clear hSw; go_simp; try with_reducible rfl
  try simp only [Act.put, List.setIfInBounds_toArray, List.set_cons_zero, List.set_cons_succ]
  refine wpAnyH_take (i := 23) (oi := { dst := some 58, op := Op.pick (Operand.tmp 53) (Operand.const (Value.bool true)) (Operand.tmp 57), type := 4, pos := "law.go:56", after := #[{ on := 18, ground := Ground.data }, { on := 22, ground := Ground.data }], guard := none }) (v := ?_) rfl (by kernel_rfl) (by kernel_rfl) (by kernel_rfl) (fun _ _ _ h => h) (Or.inl ⟨by rfl, ?_⟩) HHeld.out ?_
  rotate_left
  · intro w hSw; clear hSw; go_simp; try with_reducible rfl
  try simp only [Act.put, List.setIfInBounds_toArray, List.set_cons_zero, List.set_cons_succ]
  refine wpAnyH_done (by kernel_rfl) ?_ _
  have H5 := Lib.hid HHeld.out.b
  have Z5 := Lib.hid (HHeld.out.g 0 rfl)
  have Y5 := Lib.hid (HHeld.out.g 1 rfl)
  have X5 := Lib.hid (HHeld.out.g 2 rfl)
  clear HHeld K4 K5 K13 K14 K15 K21 R5 R6 F12 F15 F13 F16
  obtain ⟨c0, c1, c2, c3, c4⟩ := cells5 Z5.out
  obtain ⟨d0, d1, -, -⟩ := has_two Y5.out
  have HH5 := Lib.hid (bel_trans H0.out H5.out)
  go_upto_region 8 with (first
    | (go_at_call 17; ((with_reducible refine (AA.out _ HH5.out).mono ?_); rintro e w7 ⟨P3, p3, J3, j3, M3, m3, B3, b3, rfl, r1, r2, r3, b7⟩; have R1 := Lib.hid r1.rd; have R2 := Lib.hid r2.rd; replace H5 := Lib.hid (bel_trans H5.out b7); replace Z5 := Lib.hid (keep_bel b7 Z5.out); replace Y5 := Lib.hid (keep_bel b7 Y5.out); replace X5 := Lib.hid (keep_bel b7 X5.out); clear b7 r1 r2 r3 c0 c1 c2 c3 c4 d0 d1))
    | fail)
  have AL7 := alb w7 (NO kd (.slice P3 n p3) (.slice J3 k j3) (.slice M3 (m + 10) m3) (.slice B3 0 b3))
  obtain ⟨W7, hW7⟩ : ∃ W7, W7 = w7.alloc (NO kd (.slice P3 n p3) (.slice J3 k j3) (.slice M3 (m + 10) m3) (.slice B3 0 b3)) := ⟨_, rfl⟩
  have X7 := Lib.hid (show W7.heap[w7.heap.size]? = some (NO kd (.slice P3 n p3) (.slice J3 k j3) (.slice M3 (m + 10) m3) (.slice B3 0 b3)) by rw [hW7]; exact heap_alloc_new _ _)
  rw [← hW7] at AL7 ⊢
  replace H5 := Lib.hid (bel_trans H5.out AL7)
  replace Z5 := Lib.hid (keep_bel AL7 Z5.out)
  replace Y5 := Lib.hid (keep_bel AL7 Y5.out)
  replace X5 := Lib.hid (keep_bel AL7 X5.out)
  replace R1 := Lib.hid (R1.out.later AL7)
  replace R2 := Lib.hid (R2.out.later AL7)
  clear AL7 hW7
  replace HH5 := Lib.hid (bel_trans H0.out H5.out)
  obtain ⟨c0, c1, c2, c3, c4⟩ := cells5 Z5.out
  have HB8 := Lib.hid (alb W7 (.cells #[] 62 (0, 0)))
  have HR8 := Lib.hid ((RE.Row.nil : EG.Row (W7.alloc (.cells #[] 62 (0, 0))) W7.heap.size (some ⟨W7.heap.size, 0, none⟩) [] 0))
  have MM8 := Lib.hid (MM.out _ (bel_trans HH5.out HB8.out))
  have HSZ : Hid (W7.heap.size ≤ (W7.alloc (.cells #[] 62 (0, 0))).heap.size) := Lib.hid HB8.out.size
  replace c3 : (W7.alloc (.cells #[] 62 (0, 0))).cell? ⟨w.heap.size, 3, none⟩ = some (.slice M m mc) := (cells5 (keep_bel HB8.out Z5.out)).2.2.2.1
  go_upto_region 9 with (first
    | (at_builtin; refine RE.wpList_put EG _ rfl (.tmp 62) (.tmp 64) rfl (base := W7.heap.size) (some ⟨W7.heap.size, 0, none⟩) 0 0 [] M m mc ms rfl rfl HR8.out rfl (by omega) HSZ.out HML.out (by have := HM30.out; omega) MM8.out ?_; intro A8 k8 w8 r1 r2 r3; have R8 := Lib.hid r1; have BX := Lib.hid (HB8.out.trans (RE.Row.below r2 HR8.out (Nat.le_refl _) HSZ.out)); clear r1 r2 r3 c0 c1 c2 c3 c4)
    | (at_builtin; refine RE.wpList_put EG _ rfl (.tmp 65) (.tmp 66) rfl (base := W7.heap.size) A8 m k8 ([] ++ ms) L 10 lc ys rfl rfl R8.out (by simpa using HML.out) (by have := HM30.out; omega) BX.out.size HYL.out (by omega) (YY.out _ (bel_trans HH5.out BX.out)) ?_; intro A9 k9 w9 r1 r2 r3; have B9 := Lib.hid (BX.out.trans (RE.Row.below r2 R8.out (Nat.le_refl _) BX.out.size)); clear r1 r2 r3)
    | fail)
  obtain ⟨W9, hW9⟩ : ∃ W9, W9 = w9 := ⟨_, rfl⟩
  rw [← hW9] at B9 ⊢
  clear hW9
  replace H5 := Lib.hid (bel_trans H5.out B9.out)
  replace Z5 := Lib.hid (keep_bel B9.out Z5.out)
  replace Y5 := Lib.hid (keep_bel B9.out Y5.out)
  replace X5 := Lib.hid (keep_bel B9.out X5.out)
  replace X7 := Lib.hid (keep_bel B9.out X7.out)
  replace R1 := Lib.hid (R1.out.later B9.out)
  replace R2 := Lib.hid (R2.out.later B9.out)
  replace HH5 := Lib.hid (bel_trans H0.out H5.out)
  have G13 := Lib.hid (fun V (h : Below W9.heap.size W9 V) => SM.out P3 J3 B3 M M p3 j3 mc b3 mc m ms V (bel_trans HH5.out h) HML.out (by have := HM30.out; omega) (R1.out.later h) (R2.out.later h) (MM.out _ (bel_trans HH5.out h)) (MM.out _ (bel_trans HH5.out h)))
  have QSX := Lib.hid (show ∀ p ∈ ([(w.heap.size, (NO kd (.slice P n pc) (.slice J k kc) (.slice M m mc) (.slice B 0 bc))), (w.heap.size + 1, rgc f t), (w3.heap.size, (NO kd (.slice P2 n p2) (.slice J2 k j2) (.slice M2 (restL ps f t i ms).length m2) (.slice B2 0 b2))), (w7.heap.size, (NO kd (.slice P3 n p3) (.slice J3 k j3) (.slice M3 (m + 10) m3) (.slice B3 0 b3)))] : List (Nat × Obj)), W9.heap[p.1]? = some p.2 by
    intro p hp
    simp only [List.mem_cons, List.not_mem_nil, or_false] at hp
    rcases hp with rfl | rfl | rfl | rfl
    · exact Z5.out
    · exact Y5.out
    · exact X5.out
    · exact X7.out)
  have hmq : ((m + 10 : Nat) : Int) = (m : Int) + (10 : Int) := by omega
  refine wp_region_held_drew (S := (SK W9 [(w.heap.size, (NO kd (.slice P n pc) (.slice J k kc) (.slice M m mc) (.slice B 0 bc))), (w.heap.size + 1, rgc f t), (w3.heap.size, (NO kd (.slice P2 n p2) (.slice J2 k j2) (.slice M2 (restL ps f t i ms).length m2) (.slice B2 0 b2))), (w7.heap.size, (NO kd (.slice P3 n p3) (.slice J3 k j3) (.slice M3 (m + 10) m3) (.slice B3 0 b3)))])) (by kernel_rfl) ?_ (fun hHeld => ?_)
  · exact SK.start QSX.out
  have HHeld := Lib.hid hHeld; clear hHeld
  refine wpAnyH_take (i := 0) (oi := { dst := some 68, op := Op.fieldAddr 28 (Operand.tmp 11) 3, type := 0, pos := "law.go:61", after := #[], guard := none }) (v := ?_) rfl (by kernel_rfl) (by kernel_rfl) (by kernel_rfl) (fun _ _ _ h => h) (Or.inl ⟨by rfl, ?_⟩) HHeld.out ?_
  rotate_left
  · intro w hSw; clear hSw; go_simp; try with_reducible rfl
  try simp only [Act.put, List.setIfInBounds_toArray, List.set_cons_zero, List.set_cons_succ]
  refine wpAnyH_take (i := 1) (oi := { dst := some 69, op := Op.load 25 (Operand.tmp 68), type := 25, pos := "law.go:61", after := #[{ on := 0, ground := Ground.data }], guard := none }) (v := (.slice M3 (m + 10) m3 : Value)) rfl (by kernel_rfl) (by kernel_rfl) (by kernel_rfl) (fun _ _ _ h => h) (Or.inl ⟨by rfl, ?_⟩) HHeld.out ?_
  · intro V hV; have hc0 := (cells5 (hV.g 3 rfl)).2.2.2.1; clear hV; go_simp
  try simp only [Act.put, List.setIfInBounds_toArray, List.set_cons_zero, List.set_cons_succ]
  refine wpAnyH_take (i := 2) (oi := { dst := some 70, op := Op.call { callee := Callee.builtin Builtin.len, args := #[Operand.tmp 69], argTypes := #[25] }, type := 3, pos := "law.go:61", after := #[{ on := 1, ground := Ground.data }], guard := none }) (v := ?_) rfl (by kernel_rfl) (by kernel_rfl) (by kernel_rfl) (fun _ _ _ h => h) (Or.inl ⟨by rfl, ?_⟩) HHeld.out ?_
  rotate_left
  · intro w hSw; clear hSw; go_simp; try with_reducible rfl
  try simp only [Act.put, List.setIfInBounds_toArray, List.set_cons_zero, List.set_cons_succ]
  refine wpAnyH_take (i := 3) (oi := { dst := some 71, op := Op.move (Operand.tmp 12), type := 25, pos := "law.go:61", after := #[], guard := none }) (v := ?_) rfl (by kernel_rfl) (by kernel_rfl) (by kernel_rfl) (fun _ _ _ h => h) (Or.inl ⟨by rfl, ?_⟩) HHeld.out ?_
  rotate_left
  · intro w hSw; clear hSw; go_simp; try with_reducible rfl
  try simp only [Act.put, List.setIfInBounds_toArray, List.set_cons_zero, List.set_cons_succ]
  refine wpAnyH_take (i := 4) (oi := { dst := some 72, op := Op.call { callee := Callee.builtin Builtin.len, args := #[Operand.tmp 71], argTypes := #[25] }, type := 3, pos := "law.go:61", after := #[{ on := 3, ground := Ground.data }], guard := none }) (v := ?_) rfl (by kernel_rfl) (by kernel_rfl) (by kernel_rfl) (fun _ _ _ h => h) (Or.inl ⟨by rfl, ?_⟩) HHeld.out ?_
  rotate_left
  · intro w hSw; clear hSw; go_simp; try with_reducible rfl
  try simp only [Act.put, List.setIfInBounds_toArray, List.set_cons_zero, List.set_cons_succ]
  refine wpAnyH_take (i := 5) (oi := { dst := some 73, op := Op.binOp BinOp.neq 3 (Operand.tmp 70) (Operand.tmp 72) 3, type := 4, pos := "law.go:61", after := #[{ on := 2, ground := Ground.data }, { on := 4, ground := Ground.data }], guard := none }) (v := ?_) rfl (by kernel_rfl) (by kernel_rfl) (by kernel_rfl) (fun _ _ _ h => h) (Or.inl ⟨by rfl, ?_⟩) HHeld.out ?_
  rotate_left
  · intro w hSw; clear hSw; go_simp; try with_reducible rfl
  try simp only [Act.put, List.setIfInBounds_toArray, List.set_cons_zero, List.set_cons_succ]
  refine wpAnyH_take (i := 6) (oi := { dst := some 74, op := Op.move (Operand.tmp 73), type := 4, pos := "law.go:61", after := #[{ on := 5, ground := Ground.data }], guard := none }) (v := ?_) rfl (by kernel_rfl) (by kernel_rfl) (by kernel_rfl) (fun _ _ _ h => h) (Or.inl ⟨by rfl, ?_⟩) HHeld.out ?_
  rotate_left
  · intro w hSw; clear hSw; go_simp; try with_reducible rfl
  try simp only [Act.put, List.setIfInBounds_toArray, List.set_cons_zero, List.set_cons_succ]
  refine wpAnyH_take (i := 7) (oi := { dst := some 75, op := Op.load 28 (Operand.tmp 11), type := 28, pos := "law.go:61", after := #[{ on := 6, ground := Ground.guard }], guard := some (6, false) }) (v := (NV kd (.slice P3 n p3) (.slice J3 k j3) (.slice M3 (m + 10) m3) (.slice B3 0 b3) : Value)) rfl (by kernel_rfl) (by kernel_rfl) (by kernel_rfl) (fun _ _ _ h => h) (Or.inl ⟨by rfl, ?_⟩) HHeld.out ?_
  · intro V hV; have hc0 := (cells5 (hV.g 3 rfl)).1; have hc1 := (cells5 (hV.g 3 rfl)).2.1; have hc2 := (cells5 (hV.g 3 rfl)).2.2.1; have hc3 := (cells5 (hV.g 3 rfl)).2.2.2.1; have hc4 := (cells5 (hV.g 3 rfl)).2.2.2.2; clear hV; go_simp
  try simp only [Act.put, List.setIfInBounds_toArray, List.set_cons_zero, List.set_cons_succ]
  refine wpAnyH_take (i := 8) (oi := { dst := some 76, op := Op.fieldAddr 28 (Operand.tmp 4) 3, type := 0, pos := "law.go:61", after := #[{ on := 6, ground := Ground.guard }], guard := some (6, false) }) (v := ?_) rfl (by kernel_rfl) (by kernel_rfl) (by kernel_rfl) (fun _ _ _ h => h) (Or.inl ⟨by rfl, ?_⟩) HHeld.out ?_
  rotate_left
  · intro w hSw; clear hSw; go_simp; try with_reducible rfl
  try simp only [Act.put, List.setIfInBounds_toArray, List.set_cons_zero, List.set_cons_succ]
  refine wpAnyH_take (i := 9) (oi := { dst := some 77, op := Op.load 25 (Operand.tmp 76), type := 25, pos := "law.go:61", after := #[{ on := 8, ground := Ground.data }, { on := 6, ground := Ground.guard }], guard := some (6, false) }) (v := (.slice M m mc : Value)) rfl (by kernel_rfl) (by kernel_rfl) (by kernel_rfl) (fun _ _ _ h => h) (Or.inl ⟨by rfl, ?_⟩) HHeld.out ?_
  · intro V hV; have hc0 := (cells5 (hV.g 0 rfl)).2.2.2.1; clear hV; go_simp
  try simp only [Act.put, List.setIfInBounds_toArray, List.set_cons_zero, List.set_cons_succ]
  refine wpAnyH_take (i := 11) (oi := { dst := some 79, op := Op.load 28 (Operand.tmp 4), type := 28, pos := "law.go:61", after := #[{ on := 6, ground := Ground.guard }], guard := some (6, false) }) (v := (NV kd (.slice P n pc) (.slice J k kc) (.slice M m mc) (.slice B 0 bc) : Value)) rfl (by kernel_rfl) (by kernel_rfl) (by kernel_rfl) (fun _ _ _ h => h) (Or.inl ⟨by rfl, ?_⟩) HHeld.out ?_
  · intro V hV; have hc0 := (cells5 (hV.g 0 rfl)).1; have hc1 := (cells5 (hV.g 0 rfl)).2.1; have hc2 := (cells5 (hV.g 0 rfl)).2.2.1; have hc3 := (cells5 (hV.g 0 rfl)).2.2.2.1; have hc4 := (cells5 (hV.g 0 rfl)).2.2.2.2; clear hV; go_simp
  try simp only [Act.put, List.setIfInBounds_toArray, List.set_cons_zero, List.set_cons_succ]
  refine wpAnyH_ready (rs := [10]) (by kernel_rfl) (by simp) ?_
  refine AllReadyH.cons (o := { dst := some 78, op := Op.call { callee := Callee.value (Operand.func 14), args := #[Operand.tmp 75, Operand.tmp 77], argTypes := #[28, 25] }, type := 28, pos := "law.go:61", after := #[{ on := 7, ground := Ground.data }, { on := 9, ground := Ground.data }, { on := 6, ground := Ground.chain }, { on := 6, ground := Ground.guard }], guard := some (6, false) }) rfl (fun K hK => ?_) AllReadyH.nil
  go_simp
  go_at_call 14; ((with_reducible refine (with_any kd P3 J3 M3 B3 M n p3 k j3 (m + 10) m3 0 b3 m mc _).mono ?_); rintro e v10 ⟨rfl, b10⟩; have K10 := Lib.hid (HHeld.out.later b10); clear b10)
  refine hK.out _ _ ?_ (fun hHeld => ?_)
  · exact K10.out
  clear HHeld; have HHeld := Lib.hid hHeld; clear hHeld
  clear hK K
  try simp only [Act.put, List.setIfInBounds_toArray, List.set_cons_zero, List.set_cons_succ]
  refine wpAnyH_ready (rs := [12]) (by kernel_rfl) (by simp) ?_
  refine AllReadyH.cons (o := { dst := some 80, op := Op.call { callee := Callee.value (Operand.func 13), args := #[Operand.tmp 78, Operand.tmp 79], argTypes := #[28, 28] }, type := 4, pos := "law.go:61", after := #[{ on := 10, ground := Ground.data }, { on := 11, ground := Ground.data }, { on := 10, ground := Ground.chain }, { on := 6, ground := Ground.guard }], guard := some (6, false) }) rfl (fun K hK => ?_) AllReadyH.nil
  go_simp
  go_at_call 13; ((with_reducible refine (G13.out _ HHeld.out.b).mono ?_); rintro e v12 ⟨rfl, b12⟩; have K12 := Lib.hid (HHeld.out.later b12); clear b12)
  refine hK.out _ _ ?_ (fun hHeld => ?_)
  · exact K12.out
  clear HHeld; have HHeld := Lib.hid hHeld; clear hHeld
  clear hK K
  try simp only [Act.put, List.setIfInBounds_toArray, List.set_cons_zero, List.set_cons_succ]
  refine wpAnyH_take (i := 13) (oi := { dst := some 81, op := Op.unOp UnOp.not 4 (Operand.tmp 80), type := 4, pos := "law.go:61", after := #[{ on := 12, ground := Ground.data }, { on := 6, ground := Ground.guard }], guard := some (6, false) }) (v := ?_) rfl (by kernel_rfl) (by kernel_rfl) (by kernel_rfl) (fun _ _ _ h => h) (Or.inl ⟨by rfl, ?_⟩) HHeld.out ?_
  rotate_left
  · intro w hSw; clear hSw; go_simp; try with_reducible rfl
  try simp only [Act.put, List.setIfInBounds_toArray, List.set_cons_zero, List.set_cons_succ]
  refine wpAnyH_take (i := 14) (oi := { dst := some 82, op := Op.pick (Operand.tmp 74) (Operand.const (Value.bool true)) (Operand.tmp 81), type := 4, pos := "law.go:61", after := #[{ on := 6, ground := Ground.data }, { on := 13, ground := Ground.data }], guard := none }) (v := ?_) rfl (by kernel_rfl) (by kernel_rfl) (by kernel_rfl) (fun _ _ _ h => h) (Or.inl ⟨by rfl, ?_⟩) HHeld.out ?_
  rotate_left
  · intro w hSw; clear hSw; go_simp; try with_reducible rfl
  try simp only [Act.put, List.setIfInBounds_toArray, List.set_cons_zero, List.set_cons_succ]
  refine wpAnyH_done (by kernel_rfl) ?_ _
  have H9 := Lib.hid HHeld.out.b
  have Y9 := Lib.hid (HHeld.out.g 1 rfl)
  have X9 := Lib.hid (HHeld.out.g 2 rfl)
  clear HHeld K10 K12
  replace H9 := Lib.hid (bel_trans H5.out H9.out)
  obtain ⟨c0, c1, c2, c3, c4⟩ := cells5 X9.out
  obtain ⟨d0, d1, -, -⟩ := has_two Y9.out
  go_wp2_with (first
    | (go_at_call 9; ((with_reducible refine (live_true _).mono ?_); rintro e wa ⟨rfl, ba⟩; replace H9 := Lib.hid (bel_trans H9.out ba); replace Y9 := Lib.hid (keep_bel ba Y9.out); replace X9 := Lib.hid (keep_bel ba X9.out); clear ba c0 c1 c2 c3 c4 d0 d1; obtain ⟨c0, c1, c2, c3, c4⟩ := cells5 X9.out; obtain ⟨d0, d1, -, -⟩ := has_two Y9.out))
    | (go_at_call 18; ((with_reducible refine (F18.out _ H9.out).mono ?_); rintro e wb ⟨⟨Ab, cb, rfl⟩, bb⟩; replace H9 := Lib.hid (bel_trans H9.out bb); clear bb c0 c1 c2 c3 c4 d0 d1))
    | fail)
  go_ret
  exact ⟨rfl, bel_trans H0.out H9.out⟩
end Go.Proofs.Ytilnpeekajnlhaa
