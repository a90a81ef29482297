/- The law InnerHalves, on whatever came in. -/
import Derived.Test.YtilnpeekajnlhaaGreatTh35
import Derived.Test.YtilnpeekajnlhaaGreatTh16
set_option linter.unusedVariables false
set_option linter.unusedSimpArgs false
namespace Go.Proofs.YtilnpeekajnlhaaGreat
open Go.RowKit Go.Maps
set_option maxRecDepth 100000 in
set_option maxHeartbeats 8000000 in
theorem halves_not (kd : Int) (P J M B : Option Addr) (n pc k kc m mc b bc : Nat) (ps : List ByteArray) (ks : List Int) (ms : List MG) (f t : ByteArray) (s v : ByteArray) (is : Bool) (w : World) (hl : ps.length = n) (hP : ES.Rd w P ps) (hkl : ks.length = k) (hJ : EI.Rd w J ks) (hm : ms.length = m) (hM : EG.Rd w M ms) (ho : OkA ms)
    (hno : (smallB n k m b && rnB kd n k b ps ks ms f t) = false) :
    Calls Tryz.prog 3 #[NV kd (.slice P n pc) (.slice J k kc) (.slice M m mc) (.slice B b bc), .agg #[.string f, .string t], .string s, .string v, .bool is] w fun e w' => e = .returned (.bool true) ∧ Below w.heap.size w w' := by
  have y1 := two_new w (NO kd (.slice P n pc) (.slice J k kc) (.slice M m mc) (.slice B b bc)) (rgc f t)
  have H0 := Lib.hid (bel_alloc (alb w (NO kd (.slice P n pc) (.slice J k kc) (.slice M m mc) (.slice B b bc))) (rgc f t))
  have Z := Lib.hid y1.1
  have Y := Lib.hid y1.2
  clear y1
  obtain ⟨c0, c1, c2, c3, c4⟩ := cells5 Z.out
  obtain ⟨d0, d1, -, -⟩ := has_two Y.out
  have SA := Lib.hid (fun W => small_any kd P J M B n pc k kc m mc b bc W)
  cases hs : smallB n k m b
  · rw [hs] at SA
    clear hl hP hkl hJ hm hM ho hno hs
    go_enter Tryz.func3, Tryz.ntmps3
    go_wp2_with (first
      | (go_at_call 4; ((with_reducible refine (SA.out _).mono ?_); rintro e w1 ⟨rfl, b1⟩; have B1 := Lib.hid (bel_trans H0.out b1); clear b1))
      | (go_at_call 6; ((with_reducible refine (live_true _).mono ?_); rintro e w3 ⟨rfl, b3⟩; have B3 := Lib.hid (bel_trans B1.out b3); clear b3))
      | fail)
    go_ret
    exact ⟨rfl, B3.out⟩
  · rw [hs] at SA hno
    obtain ⟨s1, s2, s3, s4⟩ := small_yes hs
    rw [Bool.true_and] at hno
    have RA : Hid (∀ W, Below w.heap.size w W → Calls Tryz.prog 5 #[NV kd (.slice P n pc) (.slice J k kc) (.slice M m mc) (.slice B b bc), .agg #[.string f, .string t]] W fun e w' => e = .returned (.bool false) ∧ Below W.heap.size W w') := Lib.hid (fun W h => by
      have q := rright14 kd P J M B n pc k kc m mc b bc ps ks ms f t W hl (by omega) (es_rd.1 (hP.later h)) hkl (by omega) (hJ.later h) hm (by omega) (hM.later h) ho
      rw [hno] at q; exact q)
    clear hl hP hkl hJ hm hM ho hno hs
    go_enter Tryz.func3, Tryz.ntmps3
    go_wp2_with (first
      | (go_at_call 4; ((with_reducible refine (SA.out _).mono ?_); rintro e w1 ⟨rfl, b1⟩; have B1 := Lib.hid (bel_trans H0.out b1); replace Z := Lib.hid (keep_bel b1 Z.out); replace Y := Lib.hid (keep_bel b1 Y.out); clear b1 c0 c1 c2 c3 c4 d0 d1; obtain ⟨c0, c1, c2, c3, c4⟩ := cells5 Z.out; obtain ⟨d0, d1, -, -⟩ := has_two Y.out))
      | (go_at_call 5; ((with_reducible refine (RA.out _ B1.out).mono ?_); rintro e w2 ⟨rfl, b2⟩; have B2 := Lib.hid (bel_trans B1.out b2); clear b2))
      | (go_at_call 6; ((with_reducible refine (live_true _).mono ?_); rintro e w3 ⟨rfl, b3⟩; have B3 := Lib.hid (bel_trans B2.out b3); clear b3))
      | fail)
    go_ret
    exact ⟨rfl, B3.out⟩
set_option maxRecDepth 100000 in
set_option maxHeartbeats 8000000 in
theorem halves_few (P J M B : Option Addr) (pc kc m mc bc : Nat) (ps : List ByteArray) (ks : List Int) (ms : List MG) (f t s v : ByteArray) (is : Bool) (w : World) (hl : ps.length = 0) (hP : ES.Rd w P ps) (hkl : ks.length = 1) (hJ : EI.Rd w J ks) (hm : ms.length = m) (hM : EG.Rd w M ms) (ho : OkA ms)
    (hs : smallB 0 1 m 0 = true) (hr : RN 2 0 1 0 ps ks ms f t) :
    Calls Tryz.prog 3 #[NV 2 (.slice P (0 : Nat) pc) (.slice J (1 : Nat) kc) (.slice M m mc) (.slice B 0 bc), .agg #[.string f, .string t], .string s, .string v, .bool is] w fun e w' => e = .returned (.bool true) ∧ Below w.heap.size w w' := by
  obtain ⟨s1, s2, s3, -⟩ := small_yes hs
  have SA : Hid (∀ W, Calls Tryz.prog 4 #[NV 2 (.slice P 0 pc) (.slice J 1 kc) (.slice M m mc) (.slice B 0 bc)] W fun e w' => e = .returned (.bool true) ∧ Below W.heap.size W w') := Lib.hid (fun W => by
    have q := small_any 2 P J M B 0 pc 1 kc m mc 0 bc W
    rw [hs] at q; exact q)
  have RA : Hid (∀ W, Below w.heap.size w W → Calls Tryz.prog 5 #[NV 2 (.slice P 0 pc) (.slice J 1 kc) (.slice M m mc) (.slice B 0 bc), .agg #[.string f, .string t]] W fun e w' => e = .returned (.bool true) ∧ Below W.heap.size W w') := Lib.hid (fun W h => by
    have q := rright14 2 P J M B 0 pc 1 kc m mc 0 bc ps ks ms f t W hl (by omega) (es_rd.1 (hP.later h)) hkl (by omega) (hJ.later h) hm (by omega) (hM.later h) ho
    rw [rnB_iff.2 hr] at q; exact q)
  have HA := Lib.hid (fun W (b : Below w.heap.size w W) => halves_one 2 P J M B 0 pc 1 kc m mc bc ps ks ms W hl (hP.later b) hkl (hJ.later b) hm (by omega) (hM.later b) rfl rfl)
  have RH := Lib.hid (fun W (b : Below w.heap.size w W) => rhalves_one 2 P J M B 0 pc 1 kc m mc bc ps ks ms W (hP.later b) (hJ.later b) (hM.later b) (by omega))
  unfold HalvesP at HA
  unfold RHalvesP at RH
  have SM1 := Lib.hid (fun (Pa Ja Ma Ba Pb Jb Mb Bb : Option Addr) (pa ja ma ba pb jb mb bb : Nat) W (a1 : ES.Rd W Pa ps) (a2 : ES.Rd W Pb ps) (a3 : EI.Rd W Ja ks) (a4 : EI.Rd W Jb ks) (a5 : EG.Rd W Ma ms) (a6 : EG.Rd W Mb ms) => same14 2 Pa Ja Ma Ba Pb Jb Mb Bb 0 1 m pa ja ma ba pb jb mb bb _ _ _ W hl (by omega) hkl (by omega) hm (by omega) a1 a2 a3 a4 a5 a6)
  have SM2 := Lib.hid (fun (Pa Ja Ma Ba Pb Jb Mb Bb : Option Addr) (pa ja ma ba pb jb mb bb : Nat) W => same14 0 Pa Ja Ma Ba Pb Jb Mb Bb 0 0 0 pa ja ma ba pb jb mb bb [] [] [] W rfl (by omega) rfl (by omega) rfl (by omega) (.inl rfl) (.inl rfl) (.inl rfl) (.inl rfl) (.inl rfl) (.inl rfl))
  have y1 := two_new w (NO 2 (.slice P 0 pc) (.slice J 1 kc) (.slice M m mc) (.slice B 0 bc)) (rgc f t)
  have H0 := Lib.hid (bel_alloc (alb w (NO 2 (.slice P 0 pc) (.slice J 1 kc) (.slice M m mc) (.slice B 0 bc))) (rgc f t))
  have Z := Lib.hid y1.1
  have R := Lib.hid y1.2
  obtain ⟨E, hE⟩ : ∃ E : ByteArray, E = emptyS := ⟨_, rfl⟩
  rw [← hE] at HA RH
  clear y1 hl hP hkl hJ hm hM ho hs hr s1 s2 s3 hE
  obtain ⟨c0, c1, c2, c3, c4⟩ := cells5 Z.out
  obtain ⟨d0, d1, -, -⟩ := has_two R.out
  go_enter Tryz.func3, Tryz.ntmps3
  go_upto_region 4 with (first
    | (go_at_call 4; ((with_reducible refine (SA.out _).mono ?_); rintro e w1 ⟨rfl, bb⟩; replace H0 := Lib.hid (bel_trans H0.out bb); replace Z := Lib.hid (keep_bel bb Z.out); replace R := Lib.hid (keep_bel bb R.out); clear bb c0 c1 c2 c3 c4 d0 d1; obtain ⟨c0, c1, c2, c3, c4⟩ := cells5 Z.out; obtain ⟨d0, d1, -, -⟩ := has_two R.out))
    | (go_at_call 5; ((with_reducible refine (RA.out _ H0.out).mono ?_); rintro e w2 ⟨rfl, bb⟩; replace H0 := Lib.hid (bel_trans H0.out bb); replace Z := Lib.hid (keep_bel bb Z.out); replace R := Lib.hid (keep_bel bb R.out); clear bb c0 c1 c2 c3 c4 d0 d1; obtain ⟨c0, c1, c2, c3, c4⟩ := cells5 Z.out))
    | (go_at_call 7; ((with_reducible refine (HA.out _ H0.out).mono ?_); rintro e w3 ⟨P1, p1, J1, j1, M1, m1, B1, b1', P2, p2, J2, j2, M2, m2, B2, b2', rfl, r1, r2, bb⟩; have R1 := Lib.hid r1; replace H0 := Lib.hid (bel_trans H0.out bb); replace Z := Lib.hid (keep_bel bb Z.out); clear bb r1 r2 c0 c1 c2 c3 c4))
    | fail)
  have y2 := two_new w3 (NO 2 (.slice P1 0 p1) (.slice J1 1 j1) (.slice M1 m m1) (.slice B1 0 b1')) (NO 0 (.slice P2 0 p2) (.slice J2 0 j2) (.slice M2 0 m2) (.slice B2 0 b2'))
  have AL := bel_alloc (alb w3 (NO 2 (.slice P1 0 p1) (.slice J1 1 j1) (.slice M1 m m1) (.slice B1 0 b1'))) (NO 0 (.slice P2 0 p2) (.slice J2 0 j2) (.slice M2 0 m2) (.slice B2 0 b2'))
  obtain ⟨W3, hW3⟩ : ∃ W3, W3 = ((w3.alloc (NO 2 (.slice P1 0 p1) (.slice J1 1 j1) (.slice M1 m m1) (.slice B1 0 b1'))).alloc (NO 0 (.slice P2 0 p2) (.slice J2 0 j2) (.slice M2 0 m2) (.slice B2 0 b2'))) := ⟨_, rfl⟩
  rw [← hW3] at y2 AL ⊢
  replace H0 := Lib.hid (bel_trans H0.out AL)
  replace Z := Lib.hid (keep_bel AL Z.out)
  replace R1 := Lib.hid (R1.out.later AL)
  have GA := Lib.hid y2.1
  have GB := Lib.hid y2.2
  clear AL hW3 y2
  obtain ⟨c0, c1, c2, c3, c4⟩ := cells5 Z.out
  go_upto_region 5 with (first
    | (go_at_call 8; ((with_reducible refine (RH.out _ H0.out).mono ?_); rintro e w4 ⟨P3, p3, J3, j3, M3, m3, B3, b3', P4, p4, J4, j4, M4, m4, B4, b4', rfl, r3, r4, bb⟩; have R3 := Lib.hid r3; replace H0 := Lib.hid (bel_trans H0.out bb); replace Z := Lib.hid (keep_bel bb Z.out); replace GA := Lib.hid (keep_bel bb GA.out); replace GB := Lib.hid (keep_bel bb GB.out); replace R1 := Lib.hid (R1.out.later bb); clear bb r3 r4 c0 c1 c2 c3 c4))
    | fail)
  have y2 := two_new w4 (NO 2 (.slice P3 0 p3) (.slice J3 1 j3) (.slice M3 m m3) (.slice B3 0 b3')) (NO 0 (.slice P4 0 p4) (.slice J4 0 j4) (.slice M4 0 m4) (.slice B4 0 b4'))
  have AL := bel_alloc (alb w4 (NO 2 (.slice P3 0 p3) (.slice J3 1 j3) (.slice M3 m m3) (.slice B3 0 b3'))) (NO 0 (.slice P4 0 p4) (.slice J4 0 j4) (.slice M4 0 m4) (.slice B4 0 b4'))
  obtain ⟨W4, hW4⟩ : ∃ W4, W4 = ((w4.alloc (NO 2 (.slice P3 0 p3) (.slice J3 1 j3) (.slice M3 m m3) (.slice B3 0 b3'))).alloc (NO 0 (.slice P4 0 p4) (.slice J4 0 j4) (.slice M4 0 m4) (.slice B4 0 b4'))) := ⟨_, rfl⟩
  rw [← hW4] at y2 AL ⊢
  replace H0 := Lib.hid (bel_trans H0.out AL)
  replace Z := Lib.hid (keep_bel AL Z.out)
  replace GA := Lib.hid (keep_bel AL GA.out)
  replace GB := Lib.hid (keep_bel AL GB.out)
  replace R1 := Lib.hid (R1.out.later AL)
  have GC := Lib.hid y2.1
  have GD := Lib.hid y2.2
  replace R3 := Lib.hid (And.intro (R3.out.1.later AL) (And.intro (R3.out.2.1.later AL) (R3.out.2.2.later AL)))
  clear AL hW4 y2
  obtain ⟨a0, a1, a2, a3, a4⟩ := cells5 GA.out
  obtain ⟨z0, z1, z2, z3, z4⟩ := cells5 GB.out
  obtain ⟨u0, u1, u2, u3, u4⟩ := cells5 GC.out
  obtain ⟨x0, x1, x2, x3, x4⟩ := cells5 GD.out
  obtain ⟨c0, c1, c2, c3, c4⟩ := cells5 Z.out
  go_wp2_with (first
    | (go_at_call 9; ((with_reducible refine (SM1.out P1 J1 M1 B1 P3 J3 M3 B3 p1 j1 m1 b1' p3 j3 m3 b3' _ R1.out.r1.rd R3.out.1 R1.out.r2.rd R3.out.2.1 R1.out.r3.rd R3.out.2.2).mono ?_); rintro e w5 ⟨rfl, bb⟩; replace H0 := Lib.hid (bel_trans H0.out bb); replace Z := Lib.hid (keep_bel bb Z.out); replace GA := Lib.hid (keep_bel bb GA.out); replace GB := Lib.hid (keep_bel bb GB.out); replace GC := Lib.hid (keep_bel bb GC.out); replace GD := Lib.hid (keep_bel bb GD.out); clear bb a0 a1 a2 a3 a4 z0 z1 z2 z3 z4 u0 u1 u2 u3 u4 x0 x1 x2 x3 x4 c0 c1 c2 c3 c4; obtain ⟨a0, a1, a2, a3, a4⟩ := cells5 GA.out; obtain ⟨z0, z1, z2, z3, z4⟩ := cells5 GB.out; obtain ⟨u0, u1, u2, u3, u4⟩ := cells5 GC.out; obtain ⟨x0, x1, x2, x3, x4⟩ := cells5 GD.out; obtain ⟨c0, c1, c2, c3, c4⟩ := cells5 Z.out))
    | (go_at_call 9; ((with_reducible refine (SM2.out P2 J2 M2 B2 P4 J4 M4 B4 p2 j2 m2 b2' p4 j4 m4 b4' _).mono ?_); rintro e w6 ⟨rfl, bb⟩; replace H0 := Lib.hid (bel_trans H0.out bb); replace Z := Lib.hid (keep_bel bb Z.out); replace GA := Lib.hid (keep_bel bb GA.out); replace GB := Lib.hid (keep_bel bb GB.out); replace GC := Lib.hid (keep_bel bb GC.out); replace GD := Lib.hid (keep_bel bb GD.out); clear bb a0 a1 a2 a3 a4 z0 z1 z2 z3 z4 u0 u1 u2 u3 u4 x0 x1 x2 x3 x4 c0 c1 c2 c3 c4; obtain ⟨a0, a1, a2, a3, a4⟩ := cells5 GA.out; obtain ⟨z0, z1, z2, z3, z4⟩ := cells5 GB.out; obtain ⟨u0, u1, u2, u3, u4⟩ := cells5 GC.out; obtain ⟨x0, x1, x2, x3, x4⟩ := cells5 GD.out; obtain ⟨c0, c1, c2, c3, c4⟩ := cells5 Z.out))
    | (go_at_call 6; ((with_reducible refine (live_true _).mono ?_); rintro e w7 ⟨rfl, bb⟩; have B3 := Lib.hid (bel_trans H0.out bb); clear bb))
    | fail)
  go_ret
  exact ⟨rfl, B3.out⟩
theorem halves_law {W : World} {v : Value} {kd : Int} {P J M B : Option Addr} {n pc k kc m mc b bc : Nat} {ps : List ByteArray} {ks : List Int} {ms : List MG} (N : NodeIn W v kd P J M B n pc k kc m mc b bc ps ks ms) (f t s x : ByteArray) (is : Bool) :
    Calls Tryz.prog 3 #[.agg #[.int .u8 kd, .slice P n pc, .slice J k kc, .slice M m mc, .slice B b bc], .agg #[.string f, .string t], .string s, .string x, .bool is] W fun e w' => e = .returned (.bool true) ∧ Below W.heap.size W w' := by
  cases hno : (smallB n k m b && rnB kd n k b ps ks ms f t)
  · exact halves_not kd P J M B n pc k kc m mc b bc ps ks ms f t s x is W N.hl N.hP N.hkl N.hJ N.hm N.hM N.ho hno
  · rw [Bool.and_eq_true] at hno
    obtain ⟨hs, hr⟩ := hno
    have hr := rnB_iff.1 hr
    have hb := hr.hb
    have hkd := hr.hkd
    subst hb hkd
    have hk := hr.hk
    by_cases h2 : k < 2
    · have hn : n = 0 := by omega
      have hk1 : k = 1 := by omega
      subst hn hk1
      exact halves_few P J M B pc kc m mc bc ps ks ms f t s x is W N.hl N.hP N.hkl N.hJ N.hm N.hM N.ho hs hr
    · have hn := N.hl
      have hkl := N.hkl
      obtain ⟨b0, o0, e0, -, -⟩ := es_at N.hP (i := 0) (x := ps[0]'(by omega)) (List.getElem?_eq_getElem _)
      obtain ⟨b1, o1, e1, -, -⟩ := ei_at N.hJ (i := 0) (x := ks[0]'(by omega)) (List.getElem?_eq_getElem _)
      subst e0 e1
      have hp : k / 2 - 1 < ps.length := by omega
      exact halves_yes b0 o0 b1 o1 M B n pc k kc m mc bc ps ks ms f t s x is W N.hl N.hP N.hkl N.hJ N.hx N.hm N.hM N.ho N.hd N.hps hs hr (by omega) N.np.1 N.nk.1 (k / 2) (k / 2 - 1) rfl (by omega) _ (List.getElem?_eq_getElem hp) _ rfl
end Go.Proofs.YtilnpeekajnlhaaGreat
