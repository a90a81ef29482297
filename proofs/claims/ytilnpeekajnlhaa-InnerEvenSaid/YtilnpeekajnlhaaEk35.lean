/- The law InnerEven, on whatever came in. -/
import Derived.Test.YtilnpeekajnlhaaEk34
import Derived.Test.YtilnpeekajnlhaaEk16
set_option linter.unusedVariables false
set_option linter.unusedSimpArgs false
namespace Go.Proofs.Ytilnpeekajnlhaa
open Go.RowKit Go.Maps
set_option maxRecDepth 100000 in
set_option maxHeartbeats 8000000 in
theorem even_not (kd : Int) (P J M B : Option Addr) (n pc k kc m mc b bc : Nat) (ps : List ByteArray) (ks : List Int) (ms : List MG) (f t : ByteArray) (cut : Int) (w : World) (hl : ps.length = n) (hP : ES.Rd w P ps) (hkl : ks.length = k) (hJ : EI.Rd w J ks) (hm : ms.length = m) (hM : EG.Rd w M ms) (ho : OkA ms)
    (hno : (smallB n k m b && rnB kd n k b ps ks ms f t) = false) :
    Calls Try.prog 5 #[NV kd (.slice P n pc) (.slice J k kc) (.slice M m mc) (.slice B b bc), .agg #[.string f, .string t], .int .u8 cut] w fun e w' => e = .returned (.bool true) ∧ Below w.heap.size w w' := by
  have y1 := two_new w (NO kd (.slice P n pc) (.slice J k kc) (.slice M m mc) (.slice B b bc)) (rgc f t)
  have H0 := Lib.hid (bel_alloc (alb w (NO kd (.slice P n pc) (.slice J k kc) (.slice M m mc) (.slice B b bc))) (rgc f t))
  have Z := Lib.hid y1.1
  have Y := Lib.hid y1.2
  clear y1
  obtain ⟨c0, c1, c2, c3, c4⟩ := cells5 Z.out
  obtain ⟨d0, d1, -, -⟩ := has_two Y.out
  have SA := Lib.hid (fun W => small_any kd P J M B n pc k kc m mc b bc W)
  cases hs : smallB n k m b
  · rw [hs] at SA
    clear hl hP hkl hJ hm hM ho hno hs
    go_enter Try.func5, Try.ntmps5
    go_wp2_with (first
      | (go_at_call 7; ((with_reducible refine (SA.out _).mono ?_); rintro e w1 ⟨rfl, b1⟩; have B1 := Lib.hid (bel_trans H0.out b1); clear b1))
      | (go_at_call 9; ((with_reducible refine (live_true _).mono ?_); rintro e w3 ⟨rfl, b3⟩; have B3 := Lib.hid (bel_trans B1.out b3); clear b3))
      | fail)
    go_ret
    exact ⟨rfl, B3.out⟩
  · rw [hs] at SA hno
    obtain ⟨s1, s2, s3, s4⟩ := small_yes hs
    rw [Bool.true_and] at hno
    have RA : Hid (∀ W, Below w.heap.size w W → Calls Try.prog 8 #[NV kd (.slice P n pc) (.slice J k kc) (.slice M m mc) (.slice B b bc), .agg #[.string f, .string t]] W fun e w' => e = .returned (.bool false) ∧ Below W.heap.size W w') := Lib.hid (fun W h => by
      have q := rright14 kd P J M B n pc k kc m mc b bc ps ks ms f t W hl (by omega) (es_rd.1 (hP.later h)) hkl (by omega) (hJ.later h) hm (by omega) (hM.later h) ho
      rw [hno] at q; exact q)
    clear hl hP hkl hJ hm hM ho hno hs
    go_enter Try.func5, Try.ntmps5
    go_wp2_with (first
      | (go_at_call 7; ((with_reducible refine (SA.out _).mono ?_); rintro e w1 ⟨rfl, b1⟩; have B1 := Lib.hid (bel_trans H0.out b1); replace Z := Lib.hid (keep_bel b1 Z.out); replace Y := Lib.hid (keep_bel b1 Y.out); clear b1 c0 c1 c2 c3 c4 d0 d1; obtain ⟨c0, c1, c2, c3, c4⟩ := cells5 Z.out; obtain ⟨d0, d1, -, -⟩ := has_two Y.out))
      | (go_at_call 8; ((with_reducible refine (RA.out _ B1.out).mono ?_); rintro e w2 ⟨rfl, b2⟩; have B2 := Lib.hid (bel_trans B1.out b2); clear b2))
      | (go_at_call 9; ((with_reducible refine (live_true _).mono ?_); rintro e w3 ⟨rfl, b3⟩; have B3 := Lib.hid (bel_trans B2.out b3); clear b3))
      | fail)
    go_ret
    exact ⟨rfl, B3.out⟩
set_option maxRecDepth 100000 in
set_option maxHeartbeats 8000000 in
theorem even_few (kd : Int) (P J M B : Option Addr) (n pc k kc m mc bc : Nat) (ps : List ByteArray) (ks : List Int) (ms : List MG) (f t : ByteArray) (cut : Int) (w : World) (hl : ps.length = n) (hP : ES.Rd w P ps) (hkl : ks.length = k) (hJ : EI.Rd w J ks) (hm : ms.length = m) (hM : EG.Rd w M ms) (ho : OkA ms)
    (hs : smallB n k m 0 = true) (hr : RN kd n k 0 ps ks ms f t) (hk2 : k < 2) :
    Calls Try.prog 5 #[NV kd (.slice P n pc) (.slice J k kc) (.slice M m mc) (.slice B 0 bc), .agg #[.string f, .string t], .int .u8 cut] w fun e w' => e = .returned (.bool true) ∧ Below w.heap.size w w' := by
  obtain ⟨s1, s2, s3, -⟩ := small_yes hs
  have SA : Hid (∀ W, Calls Try.prog 7 #[NV kd (.slice P n pc) (.slice J k kc) (.slice M m mc) (.slice B 0 bc)] W fun e w' => e = .returned (.bool true) ∧ Below W.heap.size W w') := Lib.hid (fun W => by
    have q := small_any kd P J M B n pc k kc m mc 0 bc W
    rw [hs] at q; exact q)
  have RA : Hid (∀ W, Below w.heap.size w W → Calls Try.prog 8 #[NV kd (.slice P n pc) (.slice J k kc) (.slice M m mc) (.slice B 0 bc), .agg #[.string f, .string t]] W fun e w' => e = .returned (.bool true) ∧ Below W.heap.size W w') := Lib.hid (fun W h => by
    have q := rright14 kd P J M B n pc k kc m mc 0 bc ps ks ms f t W hl (by omega) (es_rd.1 (hP.later h)) hkl (by omega) (hJ.later h) hm (by omega) (hM.later h) ho
    rw [rnB_iff.2 hr] at q; exact q)
  have hk2i : (k : Int) < 2 := by omega
  have y1 := two_new w (NO kd (.slice P n pc) (.slice J k kc) (.slice M m mc) (.slice B 0 bc)) (rgc f t)
  have H0 := Lib.hid (bel_alloc (alb w (NO kd (.slice P n pc) (.slice J k kc) (.slice M m mc) (.slice B 0 bc))) (rgc f t))
  have Z := Lib.hid y1.1
  have Y := Lib.hid y1.2
  clear y1 hl hP hkl hJ hm hM ho hs hr hk2 s1 s2 s3
  obtain ⟨c0, c1, c2, c3, c4⟩ := cells5 Z.out
  obtain ⟨d0, d1, -, -⟩ := has_two Y.out
  go_enter Try.func5, Try.ntmps5
  go_wp2_with (first
    | (go_at_call 7; ((with_reducible refine (SA.out _).mono ?_); rintro e w1 ⟨rfl, b1⟩; replace H0 := Lib.hid (bel_trans H0.out b1); replace Z := Lib.hid (keep_bel b1 Z.out); replace Y := Lib.hid (keep_bel b1 Y.out); clear b1 c0 c1 c2 c3 c4 d0 d1; obtain ⟨c0, c1, c2, c3, c4⟩ := cells5 Z.out; obtain ⟨d0, d1, -, -⟩ := has_two Y.out))
    | (go_at_call 8; ((with_reducible refine (RA.out _ H0.out).mono ?_); rintro e w2 ⟨rfl, b2⟩; replace H0 := Lib.hid (bel_trans H0.out b2); replace Z := Lib.hid (keep_bel b2 Z.out); replace Y := Lib.hid (keep_bel b2 Y.out); clear b2 c0 c1 c2 c3 c4 d0 d1; obtain ⟨c0, c1, c2, c3, c4⟩ := cells5 Z.out))
    | (go_at_call 9; ((with_reducible refine (live_true _).mono ?_); rintro e w3 ⟨rfl, b3⟩; have B3 := Lib.hid (bel_trans H0.out b3); clear b3))
    | fail)
  go_ret
  exact ⟨rfl, B3.out⟩
theorem even_law {W : World} {v : Value} {kd : Int} {P J M B : Option Addr} {n pc k kc m mc b bc : Nat} {ps : List ByteArray} {ks : List Int} {ms : List MG} (N : NodeIn W v kd P J M B n pc k kc m mc b bc ps ks ms) (f t : ByteArray) (cut : Int) (hf : SzOk f) (ht : SzOk t) (hc : (Lit.int .u8 cut).wf = true) :
    Calls Try.prog 5 #[.agg #[.int .u8 kd, .slice P n pc, .slice J k kc, .slice M m mc, .slice B b bc], .agg #[.string f, .string t], .int .u8 cut] W fun e w' => e = .returned (.bool true) ∧ Below W.heap.size W w' := by
  cases hno : (smallB n k m b && rnB kd n k b ps ks ms f t)
  · exact even_not kd P J M B n pc k kc m mc b bc ps ks ms f t cut W N.hl N.hP N.hkl N.hJ N.hm N.hM N.ho hno
  · rw [Bool.and_eq_true] at hno
    obtain ⟨hs, hr⟩ := hno
    have hr := rnB_iff.1 hr
    have hb := hr.hb
    subst hb
    have hk := hr.hk
    by_cases h2 : k < 2
    · exact even_few kd P J M B n pc k kc m mc bc ps ks ms f t cut W N.hl N.hP N.hkl N.hJ N.hm N.hM N.ho hs hr h2
    · have hcc : 0 ≤ cut ∧ cut ≤ 255 := by
        have := hc
        simp [Lit.wf] at this
        have e1 : IntKind.u8.min = 0 := by decide
        have e2 : IntKind.u8.max = 255 := by decide
        omega
      have hn := N.hl
      have hkl := N.hkl
      obtain ⟨b0, o0, e0, -, -⟩ := es_at N.hP (i := 0) (x := ps[0]'(by omega)) (List.getElem?_eq_getElem _)
      obtain ⟨b1, o1, e1, -, -⟩ := ei_at N.hJ (i := 0) (x := ks[0]'(by omega)) (List.getElem?_eq_getElem _)
      subst e0 e1
      have hq : (cut % ((k : Int) - 1)).toNat < ps.length := by
        have h3 := Int.emod_lt_of_pos cut (show (0 : Int) < (k : Int) - 1 by omega)
        have h4 := Int.emod_nonneg cut (show ((k : Int) - 1) ≠ 0 by omega)
        omega
      have hp : k / 2 - 1 < ps.length := by omega
      exact even_yes kd b0 o0 b1 o1 M B n pc k kc m mc bc ps ks ms f t cut W N.hl N.hP N.hkl N.hJ N.hx N.hm N.hM N.ho N.hps hf ht hs hr (by omega) N.np N.nk hcc.1 hcc.2 _ rfl _ rfl _ (List.getElem?_eq_getElem hq) (k / 2) (k / 2 - 1) rfl (by omega) _ (List.getElem?_eq_getElem hp)
end Go.Proofs.Ytilnpeekajnlhaa
