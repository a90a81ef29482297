/- The law InnerTurns, on whatever came in. -/
import Derived.Test.YtilnpeekajnlhaaTu21
import Derived.Test.YtilnpeekajnlhaaTu16
import Derived.Test.YtilnpeekajnlhaaTu12
import Derived.DataShut
set_option linter.unusedVariables false
set_option linter.unusedSimpArgs false
namespace Go.Proofs.Ytilnpeekajnlhaa
open Go.RowKit Go.Maps
set_option maxRecDepth 100000 in
set_option maxHeartbeats 8000000 in
theorem turns_not (kd : Int) (P J M B : Option Addr) (n pc k kc m mc b bc : Nat) (ps : List ByteArray) (ks : List Int) (ms : List MG) (f t : ByteArray) (i : Int) (s : ByteArray) (kid : Int) (w : World) (hl : ps.length = n) (hP : ES.Rd w P ps) (hkl : ks.length = k) (hJ : EI.Rd w J ks) (hm : ms.length = m) (hM : EG.Rd w M ms) (ho : OkA ms)
    (hno : (smallB n k m b && rnB kd n k b ps ks ms f t) = false) :
    Calls Try.prog 4 #[NV kd (.slice P n pc) (.slice J k kc) (.slice M m mc) (.slice B b bc), .agg #[.string f, .string t], .int .i64 i, .string s, .int .i64 kid] w fun e w' => e = .returned (.bool true) ∧ Below w.heap.size w w' := by
  have y1 := two_new w (NO kd (.slice P n pc) (.slice J k kc) (.slice M m mc) (.slice B b bc)) (rgc f t)
  have H0 := Lib.hid (bel_alloc (alb w (NO kd (.slice P n pc) (.slice J k kc) (.slice M m mc) (.slice B b bc))) (rgc f t))
  have Z := Lib.hid y1.1
  have Y := Lib.hid y1.2
  clear y1
  obtain ⟨c0, c1, c2, c3, c4⟩ := cells5 Z.out
  obtain ⟨d0, d1, -, -⟩ := has_two Y.out
  have SA := Lib.hid (fun W => small_any kd P J M B n pc k kc m mc b bc W)
  cases hs : smallB n k m b
  · rw [hs] at SA
    clear hl hP hkl hJ hm hM ho hno hs
    go_enter Try.func4, Try.ntmps4
    go_wp2_with (first
      | (go_at_call 7; ((with_reducible refine (SA.out _).mono ?_); rintro e w1 ⟨rfl, b1⟩; have B1 := Lib.hid (bel_trans H0.out b1); clear b1))
      | (go_at_call 9; ((with_reducible refine (live_true _).mono ?_); rintro e w3 ⟨rfl, b3⟩; have B3 := Lib.hid (bel_trans B1.out b3); clear b3))
      | fail)
    go_ret
    exact ⟨rfl, B3.out⟩
  · rw [hs] at SA hno
    obtain ⟨s1, s2, s3, s4⟩ := small_yes hs
    rw [Bool.true_and] at hno
    have RA : Hid (∀ W, Below w.heap.size w W → Calls Try.prog 8 #[NV kd (.slice P n pc) (.slice J k kc) (.slice M m mc) (.slice B b bc), .agg #[.string f, .string t]] W fun e w' => e = .returned (.bool false) ∧ Below W.heap.size W w') := Lib.hid (fun W h => by
      have q := rright14 kd P J M B n pc k kc m mc b bc ps ks ms f t W hl (by omega) (es_rd.1 (hP.later h)) hkl (by omega) (hJ.later h) hm (by omega) (hM.later h) ho
      rw [hno] at q; exact q)
    clear hl hP hkl hJ hm hM ho hno hs
    go_enter Try.func4, Try.ntmps4
    go_wp2_with (first
      | (go_at_call 7; ((with_reducible refine (SA.out _).mono ?_); rintro e w1 ⟨rfl, b1⟩; have B1 := Lib.hid (bel_trans H0.out b1); replace Z := Lib.hid (keep_bel b1 Z.out); replace Y := Lib.hid (keep_bel b1 Y.out); clear b1 c0 c1 c2 c3 c4 d0 d1; obtain ⟨c0, c1, c2, c3, c4⟩ := cells5 Z.out; obtain ⟨d0, d1, -, -⟩ := has_two Y.out))
      | (go_at_call 8; ((with_reducible refine (RA.out _ B1.out).mono ?_); rintro e w2 ⟨rfl, b2⟩; have B2 := Lib.hid (bel_trans B1.out b2); clear b2))
      | (go_at_call 9; ((with_reducible refine (live_true _).mono ?_); rintro e w3 ⟨rfl, b3⟩; have B3 := Lib.hid (bel_trans B2.out b3); clear b3))
      | fail)
    go_ret
    exact ⟨rfl, B3.out⟩
theorem wf_small {x : Int} (h : 1 ≤ x ∧ x ≤ 4096) : (Lit.int .i64 x).wf = true := by
  rw [Lit.wf_int_iff]
  simp only [IntKind.min, IntKind.max, IntKind.signed, IntKind.bits, if_true]
  omega
theorem tk_len {α : Type} (b : Bool) (x : List α) (q : Nat) (h : x.length ≤ q) : (tk b x []).length ≤ q := by
  cases b
  · exact Nat.zero_le _
  · exact h
theorem put_len (p : List ByteArray) (i : Int) (s : ByteArray) : (Pv.putF p i s).2.length ≤ p.length + 1 := by
  cases h : (Pv.putF p i s).1
  · rw [put_no1 h]; simp
  · obtain ⟨j, rfl, hj, -, e⟩ := put_yes1 h
    rw [e]; exact Nat.le_of_eq (ins_len p j s hj)
theorem drop_len (p : List ByteArray) (i : Int) : (Pv.dropF p i).2.length ≤ p.length := by
  cases h : (Pv.dropF p i).1
  · rw [drop_no1 h]; simp
  · obtain ⟨j, rfl, hj, e⟩ := drop_yes1 h
    rw [e]
    show (p.take j ++ p.drop (j + 1)).length ≤ _
    rw [List.length_append, List.length_take, List.length_drop]; omega
theorem move_len (p : List ByteArray) (i : Int) (s : ByteArray) : (Pv.moveF p i s).2.length ≤ p.length := by
  cases h : (Pv.moveF p i s).1
  · rw [move_no1 h]; simp
  · obtain ⟨j, rfl, hj, -, e⟩ := move_yes1 h
    rw [e]
    show (Pv.mov p j s).length ≤ _
    unfold Pv.mov
    rw [List.length_append, List.length_cons, List.length_take, List.length_drop]; omega
theorem spK_len (ks : List Int) (i kid : Int) : (spK ks i kid).length ≤ ks.length + 1 := by
  unfold spK
  rw [List.length_append, List.length_append, List.length_take, List.length_drop, List.length_singleton]; omega
theorem unK_len (ks : List Int) (i : Int) : (unK ks i).length ≤ ks.length := by
  unfold unK
  rw [List.length_append, List.length_take, List.length_drop]; omega
theorem turns_law {W : World} {v : Value} {kd : Int} {P J M B : Option Addr} {n pc k kc m mc b bc : Nat} {ps : List ByteArray} {ks : List Int} {ms : List MG} (N : NodeIn W v kd P J M B n pc k kc m mc b bc ps ks ms) (f t : ByteArray) (i : Int) (s : ByteArray) (kid : Int) (hi : -9223372036854775808 ≤ i ∧ i ≤ 9223372036854775807) :
    Calls Try.prog 4 #[.agg #[.int .u8 kd, .slice P n pc, .slice J k kc, .slice M m mc, .slice B b bc], .agg #[.string f, .string t], .int .i64 i, .string s, .int .i64 kid] W fun e w' => e = .returned (.bool true) ∧ Below W.heap.size W w' := by
  cases hno : (smallB n k m b && rnB kd n k b ps ks ms f t)
  · exact turns_not kd P J M B n pc k kc m mc b bc ps ks ms f t i s kid W N.hl N.hP N.hkl N.hJ N.hm N.hM N.ho hno
  · rw [Bool.and_eq_true] at hno
    obtain ⟨hs, hr0⟩ := hno
    have hr := rnB_iff.1 hr0
    have hb := hr.hb
    subst hb
    obtain ⟨s1, s2, s3, -⟩ := small_yes hs
    have hk := hr.hk
    have hkids := (kids_iff ks).1 hr.hks
    have hmax : pc ≤ 9223372036854775807 := N.np.2
    have T : TI W P J M n pc k kc m ps ks ms i := ⟨N.hl, s2, N.np.1, hmax, N.hP, N.hkl, hk, N.nk.1, N.hJ, N.hm, s3, N.hM, hi, (rises_iff _).2 ((pv_iff ps f t).1 hr.hps).2.2⟩
    have q1 := put_len ps i s
    have q2 := drop_len ps i
    have q3 := move_len ps i s
    have q4 := spK_len ks i kid
    have q5 := unK_len ks i
    have hl := N.hl
    have hkl := N.hkl
    have hm := N.hm
    refine turns_yes kd P J M B n pc k kc m mc bc ks f t s i kid W (Pv.putF ps i s).1 (Pv.dropF ps i).1 (Pv.moveF ps i s).1 (tk (Pv.putF ps i s).1 kd 0) (tk (Pv.dropF ps i).1 kd 0) (tk (Pv.moveF ps i s).1 kd 0) (Pv.putF ps i s).2 (Pv.dropF ps i).2 (Pv.moveF ps i s).2 (tk (Pv.putF ps i s).1 (spK ks i kid) []) (tk (Pv.dropF ps i).1 (unK ks i) []) (tk (Pv.moveF ps i s).1 ks []) (tk (Pv.putF ps i s).1 ms []) (tk (Pv.dropF ps i).1 ms []) (tk (Pv.moveF ps i s).1 ms []) hs ?_ ?_ ?_ ?_ ?_ ?_ ?_ ?_ ?_ ?_ ?_ ?_ ?_
    · intro V h
      have q := rright14 kd P J M B n pc k kc m mc 0 bc ps ks ms f t V hl (by omega) (es_rd.1 (N.hP.later h)) hkl (by omega) (N.hJ.later h) hm (by omega) (N.hM.later h) N.ho
      rw [hr0] at q; exact q
    · exact fun V h => isplit_any kd P J M B n pc k kc m mc bc ps ks ms i s kid V (T.later h)
    · exact fun V h => rsplit_any kd P J M B n pc k kc m mc bc ps ks ms i s kid V (T.later h)
    · exact fun V h => iunite_any kd P J M B n pc k kc m mc bc ps ks ms i V (T.later h)
    · exact fun V h => runite_any kd P J M B n pc k kc m mc bc ps ks ms i V (T.later h)
    · exact fun V h => imove_any kd P J M B n pc k kc m mc bc ps ks ms i s V (T.later h)
    · exact fun V h => rmove2_any kd P J M B n pc k kc m mc bc ps ks ms i s V (T.later h)
    · exact ⟨by omega, tk_len _ _ _ (by omega), tk_len _ _ _ (by omega)⟩
    · exact ⟨by omega, tk_len _ _ _ (by omega), tk_len _ _ _ (by omega)⟩
    · exact ⟨by omega, tk_len _ _ _ (by omega), tk_len _ _ _ (by omega)⟩
    · exact fun V h => rplace_any kd P J M B n pc k kc m mc bc ks kid V hkl (by omega) (N.hJ.later h)
    · intro ho h1 h2 h3 h4 h5 P1 J1 M1 B1 c1 c2 c3 c4 V r1 r2 r3
      simp only [ho, tk, if_true] at r2 r3 ⊢
      exact iright_true kd P1 J1 M1 B1 _ c1 _ c2 _ c3 0 c4 _ _ _ f t V rfl (by omega) (es_rd.1 r1) rfl r2 (fun x hx => by
        unfold spK at hx
        rcases List.mem_append.1 hx with hx | hx
        · rcases List.mem_append.1 hx with hx | hx
          · exact wf_small (hkids.1 x (List.mem_of_mem_take hx))
          · rw [List.mem_singleton.1 hx]; exact wf_small ⟨h2, h3⟩
        · exact wf_small (hkids.1 x (List.mem_of_mem_drop hx))) rfl (by omega) r3 N.ho (rn_split hr hl hkl ho h1 h2 h3 h4 h5)
    · intro ho P1 J1 M1 B1 c1 c2 c3 c4 V r1 r2 r3
      simp only [ho, tk, if_true] at r2 r3 ⊢
      exact iright_true kd P1 J1 M1 B1 _ c1 _ c2 _ c3 0 c4 _ _ _ f t V rfl (by omega) (es_rd.1 r1) rfl r2 (fun x hx => by
        unfold unK at hx
        rcases List.mem_append.1 hx with hx | hx
        · exact wf_small (hkids.1 x (List.mem_of_mem_take hx))
        · exact wf_small (hkids.1 x (List.mem_of_mem_drop hx))) rfl (by omega) r3 N.ho (rn_unite hr hl hkl ho)
end Go.Proofs.Ytilnpeekajnlhaa
