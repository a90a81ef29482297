/- Texts of the proof, one behind the other. -/
import Derived.Test.YtilnpeekajnlhaaOk29
import Derived.Test.YtilnpeekajnlhaaOk25
import Derived.Test.YtilnpeekajnlhaaOk28
set_option linter.unusedVariables false
set_option linter.unusedSimpArgs false
namespace Go.Proofs.Ytilnpeekajnlhaa
open Go.RowKit Go.Maps
set_option maxRecDepth 100000 in
set_option maxHeartbeats 8000000 in
theorem live_true (w : World) : Calls Try.prog 9 #[] w fun r w' => r = .returned (.bool true) ∧ Below w.heap.size w w' := by
  obtain ⟨V, hV⟩ : ∃ V, V = (((w.alloc (.cells #[.string jM] 9)).alloc (.cells #[.int .i64 5, .int .i64 6] 3)).alloc (.cells #[.int .u8 4, .int .i64 1, .string jA, .string jZ, .string emptyS, .int .u64 0, .int .u8 1, .int .i64 2, .string jB, .string emptyS, .string emptyS, .int .u64 0] 62)).alloc (NO 2 (.slice (some ⟨w.heap.size, 0, none⟩) 1 1) (.slice (some ⟨w.heap.size + 1, 0, none⟩) 2 2) (.slice (some ⟨w.heap.size + 1 + 1, 0, none⟩) 2 2) (.slice none 0 0)) := ⟨_, rfl⟩
  have b1 := alb w (.cells #[.string jM] 9)
  have b2 := alb (w.alloc (.cells #[.string jM] 9)) (.cells #[.int .i64 5, .int .i64 6] 3)
  have b3 := alb ((w.alloc (.cells #[.string jM] 9)).alloc (.cells #[.int .i64 5, .int .i64 6] 3)) (.cells #[.int .u8 4, .int .i64 1, .string jA, .string jZ, .string emptyS, .int .u64 0, .int .u8 1, .int .i64 2, .string jB, .string emptyS, .string emptyS, .int .u64 0] 62)
  have b4 := alb (((w.alloc (.cells #[.string jM] 9)).alloc (.cells #[.int .i64 5, .int .i64 6] 3)).alloc (.cells #[.int .u8 4, .int .i64 1, .string jA, .string jZ, .string emptyS, .int .u64 0, .int .u8 1, .int .i64 2, .string jB, .string emptyS, .string emptyS, .int .u64 0] 62)) (NO 2 (.slice (some ⟨w.heap.size, 0, none⟩) 1 1) (.slice (some ⟨w.heap.size + 1, 0, none⟩) 2 2) (.slice (some ⟨w.heap.size + 1 + 1, 0, none⟩) 2 2) (.slice none 0 0))
  have rP := RE.Rd.lit (E := ES) w 9 [jM] #[.string jM] rfl
  have rK := RE.Rd.lit (E := EI) (w.alloc (.cells #[.string jM] 9)) 3 [5, 6] #[.int .i64 5, .int .i64 6] rfl
  have rM := RE.Rd.lit (E := EG) ((w.alloc (.cells #[.string jM] 9)).alloc (.cells #[.int .i64 5, .int .i64 6] 3)) 62 [q1, q2] #[.int .u8 4, .int .i64 1, .string jA, .string jZ, .string emptyS, .int .u64 0, .int .u8 1, .int .i64 2, .string jB, .string emptyS, .string emptyS, .int .u64 0] rfl
  have hz := heap_alloc_new (((w.alloc (.cells #[.string jM] 9)).alloc (.cells #[.int .i64 5, .int .i64 6] 3)).alloc (.cells #[.int .u8 4, .int .i64 1, .string jA, .string jZ, .string emptyS, .int .u64 0, .int .u8 1, .int .i64 2, .string jB, .string emptyS, .string emptyS, .int .u64 0] 62)) (NO 2 (.slice (some ⟨w.heap.size, 0, none⟩) 1 1) (.slice (some ⟨w.heap.size + 1, 0, none⟩) 2 2) (.slice (some ⟨w.heap.size + 1 + 1, 0, none⟩) 2 2) (.slice none 0 0))
  simp only [World.size_alloc] at rK rM hz
  have hP : ES.Rd V (some ⟨w.heap.size, 0, none⟩) [jM] := by rw [hV]; exact rP.later (bel_trans (bel_trans b2 b3) b4)
  have hK : EI.Rd V (some ⟨w.heap.size + 1, 0, none⟩) [5, 6] := by rw [hV]; exact rK.later (bel_trans b3 b4)
  have hM : EG.Rd V (some ⟨w.heap.size + 1 + 1, 0, none⟩) [q1, q2] := by rw [hV]; exact rM.later b4
  have Z0 : V.heap[w.heap.size + 1 + 1 + 1]? = some (NO 2 (.slice (some ⟨w.heap.size, 0, none⟩) 1 1) (.slice (some ⟨w.heap.size + 1, 0, none⟩) 2 2) (.slice (some ⟨w.heap.size + 1 + 1, 0, none⟩) 2 2) (.slice none 0 0)) := by rw [hV]; exact hz
  have hb : Below w.heap.size w V := by rw [hV]; exact bel_trans (bel_trans (bel_trans b1 b2) b3) b4
  have AF : Hid (∀ W, Below V.heap.size V W → Calls Try.prog 18 #[NV 2 (.slice (some ⟨w.heap.size, 0, none⟩) 1 1) (.slice (some ⟨w.heap.size + 1, 0, none⟩) 2 2) (.slice (some ⟨w.heap.size + 1 + 1, 0, none⟩) 2 2) (.slice none 0 0), .agg #[.string emptyS, .string emptyS], .int .i64 0] W fun r w' => (∃ A' c', r = .returned (.slice A' 2 c') ∧ EG.Row w' W.heap.size A' [q3, q2] c') ∧ Below W.heap.size W w') := Lib.hid (fun W h => by
    have q := ifor_any 2 (some ⟨w.heap.size, 0, none⟩) (some ⟨w.heap.size + 1, 0, none⟩) (some ⟨w.heap.size + 1 + 1, 0, none⟩) none 1 1 2 2 2 2 0 0 jp [q1, q2] emptyS emptyS 0 W rfl (by omega) (es_rd.1 (hP.later h)) rfl rfl (by omega) (hM.later h) lv_ok
    rw [lv_kid] at q
    exact q)
  have AH : Hid (∀ W, Below V.heap.size V W → Calls Try.prog 35 #[NV 2 (.slice (some ⟨w.heap.size, 0, none⟩) 1 1) (.slice (some ⟨w.heap.size + 1, 0, none⟩) 2 2) (.slice (some ⟨w.heap.size + 1 + 1, 0, none⟩) 2 2) (.slice none 0 0), .agg #[.string emptyS, .string emptyS]] W fun r w' => r = .returned (.tuple #[.int .i64 0, .int .i64 35]) ∧ Below W.heap.size W w') := Lib.hid (fun W h => by
    have q := hot_any 2 (some ⟨w.heap.size, 0, none⟩) (some ⟨w.heap.size + 1, 0, none⟩) (some ⟨w.heap.size + 1 + 1, 0, none⟩) none 1 1 2 2 2 2 0 0 jp [q1, q2] emptyS emptyS W rfl (by omega) (es_rd.1 (hP.later h)) rfl (by omega) (by omega) (hM.later h) lv_ok lv_hok
    rw [lv_wgts, show ([35, 18] : List Int).length = 2 from rfl, lv_hot] at q
    exact q)
  have AK : Hid (∀ W, Below V.heap.size V W → Calls Try.prog 36 #[NV 2 (.slice (some ⟨w.heap.size, 0, none⟩) 1 1) (.slice (some ⟨w.heap.size + 1, 0, none⟩) 2 2) (.slice (some ⟨w.heap.size + 1 + 1, 0, none⟩) 2 2) (.slice none 0 0), .string jM] W fun r w' => r = .returned (.tuple #[.int .i64 1, .bool true]) ∧ Below W.heap.size W w') := Lib.hid (fun W h => by
    have q := kid_any 2 (some ⟨w.heap.size, 0, none⟩) (some ⟨w.heap.size + 1, 0, none⟩) (some ⟨w.heap.size + 1 + 1, 0, none⟩) none 1 1 2 2 2 2 0 0 jp jM W rfl (by omega) (es_rd.1 (hP.later h)) rfl
    rw [lv_prt] at q
    exact q)
  have AR : Hid (∀ W, Below V.heap.size V W → Calls Try.prog 16 #[NV 2 (.slice (some ⟨w.heap.size, 0, none⟩) 1 1) (.slice (some ⟨w.heap.size + 1, 0, none⟩) 2 2) (.slice (some ⟨w.heap.size + 1 + 1, 0, none⟩) 2 2) (.slice none 0 0), .agg #[.string emptyS, .string emptyS]] W fun r w' => r = .returned (.bool true) ∧ Below W.heap.size W w') := Lib.hid (fun W h => iright_true 2 (some ⟨w.heap.size, 0, none⟩) (some ⟨w.heap.size + 1, 0, none⟩) (some ⟨w.heap.size + 1 + 1, 0, none⟩) none 1 1 2 2 2 2 0 0 jp [5, 6] [q1, q2] emptyS emptyS W rfl (by omega) (es_rd.1 (hP.later h)) rfl (hK.later h) (by intro x hx; simp at hx; rcases hx with rfl | rfl <;> decide) rfl (by omega) (hM.later h) lv_ok lv_rn)
  have HW := Lib.hid hb
  have Z := Lib.hid Z0
  have H0 := Lib.hid (Below.refl V.heap.size V)
  have HV := Lib.hid hV
  clear b1 b2 b3 b4 rP rK rM hz hP hK hM Z0 hb hV
  go_enter Try.func9, Try.ntmps9
  go_wp2_with (first
    | (go_at_call 18; ((with_reducible refine (AF.out _ (by rw [← HV.out]; exact Below.refl _ _)).mono ?_); rintro e w1 ⟨⟨A1, a1, rfl, r1⟩, b⟩; rw [← HV.out] at b; have R1 := Lib.hid r1.rd; replace H0 := Lib.hid b; replace Z := Lib.hid (keep_bel b Z.out); obtain ⟨c0, c1, c2, c3, c4⟩ := cells5 Z.out; clear b r1))
    | (go_at_call 35; ((with_reducible refine (AH.out _ H0.out).mono ?_); rintro e w2 ⟨rfl, b⟩; replace R1 := Lib.hid (R1.out.later b); replace H0 := Lib.hid (bel_trans H0.out b); replace Z := Lib.hid (keep_bel b Z.out); clear b c0 c1 c2 c3 c4; obtain ⟨c0, c1, c2, c3, c4⟩ := cells5 Z.out))
    | (go_at_call 36; ((with_reducible refine (AK.out _ H0.out).mono ?_); rintro e w3 ⟨rfl, b⟩; replace R1 := Lib.hid (R1.out.later b); replace H0 := Lib.hid (bel_trans H0.out b); replace Z := Lib.hid (keep_bel b Z.out); clear b c0 c1 c2 c3 c4; obtain ⟨c0, c1, c2, c3, c4⟩ := cells5 Z.out))
    | (go_at_call 16; ((with_reducible refine (AR.out _ H0.out).mono ?_); rintro e w4 ⟨rfl, b⟩; replace R1 := Lib.hid (R1.out.later b); replace H0 := Lib.hid (bel_trans H0.out b); replace Z := Lib.hid (keep_bel b Z.out); clear b c0 c1 c2 c3 c4; obtain ⟨c0, c1, c2, c3, c4⟩ := cells5 Z.out; obtain ⟨b0, off, rfl, _, _, _, _, g3, _, _⟩ := eg_at R1.out (i := 0) rfl; simp only [Nat.zero_mul, Nat.add_zero] at g3))
    | fail)
  go_ret
  exact ⟨rfl, bel_trans HW.out H0.out⟩
end Go.Proofs.Ytilnpeekajnlhaa
namespace Go.Proofs.Ytilnpeekajnlhaa
open Go.RowKit Go.Maps
structure ND where
  P : Option Addr
  n : Nat
  pc : Nat
  J : Option Addr
  k : Nat
  kc : Nat
  M : Option Addr
  m : Nat
  mc : Nat
/-- The nodes of a list, with rows that may be written. -/
def LG (NL N : Nat) (L : List ND) (W : World) : Prop := ∀ i x, L[i]? = some x → W.cell? ⟨NL, i * 5 + 1, none⟩ = some (.slice x.P x.n x.pc) ∧ W.cell? ⟨NL, i * 5 + 2, none⟩ = some (.slice x.J x.k x.kc) ∧ W.cell? ⟨NL, i * 5 + 3, none⟩ = some (.slice x.M x.m x.mc) ∧
  WrO W N NL x.P x.n ∧ WrO W N NL x.J x.k ∧ WrO W N NL x.M (x.m * 6)
theorem LG.set {NL N : Nat} {L : List ND} {W : World} (h : LG NL N L W) (g o : Nat) (v : Value) (hg : g < NL) : LG NL N L (W.setCell ⟨g, o, none⟩ v) := by
  intro i x hx
  obtain ⟨h1, h2, h3, h4, h5, h6⟩ := h i x hx
  have e : ∀ p, (W.setCell ⟨g, o, none⟩ v).cell? ⟨NL, p, none⟩ = W.cell? ⟨NL, p, none⟩ := fun p => World.cell?_setCell_other _ _ _ _ (by first | (simp; done) | (simp; omega))
  exact ⟨by rw [e]; exact h1, by rw [e]; exact h2, by rw [e]; exact h3, h4.set g o v, h5.set g o v, h6.set g o v⟩
theorem LG.drew {NL N : Nat} {L : List ND} {W : World} (h : LG NL N L W) : LG NL N L W.drew := h
set_option maxRecDepth 100000 in
set_option maxHeartbeats 8000000 in
theorem own_yes (kd : Int) (P J M B : Option Addr) (n pc k kc m mc bc : Nat) (ps : List ByteArray) (ks : List Int) (ms : List MG) (f t : ByteArray) (w : World) (hl : ps.length = n) (hP : ES.Rd w P ps) (hkl : ks.length = k) (hJ : EI.Rd w J ks) (hm : ms.length = m) (hM : EG.Rd w M ms) (ho : OkA ms) (hs : smallB n k m 0 = true) (hr : RN kd n k 0 ps ks ms f t)
    (ka kb : Int) (n1 k1 l1 n2 k2 l2 : Nat) (pa : List ByteArray) (ia : List Int) (ma : List MG) (pb : List ByteArray) (ib : List Int) (mb : List MG) (at_ : ByteArray) (q1 : pa.length = n1) (q2 : ia.length = k1) (q3 : ma.length = l1) (q4 : pb.length = n2) (q5 : ib.length = k2) (q6 : mb.length = l2) (hbd : (n1 ≤ 100 ∧ k1 ≤ 100 ∧ l1 ≤ 100) ∧ n2 ≤ 100 ∧ k2 ≤ 100 ∧ l2 ≤ 100)
    (HA : ∀ W, Below w.heap.size w W → Calls Try.prog 31 #[NV kd (.slice P n pc) (.slice J k kc) (.slice M m mc) (.slice B 0 bc)] W (HalvesP W ka kb n1 k1 l1 n2 k2 l2 pa ia ma pb ib mb at_)) :
    Calls Try.prog 6 #[NV kd (.slice P n pc) (.slice J k kc) (.slice M m mc) (.slice B 0 bc), .agg #[.string f, .string t]] w fun e w' => e = .returned (.bool true) ∧ Below w.heap.size w w' := by
  obtain ⟨s1, s2, s3, -⟩ := small_yes hs
  have hk := hr.hk
  have SA : Hid (∀ W, Calls Try.prog 7 #[NV kd (.slice P n pc) (.slice J k kc) (.slice M m mc) (.slice B 0 bc)] W fun e w' => e = .returned (.bool true) ∧ Below W.heap.size W w') := Lib.hid (fun W => by
    have q := small_any kd P J M B n pc k kc m mc 0 bc W
    rw [hs] at q; exact q)
  have RA : Hid (∀ W, Below w.heap.size w W → Calls Try.prog 8 #[NV kd (.slice P n pc) (.slice J k kc) (.slice M m mc) (.slice B 0 bc), .agg #[.string f, .string t]] W fun e w' => e = .returned (.bool true) ∧ Below W.heap.size W w') := Lib.hid (fun W h => by
    have q := rright14 kd P J M B n pc k kc m mc 0 bc ps ks ms f t W hl (by omega) (es_rd.1 (hP.later h)) hkl (by omega) (hJ.later h) hm (by omega) (hM.later h) ho
    rw [rnB_iff.2 hr] at q; exact q)
  obtain ⟨lr, hlr⟩ : ∃ lr, (restL ps f t 0 ms).length = lr := ⟨_, rfl⟩
  have OA := Lib.hid (fun W (h : Below w.heap.size w W) => own_any kd P J M B n pc k kc m mc bc ps ks ms W hl hkl hm (by omega) (by omega) (by omega) (hP.later h) (hJ.later h) (hM.later h))
  have TA := Lib.hid (fun W (h : Below w.heap.size w W) => itake_any kd P J M B n pc k kc m mc bc ps ks ms f t 0 W hl (by omega) (es_rd.1 (hP.later h)) hkl hk (hJ.later h) hm (by omega) (hM.later h) ho)
  have AA : Hid (∀ W, Below w.heap.size w W → Calls Try.prog 17 #[NV kd (.slice P n pc) (.slice J k kc) (.slice M m mc) (.slice B 0 bc), .slice none 0 0] W (AddP W kd n k m ps ks (stab (ms ++ [])))) := Lib.hid (fun W (h : Below w.heap.size w W) => iadd_any kd P J M B none n pc k kc m mc bc 0 0 ps ks ms [] W hl (by omega) hkl (by omega) hm (by omega) rfl (by omega) (hP.later h) (hJ.later h) (hM.later h) (.inl rfl))
  unfold OwnP at OA
  unfold TakeP at TA
  rw [hlr] at TA
  unfold AddP at AA
  unfold HalvesP at HA
  have HH := Lib.hid HA
  have SM := Lib.hid (fun (P2 J2 B2 M2 : Option Addr) (p2 j2 m2 b2 : Nat) W (h : Below w.heap.size w W) (h1 : ES.Rd W P2 ps) (h2 : EI.Rd W J2 ks) (h3 : EG.Rd W M2 ms) => same14 kd P J M B P2 J2 M2 B2 n k m pc kc mc bc p2 j2 m2 b2 ps ks ms W hl (by omega) hkl (by omega) hm (by omega) (hP.later h) h1 (hJ.later h) h2 (hM.later h) h3)
  have HQ := Lib.hid (show (stab (ms ++ [])).length = m by rw [stab_len, List.length_append, hm]; rfl)
  have HLR := Lib.hid hlr
  have HPL := Lib.hid hl
  have HBD := Lib.hid hbd
  have HLR6 : Hid (lr ≤ 60) := Lib.hid (by have := restL_len ps f t 0 ms; omega)
  have HKL := Lib.hid hkl
  have HML := Lib.hid hm
  have y1 := two_new w (NO kd (.slice P n pc) (.slice J k kc) (.slice M m mc) (.slice B 0 bc)) (rgc f t)
  have H0 := Lib.hid (bel_alloc (alb w (NO kd (.slice P n pc) (.slice J k kc) (.slice M m mc) (.slice B 0 bc))) (rgc f t))
  have Z := Lib.hid y1.1
  have Y := Lib.hid y1.2
  have Q1 := Lib.hid q1; have Q2 := Lib.hid q2; have Q3 := Lib.hid q3; have Q4 := Lib.hid q4; have Q5 := Lib.hid q5; have Q6 := Lib.hid q6
  have B20 := Lib.hid (And.intro s1 (And.intro s2 s3))
  clear hbd y1 hl hP hkl hJ hm hM ho hs hr hk HA q1 q2 q3 q4 q5 q6 hlr s1 s2 s3
  obtain ⟨c0, c1, c2, c3, c4⟩ := cells5 Z.out
  obtain ⟨d0, d1, -, -⟩ := has_two Y.out
  go_enter Try.func6, Try.ntmps6
  go_upto_region 4 with (first
    | (go_at_call 7; ((with_reducible refine (SA.out _).mono ?_); rintro e w1 ⟨rfl, b1⟩; replace H0 := Lib.hid (bel_trans H0.out b1); replace Z := Lib.hid (keep_bel b1 Z.out); replace Y := Lib.hid (keep_bel b1 Y.out); clear b1 c0 c1 c2 c3 c4 d0 d1; obtain ⟨c0, c1, c2, c3, c4⟩ := cells5 Z.out; obtain ⟨d0, d1, -, -⟩ := has_two Y.out))
    | (go_at_call 8; ((with_reducible refine (RA.out _ H0.out).mono ?_); rintro e w2 ⟨rfl, b2⟩; replace H0 := Lib.hid (bel_trans H0.out b2); replace Z := Lib.hid (keep_bel b2 Z.out); replace Y := Lib.hid (keep_bel b2 Y.out); clear b2 c0 c1 c2 c3 c4 d0 d1; obtain ⟨c0, c1, c2, c3, c4⟩ := cells5 Z.out; obtain ⟨d0, d1, -, -⟩ := has_two Y.out))
    | (go_at_call 30; ((with_reducible refine (OA.out _ H0.out).mono ?_); rintro e w3 ⟨P3, p3, J3, j3, M3, m3, B3, b3, rfl, rr, bb⟩; have RR := Lib.hid rr; replace H0 := Lib.hid (bel_trans H0.out bb); replace Z := Lib.hid (keep_bel bb Z.out); replace Y := Lib.hid (keep_bel bb Y.out); clear bb rr c0 c1 c2 c3 c4 d0 d1))
    | fail)
  have AL4 := alb w3 (NO kd (.slice P3 n p3) (.slice J3 k j3) (.slice M3 m m3) (.slice B3 0 b3))
  obtain ⟨W4, hW4⟩ : ∃ W4, W4 = w3.alloc (NO kd (.slice P3 n p3) (.slice J3 k j3) (.slice M3 m m3) (.slice B3 0 b3)) := ⟨_, rfl⟩
  have X := Lib.hid (show W4.heap[w3.heap.size]? = some (NO kd (.slice P3 n p3) (.slice J3 k j3) (.slice M3 m m3) (.slice B3 0 b3)) by rw [hW4]; exact heap_alloc_new _ _)
  rw [← hW4] at AL4 ⊢
  replace H0 := Lib.hid (bel_trans H0.out AL4)
  replace Z := Lib.hid (keep_bel AL4 Z.out)
  replace Y := Lib.hid (keep_bel AL4 Y.out)
  replace RR := Lib.hid (RR.out.later AL4)
  clear AL4 hW4
  have V0 := Lib.hid (Below.refl W4.heap.size W4)
  obtain ⟨c0, c1, c2, c3, c4⟩ := cells5 Z.out
  obtain ⟨d0, d1, -, -⟩ := has_two Y.out
  go_upto_region 5 with (first
    | (go_at_call 31; ((with_reducible refine (HH.out _ (bel_trans H0.out V0.out)).mono ?_); rintro e w4 ⟨P4, p4, J4, j4, M4, m4, B4, b4, P5, p5, J5, j5, M5, m5, B5, b5, rfl, r4, r5, bb⟩; have R4 := Lib.hid (r4.base V0.out.size); have R5 := Lib.hid (r5.base V0.out.size); replace V0 := Lib.hid (bel_trans V0.out bb); clear bb r4 r5 c0 c1 c2 c3 c4 d0 d1))
    | fail)
  have y2 := two_new w4 (NO ka (.slice P4 n1 p4) (.slice J4 k1 j4) (.slice M4 l1 m4) (.slice B4 0 b4)) (NO kb (.slice P5 n2 p5) (.slice J5 k2 j5) (.slice M5 l2 m5) (.slice B5 0 b5))
  have AL5 := bel_alloc (alb w4 (NO ka (.slice P4 n1 p4) (.slice J4 k1 j4) (.slice M4 l1 m4) (.slice B4 0 b4))) (NO kb (.slice P5 n2 p5) (.slice J5 k2 j5) (.slice M5 l2 m5) (.slice B5 0 b5))
  obtain ⟨W5, hW5⟩ : ∃ W5, W5 = ((w4.alloc (NO ka (.slice P4 n1 p4) (.slice J4 k1 j4) (.slice M4 l1 m4) (.slice B4 0 b4))).alloc (NO kb (.slice P5 n2 p5) (.slice J5 k2 j5) (.slice M5 l2 m5) (.slice B5 0 b5))) := ⟨_, rfl⟩
  rw [← hW5] at y2 AL5 ⊢
  replace V0 := Lib.hid (bel_trans V0.out AL5)
  have XA := Lib.hid y2.1
  have XB := Lib.hid y2.2
  replace R4 := Lib.hid (R4.out.later AL5)
  replace R5 := Lib.hid (R5.out.later AL5)
  clear AL5 hW5 y2
  have Z5 := Lib.hid (keep_bel V0.out Z.out)
  have Y5 := Lib.hid (keep_bel V0.out Y.out)
  obtain ⟨c0, c1, c2, c3, c4⟩ := cells5 Z5.out
  obtain ⟨d0, d1, -, -⟩ := has_two Y5.out
  go_upto_region 6 with (first
    | (go_at_call 10; ((with_reducible refine (TA.out _ (bel_trans H0.out V0.out)).mono ?_); rintro e w5 ⟨T6, t6, P6, p6, J6, j6, M6, m6, B6, b6, rfl, -, r6, bb⟩; have R6 := Lib.hid (r6.base V0.out.size); replace V0 := Lib.hid (bel_trans V0.out bb); replace R4 := Lib.hid (R4.out.later bb); replace R5 := Lib.hid (R5.out.later bb); replace XA := Lib.hid (keep_bel bb XA.out); replace XB := Lib.hid (keep_bel bb XB.out); clear bb r6 c0 c1 c2 c3 c4 d0 d1))
    | fail)
  have AL6 := alb w5 (NO kd (.slice P6 n p6) (.slice J6 k j6) (.slice M6 lr m6) (.slice B6 0 b6))
  obtain ⟨W6, hW6⟩ : ∃ W6, W6 = w5.alloc (NO kd (.slice P6 n p6) (.slice J6 k j6) (.slice M6 lr m6) (.slice B6 0 b6)) := ⟨_, rfl⟩
  have XT := Lib.hid (show W6.heap[w5.heap.size]? = some (NO kd (.slice P6 n p6) (.slice J6 k j6) (.slice M6 lr m6) (.slice B6 0 b6)) by rw [hW6]; exact heap_alloc_new _ _)
  rw [← hW6] at AL6 ⊢
  replace V0 := Lib.hid (bel_trans V0.out AL6)
  replace R4 := Lib.hid (R4.out.later AL6)
  replace R5 := Lib.hid (R5.out.later AL6)
  replace R6 := Lib.hid (R6.out.later AL6)
  replace XA := Lib.hid (keep_bel AL6 XA.out)
  replace XB := Lib.hid (keep_bel AL6 XB.out)
  have Z6 := Lib.hid (keep_bel V0.out Z.out)
  clear AL6 hW6 Z5 Y5
  have QST := Lib.hid (show ∀ p ∈ ([(w.heap.size, (NO kd (.slice P n pc) (.slice J k kc) (.slice M m mc) (.slice B 0 bc))), (w4.heap.size, (NO ka (.slice P4 n1 p4) (.slice J4 k1 j4) (.slice M4 l1 m4) (.slice B4 0 b4))), (w4.heap.size + 1, (NO kb (.slice P5 n2 p5) (.slice J5 k2 j5) (.slice M5 l2 m5) (.slice B5 0 b5))), (w5.heap.size, (NO kd (.slice P6 n p6) (.slice J6 k j6) (.slice M6 lr m6) (.slice B6 0 b6)))] : List (Nat × Obj)), W6.heap[p.1]? = some p.2 by
    intro p hp
    simp only [List.mem_cons, List.not_mem_nil, or_false] at hp
    rcases hp with rfl | rfl | rfl | rfl
    · exact Z6.out
    · exact XA.out
    · exact XB.out
    · exact XT.out)
  clear SA RA HH TA
  refine wp_region_held_drew (S := (SK W6 [(w.heap.size, (NO kd (.slice P n pc) (.slice J k kc) (.slice M m mc) (.slice B 0 bc))), (w4.heap.size, (NO ka (.slice P4 n1 p4) (.slice J4 k1 j4) (.slice M4 l1 m4) (.slice B4 0 b4))), (w4.heap.size + 1, (NO kb (.slice P5 n2 p5) (.slice J5 k2 j5) (.slice M5 l2 m5) (.slice B5 0 b5))), (w5.heap.size, (NO kd (.slice P6 n p6) (.slice J6 k j6) (.slice M6 lr m6) (.slice B6 0 b6)))])) (by kernel_rfl) ?_ (fun hHeld => ?_)
  · exact SK.start QST.out
  have HHeld := Lib.hid hHeld; clear hHeld
  refine wpAnyH_take (i := 0) (oi := { dst := some 40, op := Op.load 28 (Operand.tmp 6), type := 28, pos := "law.go:150", after := #[], guard := none }) (v := (NV ka (.slice P4 n1 p4) (.slice J4 k1 j4) (.slice M4 l1 m4) (.slice B4 0 b4) : Value)) rfl (by kernel_rfl) (by kernel_rfl) (by kernel_rfl) (fun _ _ _ h => h) (Or.inl ⟨by rfl, ?_⟩) HHeld.out ?_
  · intro V hV; have hc0 := (cells5 (hV.g 1 rfl)).1; have hc1 := (cells5 (hV.g 1 rfl)).2.1; have hc2 := (cells5 (hV.g 1 rfl)).2.2.1; have hc3 := (cells5 (hV.g 1 rfl)).2.2.2.1; have hc4 := (cells5 (hV.g 1 rfl)).2.2.2.2; clear hV; go_simp
  try simp only [Act.put, List.setIfInBounds_toArray, List.set_cons_zero, List.set_cons_succ]
  refine wpAnyH_take (i := 1) (oi := { dst := some 41, op := Op.load 28 (Operand.tmp 7), type := 28, pos := "law.go:150", after := #[], guard := none }) (v := (NV kb (.slice P5 n2 p5) (.slice J5 k2 j5) (.slice M5 l2 m5) (.slice B5 0 b5) : Value)) rfl (by kernel_rfl) (by kernel_rfl) (by kernel_rfl) (fun _ _ _ h => h) (Or.inl ⟨by rfl, ?_⟩) HHeld.out ?_
  · intro V hV; have hc0 := (cells5 (hV.g 2 rfl)).1; have hc1 := (cells5 (hV.g 2 rfl)).2.1; have hc2 := (cells5 (hV.g 2 rfl)).2.2.1; have hc3 := (cells5 (hV.g 2 rfl)).2.2.2.1; have hc4 := (cells5 (hV.g 2 rfl)).2.2.2.2; clear hV; go_simp
  try simp only [Act.put, List.setIfInBounds_toArray, List.set_cons_zero, List.set_cons_succ]
  refine wpAnyH_take (i := 2) (oi := { dst := some 42, op := Op.load 28 (Operand.tmp 10), type := 28, pos := "law.go:150", after := #[], guard := none }) (v := (NV kd (.slice P6 n p6) (.slice J6 k j6) (.slice M6 lr m6) (.slice B6 0 b6) : Value)) rfl (by kernel_rfl) (by kernel_rfl) (by kernel_rfl) (fun _ _ _ h => h) (Or.inl ⟨by rfl, ?_⟩) HHeld.out ?_
  · intro V hV; have hc0 := (cells5 (hV.g 3 rfl)).1; have hc1 := (cells5 (hV.g 3 rfl)).2.1; have hc2 := (cells5 (hV.g 3 rfl)).2.2.1; have hc3 := (cells5 (hV.g 3 rfl)).2.2.2.1; have hc4 := (cells5 (hV.g 3 rfl)).2.2.2.2; clear hV; go_simp
  try simp only [Act.put, List.setIfInBounds_toArray, List.set_cons_zero, List.set_cons_succ]
  refine wpAnyH_take (i := 3) (oi := { dst := some 43, op := Op.load 28 (Operand.tmp 2), type := 28, pos := "law.go:150", after := #[], guard := none }) (v := (NV kd (.slice P n pc) (.slice J k kc) (.slice M m mc) (.slice B 0 bc) : Value)) rfl (by kernel_rfl) (by kernel_rfl) (by kernel_rfl) (fun _ _ _ h => h) (Or.inl ⟨by rfl, ?_⟩) HHeld.out ?_
  · intro V hV; have hc0 := (cells5 (hV.g 0 rfl)).1; have hc1 := (cells5 (hV.g 0 rfl)).2.1; have hc2 := (cells5 (hV.g 0 rfl)).2.2.1; have hc3 := (cells5 (hV.g 0 rfl)).2.2.2.1; have hc4 := (cells5 (hV.g 0 rfl)).2.2.2.2; clear hV; go_simp
  try simp only [Act.put, List.setIfInBounds_toArray, List.set_cons_zero, List.set_cons_succ]
  refine wpAnyH_take (i := 5) (oi := { dst := some 45, op := Op.load 28 (Operand.tmp 2), type := 28, pos := "law.go:150", after := #[], guard := none }) (v := (NV kd (.slice P n pc) (.slice J k kc) (.slice M m mc) (.slice B 0 bc) : Value)) rfl (by kernel_rfl) (by kernel_rfl) (by kernel_rfl) (fun _ _ _ h => h) (Or.inl ⟨by rfl, ?_⟩) HHeld.out ?_
  · intro V hV; have hc0 := (cells5 (hV.g 0 rfl)).1; have hc1 := (cells5 (hV.g 0 rfl)).2.1; have hc2 := (cells5 (hV.g 0 rfl)).2.2.1; have hc3 := (cells5 (hV.g 0 rfl)).2.2.2.1; have hc4 := (cells5 (hV.g 0 rfl)).2.2.2.2; clear hV; go_simp
  try simp only [Act.put, List.setIfInBounds_toArray, List.set_cons_zero, List.set_cons_succ]
  refine wpAnyH_ready (rs := [4]) (by kernel_rfl) (by simp) ?_
  refine AllReadyH.cons (o := { dst := some 44, op := Op.call { callee := Callee.value (Operand.func 17), args := #[Operand.tmp 43, Operand.const (Value.slice none 0 0)], argTypes := #[28, 25] }, type := 28, pos := "law.go:150", after := #[{ on := 3, ground := Ground.data }], guard := none }) rfl (fun K hK => ?_) AllReadyH.nil
  go_simp
  go_at_call 17; ((with_reducible refine (AA.out _ (bel_trans (bel_trans H0.out V0.out) HHeld.out.b)).mono ?_); rintro e v4 ⟨P7, p7, J7, j7, M7, m7, B7, b7, rfl, r1, r2, r3, bx⟩; have WA := Lib.hid ((wr_add r1 r2 r3 HPL.out HKL.out HQ.out).wide (N2 := W4.heap.size) (Nat.le_trans V0.out.size HHeld.out.b.size) (Nat.le_refl _)); have K4 := Lib.hid (HHeld.out.later bx); clear r1 r2 r3 bx)
  refine hK.out _ _ ?_ (fun hHeld => ?_)
  · exact K4.out
  clear HHeld; have HHeld := Lib.hid hHeld; clear hHeld
  clear hK K
  try simp only [Act.put, List.setIfInBounds_toArray, List.set_cons_zero, List.set_cons_succ]
  refine wpAnyH_ready (rs := [6]) (by kernel_rfl) (by simp) ?_
  refine AllReadyH.cons (o := { dst := some 46, op := Op.call { callee := Callee.value (Operand.func 30), args := #[Operand.tmp 45], argTypes := #[28] }, type := 28, pos := "law.go:150", after := #[{ on := 5, ground := Ground.data }, { on := 4, ground := Ground.chain }], guard := none }) rfl (fun K hK => ?_) AllReadyH.nil
  go_simp
  go_at_call 30; ((with_reducible refine (OA.out _ (bel_trans (bel_trans H0.out V0.out) HHeld.out.b)).mono ?_); rintro e v6 ⟨P8, p8, J8, j8, M8, m8, B8, b8, rfl, r8, bx⟩; have WO := Lib.hid ((r8.wr HPL.out HKL.out HML.out).wide (N2 := W4.heap.size) (Nat.le_trans V0.out.size HHeld.out.b.size) (Nat.le_refl _)); replace WA := Lib.hid ((WA.out.later bx).wide (Nat.le_refl _) bx.size); have K6 := Lib.hid (HHeld.out.later bx); clear r8 bx)
  refine hK.out _ _ ?_ (fun hHeld => ?_)
  · exact K6.out
  clear HHeld; have HHeld := Lib.hid hHeld; clear hHeld
  clear hK K
  try simp only [Act.put, List.setIfInBounds_toArray, List.set_cons_zero, List.set_cons_succ]
  refine wpAnyH_ready (rs := [7]) (by kernel_rfl) (by simp) ?_
  refine AllReadyH.cons (o := { dst := some 47, op := Op.buildSlice 58 5 #[(0, Operand.tmp 40), (1, Operand.tmp 41), (2, Operand.tmp 42), (3, Operand.tmp 44), (4, Operand.tmp 46)], type := 58, pos := "law.go:150", after := #[{ on := 0, ground := Ground.data }, { on := 1, ground := Ground.data }, { on := 2, ground := Ground.data }, { on := 4, ground := Ground.data }, { on := 6, ground := Ground.data }], guard := none }) rfl (fun K hK => ?_) AllReadyH.nil
  go_simp
  refine hK.out _ _ ?_ (fun hHeld => ?_)
  · with_reducible exact K6.out.later (alb _ _)
  clear HHeld; have HHeld := Lib.hid hHeld; clear hHeld
  clear hK K
  try simp only [Act.put, List.setIfInBounds_toArray, List.set_cons_zero, List.set_cons_succ]
  refine wpAnyH_take (i := 8) (oi := { dst := some 11, op := Op.assign (Operand.tmp 47), type := 58, pos := "law.go:150", after := #[{ on := 7, ground := Ground.data }, { on := 6, ground := Ground.chain }, { on := 0, ground := Ground.phase }, { on := 1, ground := Ground.phase }, { on := 2, ground := Ground.phase }, { on := 3, ground := Ground.phase }, { on := 4, ground := Ground.phase }, { on := 5, ground := Ground.phase }, { on := 6, ground := Ground.phase }, { on := 7, ground := Ground.phase }], guard := none }) (v := ?_) rfl (by kernel_rfl) (by kernel_rfl) (by kernel_rfl) (fun _ _ _ h => h) (Or.inl ⟨by rfl, ?_⟩) HHeld.out ?_
  rotate_left
  · intro w hSw; clear hSw; go_simp; try with_reducible rfl
  try simp only [Act.put, List.setIfInBounds_toArray, List.set_cons_zero, List.set_cons_succ]
  refine wpAnyH_done (by kernel_rfl) ?_ _
  clear HHeld
  refine at_exit (fun WN hWN => ?_)
  have ZN9 := Lib.hid (show WN.heap[v6.heap.size]? = some (.cells #[.int .u8 ka, .slice P4 n1 p4, .slice J4 k1 j4, .slice M4 l1 m4, .slice B4 0 b4, .int .u8 kb, .slice P5 n2 p5, .slice J5 k2 j5, .slice M5 l2 m5, .slice B5 0 b5, .int .u8 kd, .slice P6 n p6, .slice J6 k j6, .slice M6 lr m6, .slice B6 0 b6, .int .u8 kd, .slice P7 n p7, .slice J7 k j7, .slice M7 m m7, .slice B7 0 b7, .int .u8 kd, .slice P8 n p8, .slice J8 k j8, .slice M8 m m8, .slice B8 0 b8] 28) by rw [hWN]; with_reducible exact heap_alloc_new _ _)
  have BN := Lib.hid (show Below W6.heap.size W6 WN by rw [hWN]; with_reducible exact bel_alloc K6.out.b _)
  have BNv := Lib.hid (show Below v6.heap.size v6 WN by rw [hWN]; with_reducible exact alb _ _)
  clear hWN
  have W4r := Lib.hid (((R4.out.wr Q1.out Q2.out Q3.out).later BN.out).wide (Nat.le_refl _) K6.out.b.size)
  have W5r := Lib.hid (((R5.out.wr Q4.out Q5.out Q6.out).later BN.out).wide (Nat.le_refl _) K6.out.b.size)
  have W6r := Lib.hid (((R6.out.wr HPL.out HKL.out HLR.out).later BN.out).wide (Nat.le_refl _) K6.out.b.size)
  have W7r := Lib.hid (WA.out.later BNv.out)
  have W8r := Lib.hid (WO.out.later BNv.out)
  obtain ⟨LS, hLS⟩ : ∃ LS : List ND, LS = [⟨P4, n1, p4, J4, k1, j4, M4, l1, m4⟩, ⟨P5, n2, p5, J5, k2, j5, M5, l2, m5⟩, ⟨P6, n, p6, J6, k, j6, M6, lr, m6⟩, ⟨P7, n, p7, J7, k, j7, M7, m, m7⟩, ⟨P8, n, p8, J8, k, j8, M8, m, m8⟩] := ⟨_, rfl⟩
  have LGN : Hid (LG v6.heap.size W4.heap.size LS WN) := Lib.hid (by
    have z := ZN9.out
    intro i x hx
    rw [hLS] at hx
    match i, hx with
    | 0, hx => simp at hx; subst hx; exact ⟨by simp [World.cell?, z], by simp [World.cell?, z], by simp [World.cell?, z], W4r.out.w1, W4r.out.w2, W4r.out.w3⟩
    | 1, hx => simp at hx; subst hx; exact ⟨by simp [World.cell?, z], by simp [World.cell?, z], by simp [World.cell?, z], W5r.out.w1, W5r.out.w2, W5r.out.w3⟩
    | 2, hx => simp at hx; subst hx; exact ⟨by simp [World.cell?, z], by simp [World.cell?, z], by simp [World.cell?, z], W6r.out.w1, W6r.out.w2, W6r.out.w3⟩
    | 3, hx => simp at hx; subst hx; exact ⟨by simp [World.cell?, z], by simp [World.cell?, z], by simp [World.cell?, z], W7r.out.w1, W7r.out.w2, W7r.out.w3⟩
    | 4, hx => simp at hx; subst hx; exact ⟨by simp [World.cell?, z], by simp [World.cell?, z], by simp [World.cell?, z], W8r.out.w1, W8r.out.w2, W8r.out.w3⟩
    | i + 5, hx => simp at hx)
  have HLEN : Hid (LS.length = 5) := Lib.hid (by rw [hLS]; rfl)
  have HM20 : Hid (∀ (i : Nat) (x : ND), LS[i]? = some x → x.n ≤ 100 ∧ x.k ≤ 100 ∧ x.m ≤ 100) := Lib.hid (by
    intro i x hx
    rw [hLS] at hx
    have g1 := HBD.out
    have g2 := B20.out
    have g3 := HLR6.out
    have b20 : n ≤ 100 ∧ k ≤ 100 ∧ m ≤ 100 := by omega
    match i, hx with
    | 0, hx => simp at hx; subst hx; exact g1.1
    | 1, hx => simp at hx; subst hx; exact g1.2
    | 2, hx => simp at hx; subst hx; exact ⟨b20.1, b20.2.1, by show lr ≤ 100; omega⟩
    | 3, hx => simp at hx; subst hx; exact b20
    | 4, hx => simp at hx; subst hx; exact b20
    | i + 5, hx => simp at hx)
  replace V0 := Lib.hid ((bel_trans V0.out BN.out))
  obtain ⟨NL, hNL⟩ : ∃ NL, NL = v6.heap.size := ⟨_, rfl⟩
  rw [← hNL] at LGN ⊢
  clear hNL hLS W4r W5r W6r W7r W8r WA WO K4 K6 BN BNv ZN9 R4 R5 R6 XA XB XT QST AA OA Z6
  have RRX := RR
  go_wp2_with fail
  go_loopw [12, 13, 14, 15] (fun iv av bv cv wr => ∃ i : Nat, i ≤ 5 ∧ iv = .int .i64 i ∧ LG NL W4.heap.size LS wr ∧ Below W4.heap.size W4 wr) (fun iv _ _ _ _ => 5 - (intOf iv).toNat)
  case atStart => exact ⟨0, by omega, rfl, LGN.out, V0.out⟩
  case round =>
    obtain ⟨i, hi, rfl, hg, hb⟩ := hrel
    have G := Lib.hid hg
    have HB := Lib.hid hb
    clear hg hb LGN V0
    have hi0 : (0 : Int) ≤ (i : Int) := by omega
    by_cases h5 : i < 5
    · have h5' : (i : Int) < 5 := by omega
      obtain ⟨⟨P0, n0, pc0, J0, k0, kc0, M0, m0, mc0⟩, hx⟩ : ∃ x, LS[i]? = some x := ⟨_, List.getElem?_eq_getElem (by rw [HLEN.out]; exact h5)⟩
      have HX := Lib.hid hx
      obtain ⟨u1, u2, u3⟩ := HM20.out i _ hx
      simp only at u1 u2 u3
      obtain ⟨z1, z2, z3, -, -, -⟩ := G.out i _ hx
      clear hx
      simp only at z1 z2 z3
      go_wp2_with fail
      go_loopw [13] (fun kv wr => ∃ q13 : Nat, q13 ≤ k0 ∧ kv = .int .i64 q13 ∧ LG NL W4.heap.size LS wr ∧ Below W4.heap.size W4 wr) (fun kv _ => k0 - (intOf kv).toNat)
      case atStart => exact ⟨0, Nat.zero_le _, rfl, G.out, HB.out⟩
      case round =>
        obtain ⟨q13, hq, rfl, hg, hb⟩ := hrel
        clear z1 z2 z3
        replace G := Lib.hid hg
        replace HB := Lib.hid hb
        clear hg hb
        obtain ⟨z1, z2, z3, -, -, -⟩ := G.out i _ HX.out
        have hq0 : (0 : Int) ≤ (q13 : Int) := by omega
        have hq9 : (q13 : Int) ≤ 100 := by omega
        by_cases hlt : q13 < k0
        · have hlt' : (q13 : Int) < (k0 : Int) := by omega
          obtain ⟨b, off, hA, hN, hL, hS, hcell⟩ := ((G.out i _ HX.out).2.2.2.2.1).at (j := q13) (by show q13 < k0; omega)
          have hA' : J0 = some ⟨b, off, none⟩ := hA
          have HAN := Lib.hid hN; have HAL := Lib.hid hL
          obtain ⟨⟨y, hy⟩, hf⟩ := hcell q13 (by show q13 < k0; omega)
          clear hcell hA hN hL
          subst hA'
          go_wp2
          exact ⟨⟨q13 + 1, by omega, by simp, G.out.set _ _ _ HAL.out, Below.setCell HB.out (p := ⟨_, _, none⟩) HAN.out _⟩, by simp [intOf]; omega⟩
        · have hlt' : ¬ (q13 : Int) < (k0 : Int) := by omega
          clear hlt hq
          go_wp2
          go_loopw [14] (fun kv wr => ∃ q14 : Nat, q14 ≤ n0 ∧ kv = .int .i64 q14 ∧ LG NL W4.heap.size LS wr ∧ Below W4.heap.size W4 wr) (fun kv _ => n0 - (intOf kv).toNat)
          case atStart => exact ⟨0, Nat.zero_le _, rfl, G.out, HB.out⟩
          case round =>
            obtain ⟨q14, hq, rfl, hg, hb⟩ := hrel
            clear z1 z2 z3
            replace G := Lib.hid hg
            replace HB := Lib.hid hb
            clear hg hb
            obtain ⟨z1, z2, z3, -, -, -⟩ := G.out i _ HX.out
            have hq0 : (0 : Int) ≤ (q14 : Int) := by omega
            have hq9 : (q14 : Int) ≤ 100 := by omega
            by_cases hlt : q14 < n0
            · have hlt' : (q14 : Int) < (n0 : Int) := by omega
              obtain ⟨b, off, hA, hN, hL, hS, hcell⟩ := ((G.out i _ HX.out).2.2.2.1).at (j := q14) (by show q14 < n0; omega)
              have hA' : P0 = some ⟨b, off, none⟩ := hA
              have HAN := Lib.hid hN; have HAL := Lib.hid hL
              obtain ⟨⟨y, hy⟩, hf⟩ := hcell q14 (by show q14 < n0; omega)
              clear hcell hA hN hL
              subst hA'
              go_wp2
              exact ⟨⟨q14 + 1, by omega, by simp, G.out.set _ _ _ HAL.out, Below.setCell HB.out (p := ⟨_, _, none⟩) HAN.out _⟩, by simp [intOf]; omega⟩
            · have hlt' : ¬ (q14 : Int) < (n0 : Int) := by omega
              clear hlt hq
              go_wp2
              go_loopw [15] (fun kv wr => ∃ q15 : Nat, q15 ≤ m0 ∧ kv = .int .i64 q15 ∧ LG NL W4.heap.size LS wr ∧ Below W4.heap.size W4 wr) (fun kv _ => m0 - (intOf kv).toNat)
              case atStart => exact ⟨0, Nat.zero_le _, rfl, G.out, HB.out⟩
              case round =>
                obtain ⟨q15, hq, rfl, hg, hb⟩ := hrel
                clear z1 z2 z3
                replace G := Lib.hid hg
                replace HB := Lib.hid hb
                clear hg hb
                obtain ⟨z1, z2, z3, -, -, -⟩ := G.out i _ HX.out
                have hq0 : (0 : Int) ≤ (q15 : Int) := by omega
                have hq9 : (q15 : Int) ≤ 100 := by omega
                by_cases hlt : q15 < m0
                · have hlt' : (q15 : Int) < (m0 : Int) := by omega
                  obtain ⟨b, off, hA, hN, hL, hS, hcell⟩ := ((G.out i _ HX.out).2.2.2.2.2).at (j := q15 * 6) (by show q15 * 6 < m0 * 6; omega)
                  have hA' : M0 = some ⟨b, off, none⟩ := hA
                  have HAN := Lib.hid hN; have HAL := Lib.hid hL
                  obtain ⟨⟨y0, hy0⟩, hf0⟩ := hcell (q15 * 6) (by show q15 * 6 < m0 * 6; omega)
                  obtain ⟨⟨y1, hy1⟩, hf1⟩ := hcell (q15 * 6 + 1) (by show q15 * 6 + 1 < m0 * 6; omega)
                  rw [← Nat.add_assoc] at hy1 hf1
                  obtain ⟨⟨y2, hy2⟩, hf2⟩ := hcell (q15 * 6 + 2) (by show q15 * 6 + 2 < m0 * 6; omega)
                  rw [← Nat.add_assoc] at hy2 hf2
                  obtain ⟨⟨y3, hy3⟩, hf3⟩ := hcell (q15 * 6 + 3) (by show q15 * 6 + 3 < m0 * 6; omega)
                  rw [← Nat.add_assoc] at hy3 hf3
                  obtain ⟨⟨y4, hy4⟩, hf4⟩ := hcell (q15 * 6 + 4) (by show q15 * 6 + 4 < m0 * 6; omega)
                  rw [← Nat.add_assoc] at hy4 hf4
                  obtain ⟨⟨y5, hy5⟩, hf5⟩ := hcell (q15 * 6 + 5) (by show q15 * 6 + 5 < m0 * 6; omega)
                  rw [← Nat.add_assoc] at hy5 hf5
                  clear hcell hA hN hL
                  subst hA'
                  go_wp2
                  exact ⟨⟨q15 + 1, by omega, by simp, ((((((G.out).set _ _ _ HAL.out).set _ _ _ HAL.out).set _ _ _ HAL.out).set _ _ _ HAL.out).set _ _ _ HAL.out).set _ _ _ HAL.out, Below.setCell (Below.setCell (Below.setCell (Below.setCell (Below.setCell (Below.setCell (HB.out) (p := ⟨_, _, none⟩) HAN.out _) (p := ⟨_, _, none⟩) HAN.out _) (p := ⟨_, _, none⟩) HAN.out _) (p := ⟨_, _, none⟩) HAN.out _) (p := ⟨_, _, none⟩) HAN.out _) (p := ⟨_, _, none⟩) HAN.out _⟩, by simp [intOf]; omega⟩
                · have hlt' : ¬ (q15 : Int) < (m0 : Int) := by omega
                  clear hlt hq
                  go_wp2
                  exact ⟨⟨i + 1, by omega, by simp, G.out, HB.out⟩, by simp [intOf]; omega⟩
    · have h5' : ¬ (i : Int) < 5 := by omega
      have ZE := Lib.hid (keep_bel HB.out Z.out)
      have XE := Lib.hid (keep_bel HB.out X.out)
      have RE := Lib.hid (RR.out.later HB.out)
      replace HB := Lib.hid (bel_trans H0.out HB.out)
      clear G hi
      obtain ⟨c0, c1, c2, c3, c4⟩ := cells5 ZE.out
      obtain ⟨k0, k1, k2, k3, k4⟩ := cells5 XE.out
      go_wp2_with (first
        | (go_at_call 9; ((with_reducible refine (live_true _).mono ?_); rintro e wa ⟨rfl, ba⟩; replace HB := Lib.hid (bel_trans HB.out ba); replace ZE := Lib.hid (keep_bel ba ZE.out); replace XE := Lib.hid (keep_bel ba XE.out); replace RE := Lib.hid (RE.out.later ba); clear ba c0 c1 c2 c3 c4 k0 k1 k2 k3 k4; obtain ⟨c0, c1, c2, c3, c4⟩ := cells5 ZE.out; obtain ⟨k0, k1, k2, k3, k4⟩ := cells5 XE.out))
        | (go_at_call 13; ((with_reducible refine (SM.out P3 J3 B3 M3 p3 j3 m3 b3 _ HB.out RE.out.r1.rd RE.out.r2.rd RE.out.r3.rd).mono ?_); rintro e wb ⟨rfl, bb⟩; replace HB := Lib.hid (bel_trans HB.out bb); clear bb c0 c1 c2 c3 c4 k0 k1 k2 k3 k4))
        | fail)
      go_ret
      exact ⟨rfl, HB.out⟩
end Go.Proofs.Ytilnpeekajnlhaa
