/- The law InnerHalves answers true: a node that is right and has two kids at least. -/
import Derived.Test.YtilnpeekajnlhaaGreatTh02
import Derived.Test.YtilnpeekajnlhaaGreatTh26
import Derived.Test.YtilnpeekajnlhaaGreatTh27
import Derived.Test.YtilnpeekajnlhaaGreatTh31
import Derived.Test.YtilnpeekajnlhaaGreatTh34
set_option linter.unusedVariables false
set_option linter.unusedSimpArgs false
namespace Go.Proofs.YtilnpeekajnlhaaGreat
open Go.RowKit Go.Maps
set_option maxRecDepth 100000 in
set_option maxHeartbeats 8000000 in
theorem halves_yes (b0 o0 b1 o1 : Nat) (M B : Option Addr) (n pc k kc m mc bc : Nat) (ps : List ByteArray) (ks : List Int) (ms : List MG) (f t s v : ByteArray) (is : Bool) (w : World) (hl : ps.length = n) (hP : ES.Rd w (some ⟨b0, o0, none⟩) ps) (hkl : ks.length = k) (hJ : EI.Rd w (some ⟨b1, o1, none⟩) ks) (hxk : ∀ x ∈ ks, (Lit.int .i64 x).wf = true) (hm : ms.length = m) (hM : EG.Rd w M ms) (ho : OkA ms) (hd : ∀ x ∈ ms, DlOk x)
    (hps : ∀ x ∈ ps, SzOk x) (hs : smallB n k m 0 = true) (hr : RN 2 n k 0 ps ks ms f t) (hk2 : 2 ≤ k) (hnp : n ≤ pc) (hnk : k ≤ kc)
    (h p : Nat) (hh : k / 2 = h) (hp1 : h = p + 1) (y : ByteArray) (hy : ps[p]? = some y) (g : Bool) (hg : lt s y = g) :
    Calls Tryz.prog 3 #[NV 2 (.slice (some ⟨b0, o0, none⟩) n pc) (.slice (some ⟨b1, o1, none⟩) k kc) (.slice M m mc) (.slice B 0 bc), .agg #[.string f, .string t], .string s, .string v, .bool is] w fun e w' => e = .returned (.bool true) ∧ Below w.heap.size w w' := by
  obtain ⟨s1, s2, s3, -⟩ := small_yes hs
  have hk := hr.hk
  have gy := pv_at hr.hps hy
  obtain ⟨l, hL⟩ : ∃ l, (forL emptyS y ms).length = l := ⟨_, rfl⟩
  obtain ⟨r, hR⟩ : ∃ r, (resL emptyS y ms).length = r := ⟨_, rfl⟩
  have hl9 : l ≤ 30 := by have := forL_len emptyS y ms; omega
  have hr9 : r ≤ 60 := by have := resL_len emptyS y ms; omega
  have SA : Hid (∀ W, Calls Tryz.prog 4 #[NV 2 (.slice (some ⟨b0, o0, none⟩) n pc) (.slice (some ⟨b1, o1, none⟩) k kc) (.slice M m mc) (.slice B 0 bc)] W fun e w' => e = .returned (.bool true) ∧ Below W.heap.size W w') := Lib.hid (fun W => by
    have q := small_any 2 (some ⟨b0, o0, none⟩) (some ⟨b1, o1, none⟩) M B n pc k kc m mc 0 bc W
    rw [hs] at q; exact q)
  have RA : Hid (∀ W, Below w.heap.size w W → Calls Tryz.prog 5 #[NV 2 (.slice (some ⟨b0, o0, none⟩) n pc) (.slice (some ⟨b1, o1, none⟩) k kc) (.slice M m mc) (.slice B 0 bc), .agg #[.string f, .string t]] W fun e w' => e = .returned (.bool true) ∧ Below W.heap.size W w') := Lib.hid (fun W h => by
    have q := rright14 2 (some ⟨b0, o0, none⟩) (some ⟨b1, o1, none⟩) M B n pc k kc m mc 0 bc ps ks ms f t W hl (by omega) (es_rd.1 (hP.later h)) hkl (by omega) (hJ.later h) hm (by omega) (hM.later h) ho
    rw [rnB_iff.2 hr] at q; exact q)
  have SP := Lib.hid (fun W => split27 f t y W gy.1 gy.2.1 gy.2.2.1)
  have HA := Lib.hid (fun W (b : Below w.heap.size w W) => halves_two 2 (some ⟨b0, o0, none⟩) (some ⟨b1, o1, none⟩) M B n pc k kc m mc bc ps ks ms W hl (hP.later b) hkl (hJ.later b) hm (by omega) (hM.later b) ho (by omega) hk h p l r hh hp1 y hy hL hR)
  have RH := Lib.hid (fun W (b : Below w.heap.size w W) => rhalves_two 2 b0 o0 b1 o1 M B n pc k kc m mc bc ps ks ms W hl (hP.later b) hkl (hJ.later b) hm (by omega) (hM.later b) (by omega) hk hnp hnk hr.hms h p l r hh hp1 y hy hL hR)
  unfold HalvesP at HA
  unfold RHalvesP at RH
  have szy : SzOk y := hps y (List.mem_of_getElem? hy)
  have szE : SzOk emptyS := by decide
  have ok1 : OkA (forL emptyS y ms) := forL_ok ho szE szy
  have ok2 : OkA (resL emptyS y ms) := resL_ok ho szE szy
  have tl1 : (ps.take p).length = p := by rw [List.length_take]; omega
  have tl2 : (ks.take h).length = h := by rw [List.length_take]; omega
  have tl3 : (ps.drop h).length = n - h := by rw [List.length_drop, hl]
  have tl4 : (ks.drop h).length = k - h := by rw [List.length_drop, hkl]
  have SM1 := Lib.hid (fun (Pa Ja Ma Ba Pb Jb Mb Bb : Option Addr) (pa ja ma ba pb jb mb bb : Nat) W (a1 : ES.Rd W Pa (ps.take p)) (a2 : ES.Rd W Pb (ps.take p)) (a3 : EI.Rd W Ja (ks.take h)) (a4 : EI.Rd W Jb (ks.take h)) (a5 : EG.Rd W Ma (forL emptyS y ms)) (a6 : EG.Rd W Mb (forL emptyS y ms)) => same14 2 Pa Ja Ma Ba Pb Jb Mb Bb p h l pa ja ma ba pb jb mb bb _ _ _ W tl1 (by omega) tl2 (by omega) hL (by omega) a1 a2 a3 a4 a5 a6)
  have SM2 := Lib.hid (fun (Pa Ja Ma Ba Pb Jb Mb Bb : Option Addr) (pa ja ma ba pb jb mb bb : Nat) W (a1 : ES.Rd W Pa (ps.drop h)) (a2 : ES.Rd W Pb (ps.drop h)) (a3 : EI.Rd W Ja (ks.drop h)) (a4 : EI.Rd W Jb (ks.drop h)) (a5 : EG.Rd W Ma (resL emptyS y ms)) (a6 : EG.Rd W Mb (resL emptyS y ms)) => same14 2 Pa Ja Ma Ba Pb Jb Mb Bb (n - h) (k - h) r pa ja ma ba pb jb mb bb _ _ _ W tl3 (by omega) tl4 (by omega) hR (by omega) a1 a2 a3 a4 a5 a6)
  have RX : RN 2 p h 0 (ps.take p) (ks.take h) (forL emptyS y ms) f y := by rw [hp1]; exact rn_low (l := 0) hr hl hy
  have RY : RN 2 (n - h) (k - h) 0 (ps.drop h) (ks.drop h) (resL emptyS y ms) y t := by rw [hp1]; exact rn_high (l := 0) hr hl hy
  have IX := Lib.hid (fun (P4 J4 M4 B4 : Option Addr) (p4 j4 m4 b4 : Nat) W (h1 : ES.Rd W P4 (ps.take p)) (h2 : EI.Rd W J4 (ks.take h)) (h3 : EG.Rd W M4 (forL emptyS y ms)) => iright_true 2 P4 J4 M4 B4 p p4 h j4 l m4 0 b4 (ps.take p) (ks.take h) (forL emptyS y ms) f y W tl1 (by omega) (es_rd.1 h1) tl2 h2 (fun z hz => hxk z (List.mem_of_mem_take hz)) hL (by omega) h3 ok1 RX)
  have IY := Lib.hid (fun (P4 J4 M4 B4 : Option Addr) (p4 j4 m4 b4 : Nat) W (h1 : ES.Rd W P4 (ps.drop h)) (h2 : EI.Rd W J4 (ks.drop h)) (h3 : EG.Rd W M4 (resL emptyS y ms)) => iright_true 2 P4 J4 M4 B4 (n - h) p4 (k - h) j4 r m4 0 b4 (ps.drop h) (ks.drop h) (resL emptyS y ms) y t W tl3 (by omega) (es_rd.1 h1) tl4 h2 (fun z hz => hxk z (List.mem_of_mem_drop hz)) hR (by omega) h3 ok2 RY)
  obtain ⟨ms', hms'⟩ : ∃ ms', ms' = stab ((forL emptyS y ms) ++ (resL emptyS y ms)) := ⟨_, rfl⟩
  have hm'l : ms'.length = l + r := by rw [hms', stab_len, List.length_append, hL, hR]
  have hd1 : ∀ x ∈ (forL emptyS y ms), DlOk x := forL_dl hd emptyS y
  have hd2 : ∀ x ∈ (resL emptyS y ms), DlOk x := resL_dl hd emptyS y
  have hd' : ∀ x ∈ ms', DlOk x := by rw [hms']; exact fun z hz => (List.mem_append.1 (stab_mem hz)).elim (hd1 z) (hd2 z)
  obtain ⟨⟨X, Y⟩, hXY⟩ : ∃ q, valL ms s (startQ v is) = q := ⟨_, rfl⟩
  have VN := Lib.hid (fun (A : Option Addr) (c : Nat) W (a1 : EG.Rd W A ms) => show Calls Tryz.prog 12 #[.slice A m c, .string s, .string v, .bool is] W fun r w' => r = .returned (.tuple #[.string X, .bool Y]) ∧ Below W.heap.size W w' from by
    have q := value_any A m c ms s v is W hm (by omega) a1 hd
    rw [hXY] at q; exact q)
  have VJ := Lib.hid (fun (A : Option Addr) (c : Nat) W (a1 : EG.Rd W A ms') => show Calls Tryz.prog 12 #[.slice A (l + r) c, .string s, .string v, .bool is] W fun r w' => r = .returned (.tuple #[.string X, .bool Y]) ∧ Below W.heap.size W w' from by
    have q := value_any A (l + r) c ms' s v is W hm'l (by omega) a1 hd'
    have e : valL ms' s (startQ v is) = (X, Y) := by
      rw [← hXY, hms']
      cases g
      · exact (halves_hi hr.hms gy.2.2.2 hg _).2
      · exact (halves_lo hr.hms gy.2.2.2 hg _).2
    rw [e] at q; exact q)
  have VH : Hid (∀ (A1 A2 : Option Addr) (c1 c2 : Nat) W (a1 : EG.Rd W A1 (forL emptyS y ms)) (a2 : EG.Rd W A2 (resL emptyS y ms)), Calls Tryz.prog 12 #[cond g (.slice A1 l c1) (.slice A2 r c2), .string s, .string v, .bool is] W fun r w' => r = .returned (.tuple #[.string X, .bool Y]) ∧ Below W.heap.size W w') := Lib.hid (fun A1 A2 c1 c2 W a1 a2 => by
    cases g
    · have q := value_any A2 r c2 (resL emptyS y ms) s v is W hR (by omega) a2 hd2
      rw [(halves_hi hr.hms gy.2.2.2 hg _).1, hXY] at q; exact q
    · have q := value_any A1 l c1 (forL emptyS y ms) s v is W hL (by omega) a1 hd1
      rw [(halves_lo hr.hms gy.2.2.2 hg _).1, hXY] at q; exact q)
  have hjp : ps.take p ++ [y] ++ ps.drop h = ps := by
    have e := List.take_add_one (l := ps) (i := p)
    rw [hy] at e
    have e2 := List.take_append_drop (p + 1) ps
    rw [e] at e2
    rw [hp1]
    simpa using e2
  have hjk : ks.take h ++ ks.drop h = ks := List.take_append_drop _ _
  have hpn : p < n := by have := (List.getElem?_eq_some_iff.1 hy).1; omega
  have en : p + 1 + (n - h) = n := by omega
  have ek : h + (k - h) = k := by omega
  have JA := Lib.hid (fun (Pa Ja Ma Ba Pb Jb Mb Bb : Option Addr) (pa ja ma ba pb jb mb bb : Nat) W (a1 : ES.Rd W Pa (ps.take p)) (a2 : EI.Rd W Ja (ks.take h)) (a3 : EG.Rd W Ma (forL emptyS y ms)) (a4 : ES.Rd W Pb (ps.drop h)) (a5 : EI.Rd W Jb (ks.drop h)) (a6 : EG.Rd W Mb (resL emptyS y ms)) => show Calls Tryz.prog 13 #[NV 2 (.slice Pa p pa) (.slice Ja h ja) (.slice Ma l ma) (.slice Ba 0 ba), NV 2 (.slice Pb (n - h) pb) (.slice Jb (k - h) jb) (.slice Mb r mb) (.slice Bb 0 bb), .string y] W (AddP W 2 n k (l + r) ps ks ms') from by
    have q := join_any 2 2 Pa Ja Ma Ba Pb Jb Mb Bb p pa h ja l ma 0 ba (n - h) pb (k - h) jb r mb 0 bb (ps.take p) (ps.drop h) (ks.take h) (ks.drop h) (forL emptyS y ms) (resL emptyS y ms) y W tl1 tl2 hL tl3 tl4 hR (by omega) ⟨a1, a2, a3⟩ ⟨a4, a5, a6⟩
    rw [hjp, hjk, en, ek, ← hms'] at q
    exact q)
  have RJ := Lib.hid (fun (Pa Ja Ma Ba Pb Jb Mb Bb : Option Addr) (pa ja ma ba pb jb mb bb : Nat) W (cj : h ≤ ja) (a1 : ES.Rd W Pa (ps.take p)) (a2 : EI.Rd W Ja (ks.take h)) (a3 : EG.Rd W Ma (forL emptyS y ms)) (a4 : ES.Rd W Pb (ps.drop h)) (a5 : EI.Rd W Jb (ks.drop h)) (a6 : EG.Rd W Mb (resL emptyS y ms)) => show Calls Tryz.prog 15 #[NV 2 (.slice Pa p pa) (.slice Ja h ja) (.slice Ma l ma) (.slice Ba 0 ba), NV 2 (.slice Pb (n - h) pb) (.slice Jb (k - h) jb) (.slice Mb r mb) (.slice Bb 0 bb), .string y] W (RJoinP W 2 n k (l + r) ps ks ms') from by
    have q := rjoin_any 2 2 Pa Ja Ma Ba Pb Jb Mb Bb p pa h ja l ma 0 ba (n - h) pb (k - h) jb r mb 0 bb (ps.take p) (ps.drop h) (ks.take h) (ks.drop h) (forL emptyS y ms) (resL emptyS y ms) y W tl1 tl2 hL tl3 tl4 hR (by omega) cj ⟨a1, a2, a3⟩ ⟨a4, a5, a6⟩
    rw [hjp, hjk, en, ek, ← hms'] at q
    exact q)
  unfold AddP at JA
  unfold RJoinP at RJ
  have SN := Lib.hid (fun (Pa Ja Ma Ba Pb Jb Mb Bb : Option Addr) (pa ja ma ba pb jb mb bb : Nat) W (a1 : ES.Rd W Pa ps) (a2 : ES.Rd W Pb ps) (a3 : EI.Rd W Ja ks) (a4 : EI.Rd W Jb ks) (a5 : EG.Rd W Ma ms') (a6 : EG.Rd W Mb ms') => same14 2 Pa Ja Ma Ba Pb Jb Mb Bb n k (l + r) pa ja ma ba pb jb mb bb ps ks ms' W hl (by omega) hkl (by omega) hm'l (by omega) a1 a2 a3 a4 a5 a6)
  have S0 := Lib.hid (fun (Pa Ja Ba Pb Jb Bb : Option Addr) (pa ja ba pb jb bb : Nat) W (a1 : ES.Rd W Pa ps) (a2 : ES.Rd W Pb ps) (a3 : EI.Rd W Ja ks) (a4 : EI.Rd W Jb ks) => same14 2 Pa Ja none Ba Pb Jb none Bb n k 0 pa ja 0 ba pb jb 0 bb ps ks [] W hl (by omega) hkl (by omega) rfl (by omega) a1 a2 a3 a4 (.inl rfl) (.inl rfl))
  have HKT := Lib.hid tl2
  have HPP := Lib.hid (fun W (b : Below w.heap.size w W) => hP.later b)
  have HJJ := Lib.hid (fun W (b : Below w.heap.size w W) => hJ.later b)
  have HMM := Lib.hid (fun W (b : Below w.heap.size w W) => hM.later b)
  have hk2i : ¬ (k : Int) < 2 := by omega
  have hle := bl_le y.toList s.toList
  have hGE : (Op.bytesLess y.toList s.toList || y.toList == s.toList) = !g := by rw [hle]; unfold lt at hg; rw [hg]
  have hLT : Op.bytesLess s.toList y.toList = g := hg
  have HGE := Lib.hid hGE
  have y1 := two_new w (NO 2 (.slice (some ⟨b0, o0, none⟩) n pc) (.slice (some ⟨b1, o1, none⟩) k kc) (.slice M m mc) (.slice B 0 bc)) (rgc f t)
  have H0 := Lib.hid (bel_alloc (alb w (NO 2 (.slice (some ⟨b0, o0, none⟩) n pc) (.slice (some ⟨b1, o1, none⟩) k kc) (.slice M m mc) (.slice B 0 bc))) (rgc f t))
  have Z := Lib.hid y1.1
  have R := Lib.hid y1.2
  clear y1 hl hP hkl hJ hxk hm hM ho hd hps hs hr hk2 hnp hnk hh hp1 hy hg s1 s2 s3 hk gy hL hR hl9 hr9 szy szE ok1 ok2 tl1 tl2 tl3 tl4 RX RY hms' hm'l hd1 hd2 hd' hXY hjp hjk hpn en ek hle hGE
  obtain ⟨c0, c1, c2, c3, c4⟩ := cells5 Z.out
  obtain ⟨d0, d1, -, -⟩ := has_two R.out
  go_enter Tryz.func3, Tryz.ntmps3
  go_upto_region 4 with (first
    | (go_at_call 4; ((with_reducible refine (SA.out _).mono ?_); rintro e w1 ⟨rfl, bb⟩; replace H0 := Lib.hid (bel_trans H0.out bb); replace Z := Lib.hid (keep_bel bb Z.out); replace R := Lib.hid (keep_bel bb R.out); clear bb c0 c1 c2 c3 c4 d0 d1; obtain ⟨c0, c1, c2, c3, c4⟩ := cells5 Z.out; obtain ⟨d0, d1, -, -⟩ := has_two R.out))
    | (go_at_call 5; ((with_reducible refine (RA.out _ H0.out).mono ?_); rintro e w2 ⟨rfl, bb⟩; replace H0 := Lib.hid (bel_trans H0.out bb); replace Z := Lib.hid (keep_bel bb Z.out); replace R := Lib.hid (keep_bel bb R.out); clear bb c0 c1 c2 c3 c4 d0 d1; obtain ⟨c0, c1, c2, c3, c4⟩ := cells5 Z.out))
    | (go_at_call 7; ((with_reducible refine (HA.out _ H0.out).mono ?_); rintro e w3 ⟨P1, p1, J1, j1, M1, m1, B1, b1', P2, p2, J2, j2, M2, m2, B2, b2', rfl, r1, r2, bb⟩; have R1 := Lib.hid r1; have R2 := Lib.hid r2; replace H0 := Lib.hid (bel_trans H0.out bb); replace Z := Lib.hid (keep_bel bb Z.out); replace R := Lib.hid (keep_bel bb R.out); clear bb r1 r2 c0 c1 c2 c3 c4))
    | fail)
  have y2 := two_new w3 (NO 2 (.slice P1 p p1) (.slice J1 h j1) (.slice M1 l m1) (.slice B1 0 b1')) (NO 2 (.slice P2 (n - h) p2) (.slice J2 (k - h) j2) (.slice M2 r m2) (.slice B2 0 b2'))
  have AL := bel_alloc (alb w3 (NO 2 (.slice P1 p p1) (.slice J1 h j1) (.slice M1 l m1) (.slice B1 0 b1'))) (NO 2 (.slice P2 (n - h) p2) (.slice J2 (k - h) j2) (.slice M2 r m2) (.slice B2 0 b2'))
  obtain ⟨W3, hW3⟩ : ∃ W3, W3 = ((w3.alloc (NO 2 (.slice P1 p p1) (.slice J1 h j1) (.slice M1 l m1) (.slice B1 0 b1'))).alloc (NO 2 (.slice P2 (n - h) p2) (.slice J2 (k - h) j2) (.slice M2 r m2) (.slice B2 0 b2'))) := ⟨_, rfl⟩
  rw [← hW3] at y2 AL ⊢
  replace H0 := Lib.hid (bel_trans H0.out AL)
  replace Z := Lib.hid (keep_bel AL Z.out)
  replace R := Lib.hid (keep_bel AL R.out)
  replace R1 := Lib.hid (R1.out.later AL)
  replace R2 := Lib.hid (R2.out.later AL)
  have GA := Lib.hid y2.1
  have GB := Lib.hid y2.2
  clear AL hW3 y2
  obtain ⟨c0, c1, c2, c3, c4⟩ := cells5 Z.out
  go_upto_region 5 with (first
    | (go_at_call 8; ((with_reducible refine (RH.out _ H0.out).mono ?_); rintro e w4 ⟨P3, p3, J3, j3, M3, m3, B3, b3', P4, p4, J4, j4, M4, m4, B4, b4', rfl, r3, r4, bb⟩; have R3 := Lib.hid r3; have R4 := Lib.hid r4; replace H0 := Lib.hid (bel_trans H0.out bb); replace Z := Lib.hid (keep_bel bb Z.out); replace R := Lib.hid (keep_bel bb R.out); replace GA := Lib.hid (keep_bel bb GA.out); replace GB := Lib.hid (keep_bel bb GB.out); replace R1 := Lib.hid (R1.out.later bb); replace R2 := Lib.hid (R2.out.later bb); clear bb r3 r4 c0 c1 c2 c3 c4))
    | fail)
  have y2 := two_new w4 (NO 2 (.slice P3 p p3) (.slice J3 h j3) (.slice M3 l m3) (.slice B3 0 b3')) (NO 2 (.slice P4 (n - h) p4) (.slice J4 (k - h) j4) (.slice M4 r m4) (.slice B4 0 b4'))
  have AL := bel_alloc (alb w4 (NO 2 (.slice P3 p p3) (.slice J3 h j3) (.slice M3 l m3) (.slice B3 0 b3'))) (NO 2 (.slice P4 (n - h) p4) (.slice J4 (k - h) j4) (.slice M4 r m4) (.slice B4 0 b4'))
  obtain ⟨W4, hW4⟩ : ∃ W4, W4 = ((w4.alloc (NO 2 (.slice P3 p p3) (.slice J3 h j3) (.slice M3 l m3) (.slice B3 0 b3'))).alloc (NO 2 (.slice P4 (n - h) p4) (.slice J4 (k - h) j4) (.slice M4 r m4) (.slice B4 0 b4'))) := ⟨_, rfl⟩
  rw [← hW4] at y2 AL ⊢
  replace H0 := Lib.hid (bel_trans H0.out AL)
  replace Z := Lib.hid (keep_bel AL Z.out)
  replace R := Lib.hid (keep_bel AL R.out)
  replace GA := Lib.hid (keep_bel AL GA.out)
  replace GB := Lib.hid (keep_bel AL GB.out)
  replace R1 := Lib.hid (R1.out.later AL)
  replace R2 := Lib.hid (R2.out.later AL)
  have GC := Lib.hid y2.1
  have GD := Lib.hid y2.2
  replace R3 := Lib.hid (And.intro (R3.out.1.later AL) (And.intro (R3.out.2.1.later AL) (R3.out.2.2.later AL)))
  replace R4 := Lib.hid (And.intro (R4.out.1.later AL) (And.intro (R4.out.2.1.later AL) (R4.out.2.2.later AL)))
  clear AL hW4 y2
  obtain ⟨a0, a1, a2, a3, a4⟩ := cells5 GA.out
  obtain ⟨z0, z1, z2, z3, z4⟩ := cells5 GB.out
  obtain ⟨u0, u1, u2, u3, u4⟩ := cells5 GC.out
  obtain ⟨x0, x1, x2, x3, x4⟩ := cells5 GD.out
  obtain ⟨c0, c1, c2, c3, c4⟩ := cells5 Z.out
  go_upto_region 9 with (first
    | (go_at_call 9; ((with_reducible refine (SM1.out P1 J1 M1 B1 P3 J3 M3 B3 p1 j1 m1 b1' p3 j3 m3 b3' _ R1.out.r1.rd R3.out.1 R1.out.r2.rd R3.out.2.1 R1.out.r3.rd R3.out.2.2).mono ?_); rintro e w5 ⟨rfl, bb⟩; replace H0 := Lib.hid (bel_trans H0.out bb); replace Z := Lib.hid (keep_bel bb Z.out); replace R := Lib.hid (keep_bel bb R.out); replace GA := Lib.hid (keep_bel bb GA.out); replace GB := Lib.hid (keep_bel bb GB.out); replace GC := Lib.hid (keep_bel bb GC.out); replace GD := Lib.hid (keep_bel bb GD.out); replace R1 := Lib.hid (R1.out.later bb); replace R2 := Lib.hid (R2.out.later bb); replace R3 := Lib.hid (And.intro (R3.out.1.later bb) (And.intro (R3.out.2.1.later bb) (R3.out.2.2.later bb))); replace R4 := Lib.hid (And.intro (R4.out.1.later bb) (And.intro (R4.out.2.1.later bb) (R4.out.2.2.later bb))); clear bb a0 a1 a2 a3 a4 z0 z1 z2 z3 z4 u0 u1 u2 u3 u4 x0 x1 x2 x3 x4 c0 c1 c2 c3 c4; obtain ⟨a0, a1, a2, a3, a4⟩ := cells5 GA.out; obtain ⟨z0, z1, z2, z3, z4⟩ := cells5 GB.out; obtain ⟨u0, u1, u2, u3, u4⟩ := cells5 GC.out; obtain ⟨x0, x1, x2, x3, x4⟩ := cells5 GD.out; obtain ⟨c0, c1, c2, c3, c4⟩ := cells5 Z.out))
    | (go_at_call 9; ((with_reducible refine (SM2.out P2 J2 M2 B2 P4 J4 M4 B4 p2 j2 m2 b2' p4 j4 m4 b4' _ R2.out.r1.rd R4.out.1 R2.out.r2.rd R4.out.2.1 R2.out.r3.rd R4.out.2.2).mono ?_); rintro e w6 ⟨rfl, bb⟩; replace H0 := Lib.hid (bel_trans H0.out bb); replace Z := Lib.hid (keep_bel bb Z.out); replace R := Lib.hid (keep_bel bb R.out); replace GA := Lib.hid (keep_bel bb GA.out); replace GB := Lib.hid (keep_bel bb GB.out); replace GC := Lib.hid (keep_bel bb GC.out); replace GD := Lib.hid (keep_bel bb GD.out); replace R1 := Lib.hid (R1.out.later bb); replace R2 := Lib.hid (R2.out.later bb); replace R3 := Lib.hid (And.intro (R3.out.1.later bb) (And.intro (R3.out.2.1.later bb) (R3.out.2.2.later bb))); replace R4 := Lib.hid (And.intro (R4.out.1.later bb) (And.intro (R4.out.2.1.later bb) (R4.out.2.2.later bb))); clear bb a0 a1 a2 a3 a4 z0 z1 z2 z3 z4 u0 u1 u2 u3 u4 x0 x1 x2 x3 x4 c0 c1 c2 c3 c4; obtain ⟨a0, a1, a2, a3, a4⟩ := cells5 GA.out; obtain ⟨z0, z1, z2, z3, z4⟩ := cells5 GB.out; obtain ⟨u0, u1, u2, u3, u4⟩ := cells5 GC.out; obtain ⟨x0, x1, x2, x3, x4⟩ := cells5 GD.out; obtain ⟨c0, c1, c2, c3, c4⟩ := cells5 Z.out))
    | fail)
  obtain ⟨d0, d1, -, -⟩ := has_two R.out
  clear R3 R4 GC GD u0 u1 u2 u3 u4 x0 x1 x2 x3 x4
  go_upto_region 10 with (first
    | (go_at_call 10; ((with_reducible refine (SP.out _).mono ?_); rintro e w9 ⟨rfl, bb⟩; replace H0 := Lib.hid (bel_trans H0.out bb); replace Z := Lib.hid (keep_bel bb Z.out); replace GA := Lib.hid (keep_bel bb GA.out); replace GB := Lib.hid (keep_bel bb GB.out); replace R1 := Lib.hid (R1.out.later bb); replace R2 := Lib.hid (R2.out.later bb); clear bb d0 d1 a0 a1 a2 a3 a4 z0 z1 z2 z3 z4 c0 c1 c2 c3 c4))
    | fail)
  have y2 := two_new w9 (rgc f y) (rgc y t)
  have AL := bel_alloc (alb w9 (rgc f y)) (rgc y t)
  obtain ⟨W9, hW9⟩ : ∃ W9, W9 = ((w9.alloc (rgc f y)).alloc (rgc y t)) := ⟨_, rfl⟩
  rw [← hW9] at y2 AL ⊢
  replace H0 := Lib.hid (bel_trans H0.out AL)
  replace Z := Lib.hid (keep_bel AL Z.out)
  replace GA := Lib.hid (keep_bel AL GA.out)
  replace GB := Lib.hid (keep_bel AL GB.out)
  replace R1 := Lib.hid (R1.out.later AL)
  replace R2 := Lib.hid (R2.out.later AL)
  have NL := Lib.hid y2.1
  have NH := Lib.hid y2.2
  clear AL hW9 y2
  obtain ⟨a0, a1, a2, a3, a4⟩ := cells5 GA.out
  obtain ⟨z0, z1, z2, z3, z4⟩ := cells5 GB.out
  obtain ⟨c0, c1, c2, c3, c4⟩ := cells5 Z.out
  obtain ⟨d0, d1, -, -⟩ := has_two NL.out
  obtain ⟨e0, e1, -, -⟩ := has_two NH.out
  go_upto_region 13 with (first
    | (go_at_call 11; ((with_reducible refine (IX.out P1 J1 M1 B1 p1 j1 m1 b1' _ R1.out.r1.rd R1.out.r2.rd R1.out.r3.rd).mono ?_); rintro e wc ⟨rfl, bb⟩; replace H0 := Lib.hid (bel_trans H0.out bb); replace Z := Lib.hid (keep_bel bb Z.out); replace GA := Lib.hid (keep_bel bb GA.out); replace GB := Lib.hid (keep_bel bb GB.out); replace NL := Lib.hid (keep_bel bb NL.out); replace NH := Lib.hid (keep_bel bb NH.out); replace R1 := Lib.hid (R1.out.later bb); replace R2 := Lib.hid (R2.out.later bb); clear bb a0 a1 a2 a3 a4 z0 z1 z2 z3 z4 c0 c1 c2 c3 c4 d0 d1 e0 e1; obtain ⟨a0, a1, a2, a3, a4⟩ := cells5 GA.out; obtain ⟨z0, z1, z2, z3, z4⟩ := cells5 GB.out; obtain ⟨c0, c1, c2, c3, c4⟩ := cells5 Z.out; obtain ⟨d0, d1, -, -⟩ := has_two NL.out; obtain ⟨e0, e1, -, -⟩ := has_two NH.out))
    | (go_at_call 11; ((with_reducible refine (IY.out P2 J2 M2 B2 p2 j2 m2 b2' _ R2.out.r1.rd R2.out.r2.rd R2.out.r3.rd).mono ?_); rintro e wd ⟨rfl, bb⟩; replace H0 := Lib.hid (bel_trans H0.out bb); replace Z := Lib.hid (keep_bel bb Z.out); replace GA := Lib.hid (keep_bel bb GA.out); replace GB := Lib.hid (keep_bel bb GB.out); replace NL := Lib.hid (keep_bel bb NL.out); replace NH := Lib.hid (keep_bel bb NH.out); replace R1 := Lib.hid (R1.out.later bb); replace R2 := Lib.hid (R2.out.later bb); clear bb a0 a1 a2 a3 a4 z0 z1 z2 z3 z4 c0 c1 c2 c3 c4 d0 d1 e0 e1; obtain ⟨a0, a1, a2, a3, a4⟩ := cells5 GA.out; obtain ⟨z0, z1, z2, z3, z4⟩ := cells5 GB.out; obtain ⟨c0, c1, c2, c3, c4⟩ := cells5 Z.out; obtain ⟨d0, d1, -, -⟩ := has_two NL.out; obtain ⟨e0, e1, -, -⟩ := has_two NH.out))
    | fail)
  cases g
  all_goals
    have VU := Lib.hid (fun W (a1 : EG.Rd W M1 (forL emptyS y ms)) (a2 : EG.Rd W M2 (resL emptyS y ms)) => VH.out M1 M2 m1 m2 W a1 a2)
    simp only [cond_true, cond_false] at VU
    clear VH HGE d0 d1 e0 e1 NL NH
    go_upto_region 17 with (first
      | (go_at_call 12; ((with_reducible refine (VN.out M mc _ (HMM.out _ H0.out)).mono ?_); rintro e wf ⟨rfl, bb⟩; replace H0 := Lib.hid (bel_trans H0.out bb); replace Z := Lib.hid (keep_bel bb Z.out); replace GA := Lib.hid (keep_bel bb GA.out); replace GB := Lib.hid (keep_bel bb GB.out); replace R1 := Lib.hid (R1.out.later bb); replace R2 := Lib.hid (R2.out.later bb); clear bb c0 c1 c2 c3 c4 a0 a1 a2 a3 a4 z0 z1 z2 z3 z4; obtain ⟨c0, c1, c2, c3, c4⟩ := cells5 Z.out; obtain ⟨a0, a1, a2, a3, a4⟩ := cells5 GA.out; obtain ⟨z0, z1, z2, z3, z4⟩ := cells5 GB.out))
      | (go_at_call 12; ((with_reducible refine (VU.out _ R1.out.r3.rd R2.out.r3.rd).mono ?_); rintro e wg ⟨rfl, bb⟩; replace H0 := Lib.hid (bel_trans H0.out bb); replace Z := Lib.hid (keep_bel bb Z.out); replace GA := Lib.hid (keep_bel bb GA.out); replace GB := Lib.hid (keep_bel bb GB.out); replace R1 := Lib.hid (R1.out.later bb); replace R2 := Lib.hid (R2.out.later bb); clear bb c0 c1 c2 c3 c4 a0 a1 a2 a3 a4 z0 z1 z2 z3 z4; obtain ⟨c0, c1, c2, c3, c4⟩ := cells5 Z.out; obtain ⟨a0, a1, a2, a3, a4⟩ := cells5 GA.out; obtain ⟨z0, z1, z2, z3, z4⟩ := cells5 GB.out))
      | fail)
    clear hLT
    go_upto_region 18 with (first
      | (go_at_call 13; ((with_reducible refine (JA.out P1 J1 M1 B1 P2 J2 M2 B2 p1 j1 m1 b1' p2 j2 m2 b2' _ R1.out.r1.rd R1.out.r2.rd R1.out.r3.rd R2.out.r1.rd R2.out.r2.rd R2.out.r3.rd).mono ?_); rintro e wh ⟨P5, p5, J5, j5, M5, m5, B5, b5', rfl, q1, q2, q3, bb⟩; have QP := Lib.hid q1.rd; have QJ := Lib.hid q2.rd; have QM := Lib.hid q3.1; replace H0 := Lib.hid (bel_trans H0.out bb); replace Z := Lib.hid (keep_bel bb Z.out); replace GA := Lib.hid (keep_bel bb GA.out); replace GB := Lib.hid (keep_bel bb GB.out); replace R1 := Lib.hid (R1.out.later bb); replace R2 := Lib.hid (R2.out.later bb); clear bb c0 c1 c2 c3 c4 a0 a1 a2 a3 a4 z0 z1 z2 z3 z4; clear q1 q2 q3))
      | fail)
    have AL := alb wh (NO 2 (.slice P5 n p5) (.slice J5 k j5) (.slice M5 (l + r) m5) (.slice B5 0 b5'))
    have GX := Lib.hid (heap_alloc_new wh (NO 2 (.slice P5 n p5) (.slice J5 k j5) (.slice M5 (l + r) m5) (.slice B5 0 b5')))
    obtain ⟨WH, hWH⟩ : ∃ WH, WH = wh.alloc (NO 2 (.slice P5 n p5) (.slice J5 k j5) (.slice M5 (l + r) m5) (.slice B5 0 b5')) := ⟨_, rfl⟩
    rw [← hWH] at AL ⊢
    replace GX : Hid (WH.heap[wh.heap.size]? = some (NO 2 (.slice P5 n p5) (.slice J5 k j5) (.slice M5 (l + r) m5) (.slice B5 0 b5'))) := Lib.hid (by rw [hWH]; exact GX.out)
    replace H0 := Lib.hid (bel_trans H0.out AL)
    replace Z := Lib.hid (keep_bel AL Z.out)
    replace GA := Lib.hid (keep_bel AL GA.out)
    replace GB := Lib.hid (keep_bel AL GB.out)
    replace R1 := Lib.hid (R1.out.later AL)
    replace R2 := Lib.hid (R2.out.later AL)
    replace QP := Lib.hid (QP.out.later AL)
    replace QJ := Lib.hid (QJ.out.later AL)
    replace QM := Lib.hid (QM.out.later AL)
    clear AL hWH
    obtain ⟨x0, x1, x2, x3, x4⟩ := cells5 GX.out
    go_upto_region 19 with (first
      | (go_at_call 12; ((with_reducible refine (VJ.out M5 m5 _ QM.out).mono ?_); rintro e wi ⟨rfl, bb⟩; replace H0 := Lib.hid (bel_trans H0.out bb); replace Z := Lib.hid (keep_bel bb Z.out); replace GA := Lib.hid (keep_bel bb GA.out); replace GB := Lib.hid (keep_bel bb GB.out); replace GX := Lib.hid (keep_bel bb GX.out); replace R1 := Lib.hid (R1.out.later bb); replace R2 := Lib.hid (R2.out.later bb); replace QP := Lib.hid (QP.out.later bb); replace QJ := Lib.hid (QJ.out.later bb); replace QM := Lib.hid (QM.out.later bb); clear bb x0 x1 x2 x3 x4))
      | fail)
    have QS := Lib.hid (show ∀ q ∈ ([(w.heap.size, (NO 2 (.slice (some ⟨b0, o0, none⟩) n pc) (.slice (some ⟨b1, o1, none⟩) k kc) (.slice M m mc) (.slice B 0 bc))), (w3.heap.size, (NO 2 (.slice P1 p p1) (.slice J1 h j1) (.slice M1 l m1) (.slice B1 0 b1'))), (w3.heap.size + 1, (NO 2 (.slice P2 (n - h) p2) (.slice J2 (k - h) j2) (.slice M2 r m2) (.slice B2 0 b2'))), (wh.heap.size, (NO 2 (.slice P5 n p5) (.slice J5 k j5) (.slice M5 (l + r) m5) (.slice B5 0 b5')))] : List (Nat × Obj)), wi.heap[q.1]? = some q.2 by
      intro q hq
      simp only [List.mem_cons, List.not_mem_nil, or_false] at hq
      rcases hq with rfl | rfl | rfl | rfl
      · exact Z.out
      · exact GA.out
      · exact GB.out
      · exact GX.out)
    have CJ : Hid (h ≤ j1) := Lib.hid (by have q := R1.out.r2.cap; rw [HKT.out] at q; exact q.1)
    refine wp_region_held_drew (S := (SK wi [(w.heap.size, (NO 2 (.slice (some ⟨b0, o0, none⟩) n pc) (.slice (some ⟨b1, o1, none⟩) k kc) (.slice M m mc) (.slice B 0 bc))), (w3.heap.size, (NO 2 (.slice P1 p p1) (.slice J1 h j1) (.slice M1 l m1) (.slice B1 0 b1'))), (w3.heap.size + 1, (NO 2 (.slice P2 (n - h) p2) (.slice J2 (k - h) j2) (.slice M2 r m2) (.slice B2 0 b2'))), (wh.heap.size, (NO 2 (.slice P5 n p5) (.slice J5 k j5) (.slice M5 (l + r) m5) (.slice B5 0 b5')))])) (by kernel_rfl) ?_ (fun hHeld => ?_)
    · exact SK.start QS.out
    have HHeld := Lib.hid hHeld; clear hHeld
    refine wpAnyH_ready (rs := [0]) (by kernel_rfl) (by simp) ?_
    refine AllReadyH.cons (o := { dst := some 128, op := Op.call { callee := Callee.value (Operand.func 6), args := #[], argTypes := #[] }, type := 4, pos := "law.go:113", after := #[], guard := none }) rfl (fun K hK => ?_) AllReadyH.nil
    go_simp
    go_at_call 6; ((with_reducible refine (live_true _).mono ?_); rintro e v0 ⟨rfl, bb⟩; have K0 := Lib.hid (HHeld.out.later bb); clear bb)
    refine hK.out _ _ ?_ (fun hHeld => ?_)
    · exact K0.out
    clear HHeld; have HHeld := Lib.hid hHeld; clear hHeld
    clear hK K
    try simp only [pu, pn, s1, s2, s3]
    refine wT (i := 1) (oi := { dst := some 129, op := Op.move (Operand.tmp 128), type := 4, pos := "law.go:113", after := #[{ on := 0, ground := Ground.data }, { on := 0, ground := Ground.chain }], guard := none }) (v := ?_) rfl (Or.inl ⟨by rfl, ?_⟩) HHeld.out ?_
    rotate_left
    · intro w hSw; clear hSw; go_simp; try with_reducible rfl
    try simp only [pu, pn, s1, s2, s3]
    refine wT (i := 2) (oi := { dst := some 130, op := Op.move (Operand.tmp 21), type := 9, pos := "law.go:113", after := #[{ on := 1, ground := Ground.guard }], guard := some (1, true) }) (v := ?_) rfl (Or.inl ⟨by rfl, ?_⟩) HHeld.out ?_
    rotate_left
    · intro w hSw; clear hSw; go_simp; try with_reducible rfl
    try simp only [pu, pn, s1, s2, s3]
    refine wT (i := 3) (oi := { dst := some 131, op := Op.move (Operand.tmp 23), type := 9, pos := "law.go:113", after := #[{ on := 1, ground := Ground.guard }], guard := some (1, true) }) (v := ?_) rfl (Or.inl ⟨by rfl, ?_⟩) HHeld.out ?_
    rotate_left
    · intro w hSw; clear hSw; go_simp; try with_reducible rfl
    try simp only [pu, pn, s1, s2, s3]
    refine wT (i := 4) (oi := { dst := some 132, op := Op.binOp BinOp.eql 9 (Operand.tmp 130) (Operand.tmp 131) 9, type := 4, pos := "law.go:113", after := #[{ on := 2, ground := Ground.data }, { on := 3, ground := Ground.data }, { on := 1, ground := Ground.guard }], guard := some (1, true) }) (v := (.bool true : Value)) rfl (Or.inl ⟨by rfl, ?_⟩) HHeld.out ?_
    · intro V hV; have hc0 := (rfl : (0 : Nat) = 0); clear hV; go_simp
    try simp only [pu, pn, s1, s2, s3]
    refine wT (i := 5) (oi := { dst := some 133, op := Op.pick (Operand.tmp 129) (Operand.tmp 132) (Operand.const (Value.bool false)), type := 4, pos := "law.go:113", after := #[{ on := 1, ground := Ground.data }, { on := 4, ground := Ground.data }], guard := none }) (v := ?_) rfl (Or.inl ⟨by rfl, ?_⟩) HHeld.out ?_
    rotate_left
    · intro w hSw; clear hSw; go_simp; try with_reducible rfl
    try simp only [pu, pn, s1, s2, s3]
    refine wT (i := 6) (oi := { dst := some 134, op := Op.move (Operand.tmp 133), type := 4, pos := "law.go:113", after := #[{ on := 5, ground := Ground.data }, { on := 1, ground := Ground.chain }], guard := none }) (v := ?_) rfl (Or.inl ⟨by rfl, ?_⟩) HHeld.out ?_
    rotate_left
    · intro w hSw; clear hSw; go_simp; try with_reducible rfl
    try simp only [pu, pn, s1, s2, s3]
    refine wT (i := 7) (oi := { dst := some 135, op := Op.move (Operand.tmp 22), type := 4, pos := "law.go:113", after := #[{ on := 6, ground := Ground.guard }], guard := some (6, true) }) (v := ?_) rfl (Or.inl ⟨by rfl, ?_⟩) HHeld.out ?_
    rotate_left
    · intro w hSw; clear hSw; go_simp; try with_reducible rfl
    try simp only [pu, pn, s1, s2, s3]
    refine wT (i := 8) (oi := { dst := some 136, op := Op.move (Operand.tmp 24), type := 4, pos := "law.go:113", after := #[{ on := 6, ground := Ground.guard }], guard := some (6, true) }) (v := ?_) rfl (Or.inl ⟨by rfl, ?_⟩) HHeld.out ?_
    rotate_left
    · intro w hSw; clear hSw; go_simp; try with_reducible rfl
    try simp only [pu, pn, s1, s2, s3]
    refine wT (i := 9) (oi := { dst := some 137, op := Op.binOp BinOp.eql 4 (Operand.tmp 135) (Operand.tmp 136) 4, type := 4, pos := "law.go:113", after := #[{ on := 7, ground := Ground.data }, { on := 8, ground := Ground.data }, { on := 6, ground := Ground.guard }], guard := some (6, true) }) (v := (.bool true : Value)) rfl (Or.inl ⟨by rfl, ?_⟩) HHeld.out ?_
    · intro V hV; have hc0 := (rfl : (0 : Nat) = 0); clear hV; go_simp
    try simp only [pu, pn, s1, s2, s3]
    refine wT (i := 10) (oi := { dst := some 138, op := Op.pick (Operand.tmp 134) (Operand.tmp 137) (Operand.const (Value.bool false)), type := 4, pos := "law.go:113", after := #[{ on := 6, ground := Ground.data }, { on := 9, ground := Ground.data }], guard := none }) (v := ?_) rfl (Or.inl ⟨by rfl, ?_⟩) HHeld.out ?_
    rotate_left
    · intro w hSw; clear hSw; go_simp; try with_reducible rfl
    try simp only [pu, pn, s1, s2, s3]
    refine wT (i := 11) (oi := { dst := some 139, op := Op.move (Operand.tmp 138), type := 4, pos := "law.go:113", after := #[{ on := 10, ground := Ground.data }, { on := 6, ground := Ground.chain }], guard := none }) (v := ?_) rfl (Or.inl ⟨by rfl, ?_⟩) HHeld.out ?_
    rotate_left
    · intro w hSw; clear hSw; go_simp; try with_reducible rfl
    try simp only [pu, pn, s1, s2, s3]
    refine wT (i := 12) (oi := { dst := some 140, op := Op.move (Operand.tmp 26), type := 9, pos := "law.go:113", after := #[{ on := 11, ground := Ground.guard }], guard := some (11, true) }) (v := ?_) rfl (Or.inl ⟨by rfl, ?_⟩) HHeld.out ?_
    rotate_left
    · intro w hSw; clear hSw; go_simp; try with_reducible rfl
    try simp only [pu, pn, s1, s2, s3]
    refine wT (i := 13) (oi := { dst := some 141, op := Op.move (Operand.tmp 21), type := 9, pos := "law.go:113", after := #[{ on := 11, ground := Ground.guard }], guard := some (11, true) }) (v := ?_) rfl (Or.inl ⟨by rfl, ?_⟩) HHeld.out ?_
    rotate_left
    · intro w hSw; clear hSw; go_simp; try with_reducible rfl
    try simp only [pu, pn, s1, s2, s3]
    refine wT (i := 14) (oi := { dst := some 142, op := Op.binOp BinOp.eql 9 (Operand.tmp 140) (Operand.tmp 141) 9, type := 4, pos := "law.go:113", after := #[{ on := 12, ground := Ground.data }, { on := 13, ground := Ground.data }, { on := 11, ground := Ground.guard }], guard := some (11, true) }) (v := (.bool true : Value)) rfl (Or.inl ⟨by rfl, ?_⟩) HHeld.out ?_
    · intro V hV; have hc0 := (rfl : (0 : Nat) = 0); clear hV; go_simp
    try simp only [pu, pn, s1, s2, s3]
    refine wT (i := 15) (oi := { dst := some 143, op := Op.pick (Operand.tmp 139) (Operand.tmp 142) (Operand.const (Value.bool false)), type := 4, pos := "law.go:113", after := #[{ on := 11, ground := Ground.data }, { on := 14, ground := Ground.data }], guard := none }) (v := ?_) rfl (Or.inl ⟨by rfl, ?_⟩) HHeld.out ?_
    rotate_left
    · intro w hSw; clear hSw; go_simp; try with_reducible rfl
    try simp only [pu, pn, s1, s2, s3]
    refine wT (i := 16) (oi := { dst := some 144, op := Op.move (Operand.tmp 143), type := 4, pos := "law.go:113", after := #[{ on := 15, ground := Ground.data }, { on := 11, ground := Ground.chain }], guard := none }) (v := ?_) rfl (Or.inl ⟨by rfl, ?_⟩) HHeld.out ?_
    rotate_left
    · intro w hSw; clear hSw; go_simp; try with_reducible rfl
    try simp only [pu, pn, s1, s2, s3]
    refine wT (i := 17) (oi := { dst := some 145, op := Op.move (Operand.tmp 27), type := 4, pos := "law.go:113", after := #[{ on := 16, ground := Ground.guard }], guard := some (16, true) }) (v := ?_) rfl (Or.inl ⟨by rfl, ?_⟩) HHeld.out ?_
    rotate_left
    · intro w hSw; clear hSw; go_simp; try with_reducible rfl
    try simp only [pu, pn, s1, s2, s3]
    refine wT (i := 18) (oi := { dst := some 146, op := Op.move (Operand.tmp 22), type := 4, pos := "law.go:113", after := #[{ on := 16, ground := Ground.guard }], guard := some (16, true) }) (v := ?_) rfl (Or.inl ⟨by rfl, ?_⟩) HHeld.out ?_
    rotate_left
    · intro w hSw; clear hSw; go_simp; try with_reducible rfl
    try simp only [pu, pn, s1, s2, s3]
    refine wT (i := 19) (oi := { dst := some 147, op := Op.binOp BinOp.eql 4 (Operand.tmp 145) (Operand.tmp 146) 4, type := 4, pos := "law.go:113", after := #[{ on := 17, ground := Ground.data }, { on := 18, ground := Ground.data }, { on := 16, ground := Ground.guard }], guard := some (16, true) }) (v := (.bool true : Value)) rfl (Or.inl ⟨by rfl, ?_⟩) HHeld.out ?_
    · intro V hV; have hc0 := (rfl : (0 : Nat) = 0); clear hV; go_simp
    try simp only [pu, pn, s1, s2, s3]
    refine wT (i := 20) (oi := { dst := some 148, op := Op.pick (Operand.tmp 144) (Operand.tmp 147) (Operand.const (Value.bool false)), type := 4, pos := "law.go:113", after := #[{ on := 16, ground := Ground.data }, { on := 19, ground := Ground.data }], guard := none }) (v := ?_) rfl (Or.inl ⟨by rfl, ?_⟩) HHeld.out ?_
    rotate_left
    · intro w hSw; clear hSw; go_simp; try with_reducible rfl
    try simp only [pu, pn, s1, s2, s3]
    refine wT (i := 21) (oi := { dst := some 149, op := Op.move (Operand.tmp 148), type := 4, pos := "law.go:113", after := #[{ on := 20, ground := Ground.data }, { on := 16, ground := Ground.chain }], guard := none }) (v := ?_) rfl (Or.inl ⟨by rfl, ?_⟩) HHeld.out ?_
    rotate_left
    · intro w hSw; clear hSw; go_simp; try with_reducible rfl
    try simp only [pu, pn, s1, s2, s3]
    refine wT (i := 22) (oi := { dst := some 150, op := Op.load 28 (Operand.tmp 25), type := 28, pos := "law.go:113", after := #[{ on := 21, ground := Ground.guard }], guard := some (21, true) }) (v := (NV 2 (.slice P5 n p5) (.slice J5 k j5) (.slice M5 (l + r) m5) (.slice B5 0 b5') : Value)) rfl (Or.inl ⟨by rfl, ?_⟩) HHeld.out ?_
    · intro V hV; have hc0 := (cells5 (hV.g 3 rfl)).1; have hc1 := (cells5 (hV.g 3 rfl)).2.1; have hc2 := (cells5 (hV.g 3 rfl)).2.2.1; have hc3 := (cells5 (hV.g 3 rfl)).2.2.2.1; have hc4 := (cells5 (hV.g 3 rfl)).2.2.2.2; clear hV; go_simp
    try simp only [pu, pn, s1, s2, s3]
    refine wT (i := 24) (oi := { dst := some 152, op := Op.load 28 (Operand.tmp 5), type := 28, pos := "law.go:113", after := #[{ on := 21, ground := Ground.guard }], guard := some (21, true) }) (v := (NV 2 (.slice (some ⟨b0, o0, none⟩) n pc) (.slice (some ⟨b1, o1, none⟩) k kc) (.slice M m mc) (.slice B 0 bc) : Value)) rfl (Or.inl ⟨by rfl, ?_⟩) HHeld.out ?_
    · intro V hV; have hc0 := (cells5 (hV.g 0 rfl)).1; have hc1 := (cells5 (hV.g 0 rfl)).2.1; have hc2 := (cells5 (hV.g 0 rfl)).2.2.1; have hc3 := (cells5 (hV.g 0 rfl)).2.2.2.1; have hc4 := (cells5 (hV.g 0 rfl)).2.2.2.2; clear hV; go_simp
    try simp only [pu, pn, s1, s2, s3]
    refine wpAnyH_ready (rs := [23]) (by kernel_rfl) (by simp) ?_
    refine AllReadyH.cons (o := { dst := some 151, op := Op.call { callee := Callee.value (Operand.func 14), args := #[Operand.tmp 150, Operand.const (Value.slice none 0 0)], argTypes := #[28, 25] }, type := 28, pos := "law.go:113", after := #[{ on := 22, ground := Ground.data }, { on := 21, ground := Ground.chain }, { on := 21, ground := Ground.guard }], guard := some (21, true) }) rfl (fun K hK => ?_) AllReadyH.nil
    go_simp
    go_at_call 14; ((with_reducible refine (with_any 2 P5 J5 M5 B5 none n p5 k j5 (l + r) m5 0 b5' 0 0 _).mono ?_); rintro e v23 ⟨rfl, bb⟩; have K23 := Lib.hid (HHeld.out.later bb); clear bb)
    refine hK.out _ _ ?_ (fun hHeld => ?_)
    · exact K23.out
    clear HHeld; have HHeld := Lib.hid hHeld; clear hHeld
    clear hK K
    try simp only [pu, pn, s1, s2, s3]
    refine wpAnyH_ready (rs := [25]) (by kernel_rfl) (by simp) ?_
    refine AllReadyH.cons (o := { dst := some 153, op := Op.call { callee := Callee.value (Operand.func 14), args := #[Operand.tmp 152, Operand.const (Value.slice none 0 0)], argTypes := #[28, 25] }, type := 28, pos := "law.go:113", after := #[{ on := 24, ground := Ground.data }, { on := 23, ground := Ground.chain }, { on := 21, ground := Ground.guard }], guard := some (21, true) }) rfl (fun K hK => ?_) AllReadyH.nil
    go_simp
    go_at_call 14; ((with_reducible refine (with_any 2 (some ⟨b0, o0, none⟩) (some ⟨b1, o1, none⟩) M B none n pc k kc m mc 0 bc 0 0 _).mono ?_); rintro e v25 ⟨rfl, bb⟩; have K25 := Lib.hid (HHeld.out.later bb); clear bb)
    refine hK.out _ _ ?_ (fun hHeld => ?_)
    · exact K25.out
    clear HHeld; have HHeld := Lib.hid hHeld; clear hHeld
    clear hK K
    try simp only [pu, pn, s1, s2, s3]
    refine wpAnyH_ready (rs := [26]) (by kernel_rfl) (by simp) ?_
    refine AllReadyH.cons (o := { dst := some 154, op := Op.call { callee := Callee.value (Operand.func 9), args := #[Operand.tmp 151, Operand.tmp 153], argTypes := #[28, 28] }, type := 4, pos := "law.go:113", after := #[{ on := 23, ground := Ground.data }, { on := 25, ground := Ground.data }, { on := 25, ground := Ground.chain }, { on := 21, ground := Ground.guard }], guard := some (21, true) }) rfl (fun K hK => ?_) AllReadyH.nil
    go_simp
    go_at_call 9; ((with_reducible refine (S0.out P5 J5 B5 (some ⟨b0, o0, none⟩) (some ⟨b1, o1, none⟩) B p5 j5 b5' pc kc bc _ (QP.out.later HHeld.out.b) (HPP.out _ (bel_trans H0.out HHeld.out.b)) (QJ.out.later HHeld.out.b) (HJJ.out _ (bel_trans H0.out HHeld.out.b))).mono ?_); rintro e v26 ⟨rfl, bb⟩; have K26 := Lib.hid (HHeld.out.later bb); clear bb)
    refine hK.out _ _ ?_ (fun hHeld => ?_)
    · exact K26.out
    clear HHeld; have HHeld := Lib.hid hHeld; clear hHeld
    clear hK K
    try simp only [pu, pn, s1, s2, s3]
    refine wT (i := 27) (oi := { dst := some 155, op := Op.pick (Operand.tmp 149) (Operand.tmp 154) (Operand.const (Value.bool false)), type := 4, pos := "law.go:113", after := #[{ on := 21, ground := Ground.data }, { on := 26, ground := Ground.data }], guard := none }) (v := ?_) rfl (Or.inl ⟨by rfl, ?_⟩) HHeld.out ?_
    rotate_left
    · intro w hSw; clear hSw; go_simp; try with_reducible rfl
    try simp only [pu, pn, s1, s2, s3]
    refine wT (i := 28) (oi := { dst := some 156, op := Op.move (Operand.tmp 155), type := 4, pos := "law.go:113", after := #[{ on := 27, ground := Ground.data }, { on := 26, ground := Ground.chain }], guard := none }) (v := ?_) rfl (Or.inl ⟨by rfl, ?_⟩) HHeld.out ?_
    rotate_left
    · intro w hSw; clear hSw; go_simp; try with_reducible rfl
    try simp only [pu, pn, s1, s2, s3]
    refine wT (i := 29) (oi := { dst := some 157, op := Op.load 28 (Operand.tmp 25), type := 28, pos := "law.go:113", after := #[{ on := 28, ground := Ground.guard }], guard := some (28, true) }) (v := (NV 2 (.slice P5 n p5) (.slice J5 k j5) (.slice M5 (l + r) m5) (.slice B5 0 b5') : Value)) rfl (Or.inl ⟨by rfl, ?_⟩) HHeld.out ?_
    · intro V hV; have hc0 := (cells5 (hV.g 3 rfl)).1; have hc1 := (cells5 (hV.g 3 rfl)).2.1; have hc2 := (cells5 (hV.g 3 rfl)).2.2.1; have hc3 := (cells5 (hV.g 3 rfl)).2.2.2.1; have hc4 := (cells5 (hV.g 3 rfl)).2.2.2.2; clear hV; go_simp
    try simp only [pu, pn, s1, s2, s3]
    refine wT (i := 30) (oi := { dst := some 158, op := Op.load 28 (Operand.tmp 11), type := 28, pos := "law.go:113", after := #[{ on := 28, ground := Ground.guard }], guard := some (28, true) }) (v := (NV 2 (.slice P1 p p1) (.slice J1 h j1) (.slice M1 l m1) (.slice B1 0 b1') : Value)) rfl (Or.inl ⟨by rfl, ?_⟩) HHeld.out ?_
    · intro V hV; have hc0 := (cells5 (hV.g 1 rfl)).1; have hc1 := (cells5 (hV.g 1 rfl)).2.1; have hc2 := (cells5 (hV.g 1 rfl)).2.2.1; have hc3 := (cells5 (hV.g 1 rfl)).2.2.2.1; have hc4 := (cells5 (hV.g 1 rfl)).2.2.2.2; clear hV; go_simp
    try simp only [pu, pn, s1, s2, s3]
    refine wT (i := 31) (oi := { dst := some 159, op := Op.load 28 (Operand.tmp 12), type := 28, pos := "law.go:113", after := #[{ on := 28, ground := Ground.guard }], guard := some (28, true) }) (v := (NV 2 (.slice P2 (n - h) p2) (.slice J2 (k - h) j2) (.slice M2 r m2) (.slice B2 0 b2') : Value)) rfl (Or.inl ⟨by rfl, ?_⟩) HHeld.out ?_
    · intro V hV; have hc0 := (cells5 (hV.g 2 rfl)).1; have hc1 := (cells5 (hV.g 2 rfl)).2.1; have hc2 := (cells5 (hV.g 2 rfl)).2.2.1; have hc3 := (cells5 (hV.g 2 rfl)).2.2.2.1; have hc4 := (cells5 (hV.g 2 rfl)).2.2.2.2; clear hV; go_simp
    try simp only [pu, pn, s1, s2, s3]
    refine wT (i := 32) (oi := { dst := some 160, op := Op.move (Operand.tmp 13), type := 9, pos := "law.go:113", after := #[{ on := 28, ground := Ground.guard }], guard := some (28, true) }) (v := ?_) rfl (Or.inl ⟨by rfl, ?_⟩) HHeld.out ?_
    rotate_left
    · intro w hSw; clear hSw; go_simp; try with_reducible rfl
    try simp only [pu, pn, s1, s2, s3]
    refine wpAnyH_ready (rs := [33]) (by kernel_rfl) (by simp) ?_
    refine AllReadyH.cons (o := { dst := some 161, op := Op.call { callee := Callee.value (Operand.func 15), args := #[Operand.tmp 158, Operand.tmp 159, Operand.tmp 160], argTypes := #[28, 28, 9] }, type := 28, pos := "law.go:113", after := #[{ on := 30, ground := Ground.data }, { on := 31, ground := Ground.data }, { on := 32, ground := Ground.data }, { on := 28, ground := Ground.chain }, { on := 28, ground := Ground.guard }], guard := some (28, true) }) rfl (fun K hK => ?_) AllReadyH.nil
    go_simp
    go_at_call 15; ((with_reducible refine (RJ.out P1 J1 M1 B1 P2 J2 M2 B2 p1 j1 m1 b1' p2 j2 m2 b2' _ CJ.out (R1.out.r1.later HHeld.out.b).rd (R1.out.r2.later HHeld.out.b).rd (R1.out.r3.later HHeld.out.b).rd (R2.out.r1.later HHeld.out.b).rd (R2.out.r2.later HHeld.out.b).rd (R2.out.r3.later HHeld.out.b).rd).mono ?_); rintro e v33 ⟨P6, p6, J6, j6, M6, m6, rfl, y1, y2, y3, bb⟩; have K33 := Lib.hid (HHeld.out.later bb); have YP := Lib.hid y1; have YJ := Lib.hid y2; have YM := Lib.hid y3; clear bb y1 y2 y3)
    refine hK.out _ _ ?_ (fun hHeld => ?_)
    · exact K33.out
    clear HHeld; have HHeld := Lib.hid hHeld; clear hHeld
    clear hK K
    try simp only [pu, pn, s1, s2, s3]
    refine wpAnyH_ready (rs := [34]) (by kernel_rfl) (by simp) ?_
    refine AllReadyH.cons (o := { dst := some 162, op := Op.call { callee := Callee.value (Operand.func 9), args := #[Operand.tmp 157, Operand.tmp 161], argTypes := #[28, 28] }, type := 4, pos := "law.go:113", after := #[{ on := 29, ground := Ground.data }, { on := 33, ground := Ground.data }, { on := 33, ground := Ground.chain }, { on := 28, ground := Ground.guard }], guard := some (28, true) }) rfl (fun K hK => ?_) AllReadyH.nil
    go_simp
    go_at_call 9; ((with_reducible refine (SN.out P5 J5 M5 B5 P6 J6 M6 none p5 j5 m5 b5' p6 j6 m6 0 _ (QP.out.later HHeld.out.b) YP.out (QJ.out.later HHeld.out.b) YJ.out (QM.out.later HHeld.out.b) YM.out).mono ?_); rintro e v34 ⟨rfl, bb⟩; have K34 := Lib.hid (HHeld.out.later bb); clear bb)
    refine hK.out _ _ ?_ (fun hHeld => ?_)
    · exact K34.out
    clear HHeld; have HHeld := Lib.hid hHeld; clear hHeld
    clear hK K
    try simp only [pu, pn, s1, s2, s3]
    refine wT (i := 35) (oi := { dst := some 163, op := Op.pick (Operand.tmp 156) (Operand.tmp 162) (Operand.const (Value.bool false)), type := 4, pos := "law.go:113", after := #[{ on := 28, ground := Ground.data }, { on := 34, ground := Ground.data }], guard := none }) (v := ?_) rfl (Or.inl ⟨by rfl, ?_⟩) HHeld.out ?_
    rotate_left
    · intro w hSw; clear hSw; go_simp; try with_reducible rfl
    try simp only [pu, pn, s1, s2, s3]
    refine wT (i := 36) (oi := { dst := some 10, op := Op.assign (Operand.tmp 163), type := 4, pos := "law.go:113", after := #[{ on := 35, ground := Ground.data }, { on := 34, ground := Ground.chain }, { on := 0, ground := Ground.phase }, { on := 1, ground := Ground.phase }, { on := 2, ground := Ground.phase }, { on := 3, ground := Ground.phase }, { on := 4, ground := Ground.phase }, { on := 5, ground := Ground.phase }, { on := 6, ground := Ground.phase }, { on := 7, ground := Ground.phase }, { on := 8, ground := Ground.phase }, { on := 9, ground := Ground.phase }, { on := 10, ground := Ground.phase }, { on := 11, ground := Ground.phase }, { on := 12, ground := Ground.phase }, { on := 13, ground := Ground.phase }, { on := 14, ground := Ground.phase }, { on := 15, ground := Ground.phase }, { on := 16, ground := Ground.phase }, { on := 17, ground := Ground.phase }, { on := 18, ground := Ground.phase }, { on := 19, ground := Ground.phase }, { on := 20, ground := Ground.phase }, { on := 21, ground := Ground.phase }, { on := 22, ground := Ground.phase }, { on := 23, ground := Ground.phase }, { on := 24, ground := Ground.phase }, { on := 25, ground := Ground.phase }, { on := 26, ground := Ground.phase }, { on := 27, ground := Ground.phase }, { on := 28, ground := Ground.phase }, { on := 29, ground := Ground.phase }, { on := 30, ground := Ground.phase }, { on := 31, ground := Ground.phase }, { on := 32, ground := Ground.phase }, { on := 33, ground := Ground.phase }, { on := 34, ground := Ground.phase }, { on := 35, ground := Ground.phase }], guard := none }) (v := ?_) rfl (Or.inl ⟨by rfl, ?_⟩) HHeld.out ?_
    rotate_left
    · intro w hSw; clear hSw; go_simp; try with_reducible rfl
    try simp only [pu, pn, s1, s2, s3]
    refine wpAnyH_done (by kernel_rfl) ?_ _
    have HF := Lib.hid (bel_trans H0.out HHeld.out.b)
    clear HHeld
    go_wp2
    go_ret
    exact ⟨rfl, HF.out⟩
end Go.Proofs.YtilnpeekajnlhaaGreat
