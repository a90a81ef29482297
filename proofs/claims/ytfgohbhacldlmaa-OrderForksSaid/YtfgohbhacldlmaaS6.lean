/- The law OrderForks: its walk. -/
import Derived.Test.YtfgohbhacldlmaaS4
namespace Go.Proofs.Ytfgohbhacldlmaa
set_option linter.unusedSimpArgs false
open Go.RowKit
set_option linter.unusedVariables false

/-- Two maps, one of which (P) goes on: what is so behind some deeds. -/
structure Fk (w : World) (P Q : Nat) (k : Nat) (L Lo : PL) (B : Option Addr) (c : Nat) (Ao : Option Addr) (W : World) : Prop where
  m1 : MapIs W P L
  m2 : MapIs W Q Lo
  s1 : Srt ltS L
  s2 : Srt ltS Lo
  l : L.length ≤ 80 + k
  lo : Lo.length ≤ 160
  r : RdP W B L
  c : L.length ≤ c
  ro : RdP W Ao Lo
  b : Below w.heap.size w W
theorem Fk.next {w W W' : World} {P Q k c c2 : Nat} {L Lo L2 : PL} {B B2 Ao : Option Addr} (h : Fk w P Q k L Lo B c Ao W) (hne : Q ≠ P) (hP : w.heap.size ≤ P) (m : MapIs W' P L2) (hg : W.grownBy W' (some P)) (s : Srt ltS L2) (l : L2.length ≤ L.length + 1) (r : RdP W' B2 L2) (hc : L2.length ≤ c2) : Fk w P Q (k + 1) L2 Lo B2 c2 Ao W' :=
  ⟨m, h.m2.other h.m1 hne hg, s, h.s2, by have := h.l; omega, h.lo, r, hc, h.m1.row h.ro hg, bel_grow h.b hg hP⟩
theorem Fk.later {w W W' : World} {P Q k c : Nat} {L Lo : PL} {B Ao : Option Addr} (h : Fk w P Q k L Lo B c Ao W) (hb : Below W.heap.size W W') : Fk w P Q k L Lo B c Ao W' :=
  ⟨h.m1.later hb, h.m2.later hb, h.s1, h.s2, h.l, h.lo, Rd.later h.r hb, h.c, Rd.later h.ro hb, h.b.trans (hb.mono h.b.size)⟩
set_option maxHeartbeats 8000000 in
set_option maxRecDepth 100000 in
theorem forks_law (A1 A2 : Option Addr) (n1 n2 c1 c2 : Nat) (f1 f2 : Nat → DD) (w : World) (hd1 : Deeds w A1 n1 f1) (hd2 : Deeds w A2 n2 f2) :
    Calls Try.prog 5 #[.slice A1 n1 c1, .slice A2 n2 c2] w fun e w' => e = .returned (.bool true) ∧ Below w.heap.size w w' := by
  have PD := Lib.hid (played_any A1 n1 c1 f1 w hd1)
  have HD := Lib.hid hd2
  clear hd1 hd2
  go_enter Try.func5, Try.ntmps5
  go_wp2_with (first
    | (go_at_call 15; (with_reducible refine PD.out.mono ?_); clear PD; rintro e w1 ⟨rfl, ⟨L, m1, s1, l1⟩, b1⟩; have M1 := Lib.hid m1; have S1 := Lib.hid s1; have L1 := Lib.hid l1; have B1 := Lib.hid b1; have AL : Hid (∀ W, Below w1.heap.size w1 W → Calls Try.prog 14 #[.pointer (some ⟨w.heap.size, 0, none⟩)] W (RowPost W L)) := Lib.hid (fun W hW => all_in _ L (by have := L1.out; omega) W (fun V hV => all_any w.heap.size L V (M1.out.later (bel_trans hW hV)))); clear m1 s1 l1 b1)
    | (go_at_call 14; (with_reducible refine (AL.out _ (Below.refl _ _)).mono ?_); clear AL; rintro e w2 ⟨Aw, cw, rfl, r2, b2, hcw⟩; have R2 := Lib.hid r2; have B2 := Lib.hid b2; have M2 := Lib.hid (M1.out.later b2); have CW := Lib.hid hcw; clear r2 b2 hcw)
    | (go_at_call 18; (with_reducible refine (fork_any w.heap.size L w2 M2.out).mono ?_); rintro e w3 ⟨rfl, m3, b3, z3⟩; have F0 : Hid (Fk w w2.heap.size w.heap.size 0 L L Aw cw Aw w3) := Lib.hid ⟨m3, M2.out.later b3, S1.out, S1.out, (by have := L1.out; omega), (by have := L1.out; omega), Rd.later R2.out b3, CW.out, Rd.later R2.out b3, bel_trans B1.out (bel_trans B2.out b3)⟩; clear m3 b3 z3)
    | fail)
  have hF : Hid (w.heap.size ≤ w2.heap.size ∧ w.heap.size ≠ w2.heap.size) := Lib.hid (by have h1 := M2.out.lt; exact ⟨Nat.le_of_lt h1, Nat.ne_of_lt h1⟩)
  have HL9 : Hid (L.length ≤ 80) := L1
  clear M1 S1 L1 B1 R2 B2 M2
  generalize hFF : w2.heap.size = F at *
  clear hFF
  have CWH := CW
  clear CW
  go_loopw [8, 9] (fun xv iv wr => ∃ (k : Nat) (L2 : PL) (B : Option Addr) (cc : Nat), k ≤ min n2 80 ∧ iv = .int .i64 (k : Int) ∧ xv = .slice B L2.length cc ∧ Fk w F w.heap.size k L2 L B cc Aw wr) (fun _ i _ => min n2 80 - (intOf i).toNat)
  case atStart => exact ⟨0, L, Aw, cw, Nat.zero_le _, rfl, rfl, F0.out⟩
  case round =>
    obtain ⟨k, L2, B, cc, hk, rfl, rfl, hP⟩ := hrel
    have HP := Lib.hid hP
    clear hP
    by_cases h8 : k < min n2 80
    · have q1 : (k : Int) < (n2 : Int) := by omega
      have q2 : (k : Int) < 80 := by omega
      have q0 : (0 : Int) ≤ (k : Int) := by omega
      obtain ⟨b, off, rfl, hb, g0, g1, g2, g3⟩ := deed_at HD.out (i := k) (by omega)
      replace g0 := (bel_cell HP.out.b hb).trans g0
      replace g1 := (bel_cell HP.out.b hb).trans g1
      replace g2 := (bel_cell HP.out.b hb).trans g2
      replace g3 := (bel_cell HP.out.b hb).trans g3
      have HK := Lib.hid h8
      have ST := Lib.hid (step_any F B cc L2 (f2 k) wr HP.out.m1 HP.out.s1 (by have := HP.out.l; omega) HP.out.r HP.out.c)
      have hSS := Lib.hid (stepL_srt HP.out.s1 (f2 k))
      have hSL := Lib.hid (stepL_len HP.out.s1 (f2 k))
      obtain ⟨L3, hL3⟩ : ∃ L3, L3 = stepL (f2 k) L2 := ⟨_, rfl⟩
      rw [← hL3] at ST hSS hSL
      obtain ⟨dd, dk, dt, dn⟩ := f2 k
      simp only [dV] at ST g0 g1 g2 g3
      clear h8 hL3 hb
      go_wp2_with (first
        | (go_at_call 10; (with_reducible refine ST.out.mono ?_); rintro e w4 ⟨B3, c3, rfl, r3, m3, g3', l3⟩; have P2 := Lib.hid (HP.out.next hF.out.2 hF.out.1 m3 g3' hSS.out hSL.out r3 l3); clear r3 m3 g3' l3)
        | fail)
      exact ⟨⟨k + 1, L3, B3, c3, by have := HK.out; omega, by simp, rfl, P2.out⟩, by have := HK.out; simp [intOf]; omega⟩
    · have hk9 : k = min n2 80 := by omega
      have K80 : Hid (k ≤ 80) := Lib.hid (by omega)
      have hq : (¬ (k : Int) < (n2 : Int)) ∨ ((k : Int) < (n2 : Int) ∧ ¬ (k : Int) < 80) := by omega
      clear h8 hk9 hk
      rcases hq with q1 | ⟨q1, q2⟩
      all_goals
        have WA := Lib.hid (fun W (hW : Below wr.heap.size wr W) => all_in (.pointer (some ⟨w.heap.size, 0, none⟩)) L (by have := HL9.out; omega) W (fun V hV => all_any w.heap.size L V (HP.out.m2.later (bel_trans hW hV))))
        have WF := Lib.hid (fun W (hW : Below wr.heap.size wr W) => all_in (.pointer (some ⟨F, 0, none⟩)) L2 (by have h1 := HP.out.l; have h2 := K80.out; omega) W (fun V hV => all_any F L2 V (HP.out.m1.later (bel_trans hW hV))))
        go_wp2_with (first
          | (go_at_call 14; (with_reducible refine (WA.out _ (Below.refl _ _)).mono ?_); clear WA; rintro e w4 ⟨A4, c4, rfl, r4, b4, _⟩; have R4 := Lib.hid r4; have B4 := Lib.hid b4; have RO := Lib.hid (Rd.later HP.out.ro b4); clear r4 b4)
          | (go_at_call 13; (with_reducible refine (same_yes A4 Aw L.length c4 cw L w4 rfl (by have := HL9.out; omega) R4.out RO.out).mono ?_); rintro e w5 ⟨rfl, b5⟩; have B5 := Lib.hid (bel_trans B4.out b5); clear b5 R4 RO)
          | (go_at_call 14; (with_reducible refine (WF.out _ B5.out).mono ?_); rintro e w6 ⟨A6, c6, rfl, r6, b6, _⟩; have R6 := Lib.hid r6; have B6 := Lib.hid (bel_trans B5.out b6); have RP := Lib.hid (Rd.later HP.out.r B6.out); clear r6 b6 B5)
          | (go_at_call 13; (with_reducible refine (same_yes A6 B L2.length c6 cc L2 w6 rfl (by have h1 := HP.out.l; have h2 := K80.out; omega) R6.out RP.out).mono ?_); rintro e w7 ⟨rfl, b7⟩; have B7 := Lib.hid (bel_trans B6.out b7); clear b7 R6 RP)
          | (go_at_call 14; (with_reducible refine (WF.out _ B7.out).mono ?_); rintro e w8 ⟨Bn, cn, rfl, r8, b8, _⟩; have G0 : Hid (Fk w w.heap.size F 0 L L2 Aw cw Bn w8) := Lib.hid (by
              have hb := bel_trans B7.out b8
              have h1 := HP.out.l
              have h2 := K80.out
              have h3 := HL9.out
              exact ⟨HP.out.m2.later hb, HP.out.m1.later hb, HP.out.s2, HP.out.s1, by omega, by omega, Rd.later HP.out.ro hb, CWH.out, r8, HP.out.b.trans (hb.mono HP.out.b.size)⟩); clear r8 b8)
          | fail)
        clear WF
        go_loopw [6, 11] (fun xv iv wr => ∃ (k : Nat) (L4 : PL) (B : Option Addr) (cc : Nat), k ≤ min n2 80 ∧ iv = .int .i64 (k : Int) ∧ xv = .slice B L4.length cc ∧ Fk w w.heap.size F k L4 L2 B cc Bn wr) (fun _ i _ => min n2 80 - (intOf i).toNat)
        case atStart => exact ⟨0, L, Aw, cw, Nat.zero_le _, rfl, rfl, G0.out⟩
        case round =>
          obtain ⟨k4, L4, B4, cc4, hk, rfl, rfl, hP⟩ := hrel
          have HP2 := Lib.hid hP
          clear hP
          by_cases h8 : k4 < min n2 80
          · have q1 : (k4 : Int) < (n2 : Int) := by omega
            have q2 : (k4 : Int) < 80 := by omega
            have q0 : (0 : Int) ≤ (k4 : Int) := by omega
            obtain ⟨b, off, eA2, hb, g0, g1, g2, g3⟩ := deed_at HD.out (i := k4) (by omega)
            subst eA2
            replace g0 := (bel_cell HP2.out.b hb).trans g0
            replace g1 := (bel_cell HP2.out.b hb).trans g1
            replace g2 := (bel_cell HP2.out.b hb).trans g2
            replace g3 := (bel_cell HP2.out.b hb).trans g3
            have HK := Lib.hid h8
            have ST := Lib.hid (step_any w.heap.size B4 cc4 L4 (f2 k4) _ HP2.out.m1 HP2.out.s1 (by have := HP2.out.l; omega) HP2.out.r HP2.out.c)
            have hSS := Lib.hid (stepL_srt HP2.out.s1 (f2 k4))
            have hSL := Lib.hid (stepL_len HP2.out.s1 (f2 k4))
            obtain ⟨L3, hL3⟩ : ∃ L3, L3 = stepL (f2 k4) L4 := ⟨_, rfl⟩
            rw [← hL3] at ST hSS hSL
            obtain ⟨dd, dk, dt, dn⟩ := f2 k4
            simp only [dV] at ST g0 g1 g2 g3
            clear h8 hL3 hb
            go_wp2_with (first
              | (go_at_call 10; (with_reducible refine ST.out.mono ?_); rintro e w7 ⟨B3, c3, rfl, r3, m3, g3', l3⟩; have P2 := Lib.hid (HP2.out.next (fun e => hF.out.2 e.symm) (Nat.le_refl _) m3 g3' hSS.out hSL.out r3 l3); clear r3 m3 g3' l3)
              | fail)
            exact ⟨⟨k4 + 1, L3, B3, c3, by have := HK.out; omega, by simp, rfl, P2.out⟩, by have := HK.out; simp [intOf]; omega⟩
          · have hk9 : k4 = min n2 80 := by omega
            have K84 : Hid (k4 ≤ 80) := Lib.hid (by omega)
            have hq : (¬ (k4 : Int) < (n2 : Int)) ∨ ((k4 : Int) < (n2 : Int) ∧ ¬ (k4 : Int) < 80) := by omega
            clear h8 hk9 hk
            rcases hq with q1 | ⟨q1, q2⟩
            all_goals
              have FA := Lib.hid (fun W (hW : Below wr.heap.size wr W) => all_in (.pointer (some ⟨F, 0, none⟩)) L2 (by have := HP2.out.lo; omega) W (fun V hV => all_any F L2 V (HP2.out.m2.later (bel_trans hW hV))))
              go_wp2_with (first
                | (go_at_call 12; (with_reducible refine (live_any _).mono ?_); rintro e w8 ⟨rfl, b8⟩; have B8 := Lib.hid b8; clear b8)
                | (go_at_call 14; (with_reducible refine (FA.out _ B8.out).mono ?_); rintro e w9 ⟨A9, c9, rfl, r9, b9, _⟩; have R9 := Lib.hid r9; have B9 := Lib.hid (bel_trans B8.out b9); have RN := Lib.hid (Rd.later HP2.out.ro B9.out); clear r9 b9)
                | (go_at_call 13; (with_reducible refine (same_yes A9 Bn L2.length c9 cn L2 w9 rfl (by have := HP2.out.lo; omega) R9.out RN.out).mono ?_); rintro e wz ⟨rfl, bz⟩; have BZ := Lib.hid (bel_trans B9.out bz); clear bz)
                | fail)
              exact bodyPost_ret (v := .bool true) (by simp [results, Try.results5, go_sem]) rfl ⟨rfl, bel_trans HP2.out.b BZ.out⟩
end Go.Proofs.Ytfgohbhacldlmaa
