/- A deed on both, whatever it is; a map behind deeds; the law OrderPlays. -/
import Derived.Test.YtfgohbhacldlmaaS3
namespace Go.Proofs.Ytfgohbhacldlmaa
set_option linter.unusedSimpArgs false
open Go.RowKit
set_option linter.unusedVariables false

abbrev dV (d : DD) : Value := .agg #[.int .i64 d.1, .string d.2.1, .string d.2.2.1, .int .i64 d.2.2.2]
theorem step_any (N : Nat) (A : Option Addr) (c : Nat) (L : PL) (d : DD) (w : World) (hm : MapIs w N L) (hs : Srt ltS L) (hn : L.length ≤ 980) (hr : RdP w A L) (hc : L.length ≤ c) :
    Calls Try.prog 10 #[.pointer (some ⟨N, 0, none⟩), .slice A L.length c, dV d] w (StepPost w N (stepL d L)) := by
  obtain ⟨d, k, t, nn⟩ := d
  unfold stepL dV
  simp only
  by_cases h0 : d = 0
  · subst h0; rw [if_pos rfl]; exact step0 N A c L k t nn w hm hs hn hr
  · rw [if_neg h0]
    by_cases h1 : d = 1
    · subst h1; rw [if_pos rfl]; exact step1 N A c L k t nn w hm hs hn hr
    · rw [if_neg h1]
      by_cases h2 : d = 2
      · subst h2; rw [if_pos rfl]; exact step2 N A c L k t nn w hm hs hn hr
      · rw [if_neg h2]
        have fin : Calls Try.prog 10 #[.pointer (some ⟨N, 0, none⟩), .slice A L.length c, .agg #[.int .i64 d, .string k, .string t, .int .i64 nn]] w (fun e w' => e = .returned (.tuple #[.slice A L.length c, .bool true]) ∧ Below w.heap.size w w') := by
          by_cases g0 : nn < 0
          · exact look_neg N A c L d k t nn w hm hs hn hr h0 h1 h2 g0
          · by_cases g1 : (L.length : Int) ≤ nn
            · exact look_big N A c L d k t nn w hm hs hn hr h0 h1 h2 (by omega) g1
            · have hh := look_in N A c L nn.toNat L[nn.toNat] d k t w hm hs hn hr h0 h1 h2 (List.getElem?_eq_getElem (by omega))
              rw [Int.toNat_of_nonneg (by omega)] at hh; exact hh
        exact fin.mono (fun e w' ⟨he, hb⟩ => ⟨A, c, he, Rd.later hr hb, hm.later hb, bel_grown hb _, hc⟩)
theorem deed_at {w : World} {A : Option Addr} {n : Nat} {f : Nat → DD} (h : Deeds w A n f) {i : Nat} (hi : i < n) : ∃ b off, A = some ⟨b, off, none⟩ ∧ b < w.heap.size ∧ w.cell? ⟨b, off + i * 4, none⟩ = some (.int .i64 (f i).1) ∧ w.cell? ⟨b, off + i * 4 + 1, none⟩ = some (.string (f i).2.1) ∧ w.cell? ⟨b, off + i * 4 + 2, none⟩ = some (.string (f i).2.2.1) ∧ w.cell? ⟨b, off + i * 4 + 3, none⟩ = some (.int .i64 (f i).2.2.2) := by
  rcases h with h | ⟨b, off, e, hb, h⟩
  · omega
  · exact ⟨b, off, e, hb, h i hi⟩
theorem bel_grow {w w1 w2 : World} {N : Nat} (h : Below w.heap.size w w1) (hg : w1.grownBy w2 (some N)) (hN : w.heap.size ≤ N) : Below w.heap.size w w2 := h.grown hg h.size (fun k e => by cases e; exact hN)
/-- What is so behind some deeds. -/
structure Pl (w : World) (N k : Nat) (L : PL) (A : Option Addr) (c : Nat) (W : World) : Prop where
  m : MapIs W N L
  s : Srt ltS L
  l : L.length ≤ k
  r : RdP W A L
  c : L.length ≤ c
  b : Below w.heap.size w W
set_option maxHeartbeats 4000000 in
set_option maxRecDepth 100000 in
theorem played_any (A : Option Addr) (n c : Nat) (f : Nat → DD) (w : World) (hd : Deeds w A n f) :
    Calls Try.prog 15 #[.slice A n c] w fun e w' => e = .returned (.pointer (some ⟨w.heap.size, 0, none⟩)) ∧ (∃ L, MapIs w' w.heap.size L ∧ Srt ltS L ∧ L.length ≤ 80) ∧ Below w.heap.size w w' := by
  have HD := Lib.hid hd
  clear hd
  go_enter Try.func15, Try.ntmps15
  go_wp2_with (first | (go_at_call 9; (with_reducible refine (new_any w).mono ?_); rintro e w1 ⟨rfl, m1, b1, z1⟩; have M1 := Lib.hid m1; have B1 := Lib.hid b1; clear m1 b1 z1) | fail)
  go_loopw [4, 5] (fun xv iv wr => ∃ (k : Nat) (L : PL) (B : Option Addr) (cc : Nat), k ≤ min n 80 ∧ iv = .int .i64 (k : Int) ∧ xv = .slice B L.length cc ∧ Pl w w.heap.size k L B cc wr) (fun _ i _ => min n 80 - (intOf i).toNat)
  case atStart => exact ⟨0, [], none, 0, Nat.zero_le _, rfl, rfl, ⟨M1.out, List.Pairwise.nil, Nat.le_refl _, .inl rfl, Nat.le_refl _, B1.out⟩⟩
  case round =>
    obtain ⟨k, L, B, cc, hk, rfl, rfl, hP⟩ := hrel
    have HP := Lib.hid hP
    clear hP
    by_cases h8 : k < min n 80
    · have q1 : (k : Int) < (n : Int) := by omega
      have q2 : (k : Int) < 80 := by omega
      have q0 : (0 : Int) ≤ (k : Int) := by omega
      obtain ⟨b, off, rfl, hb, f0, f1, f2, f3⟩ := deed_at HD.out (i := k) (by omega)
      have g0 := (bel_cell HP.out.b hb).trans f0
      have g1 := (bel_cell HP.out.b hb).trans f1
      have g2 := (bel_cell HP.out.b hb).trans f2
      have g3 := (bel_cell HP.out.b hb).trans f3
      have HK := Lib.hid h8
      have ST := Lib.hid (step_any w.heap.size B cc L (f k) wr HP.out.m HP.out.s (by have := HP.out.l; omega) HP.out.r HP.out.c)
      have hSS := Lib.hid (stepL_srt HP.out.s (f k))
      have hSL := Lib.hid (stepL_len HP.out.s (f k))
      have hL1 : (((stepL (f k) L).length : Nat) : Int) ≤ 200 := by have := hSL.out; have := HP.out.l; omega
      obtain ⟨L2, hL2⟩ : ∃ L2, L2 = stepL (f k) L := ⟨_, rfl⟩
      rw [← hL2] at ST hSS hSL hL1
      obtain ⟨dd, dk, dt, dn⟩ := f k
      simp only [dV] at ST g0 g1 g2 g3
      clear f0 f1 f2 f3 h8 hL2 hb
      go_wp2_with (first
        | (go_at_call 10; (with_reducible refine ST.out.mono ?_); rintro e w2 ⟨B2, c2, rfl, r2, m2, g2', l2⟩; have P2 : Hid (Pl w w.heap.size (k + 1) L2 B2 c2 w2) := Lib.hid ⟨m2, hSS.out, (by have := hSL.out; have := HP.out.l; omega), r2, l2, bel_grow HP.out.b g2' (Nat.le_refl _)⟩; clear r2 m2 g2' l2)
        | fail)
      exact ⟨⟨k + 1, L2, B2, c2, by have := HK.out; omega, by simp, rfl, P2.out⟩, by have := HK.out; simp [intOf]; omega⟩
    · have hkn : k = min n 80 := by omega
      have h80 : Hid (L.length ≤ 80) := Lib.hid (by have := HP.out.l; omega)
      by_cases hkk : k = n
      · have q1 : ¬ (k : Int) < (n : Int) := by omega
        clear h8 hkn hk
        go_wp2
        exact bodyPost_ret (v := .pointer (some ⟨w.heap.size, 0, none⟩)) (by simp [results, Try.results15, go_sem]) rfl ⟨rfl, ⟨L, HP.out.m, HP.out.s, h80.out⟩, HP.out.b⟩
      · have q1 : (k : Int) < (n : Int) := by omega
        have q2 : ¬ (k : Int) < 80 := by omega
        clear h8 hkn hk hkk
        go_wp2
        exact bodyPost_ret (v := .pointer (some ⟨w.heap.size, 0, none⟩)) (by simp [results, Try.results15, go_sem]) rfl ⟨rfl, ⟨L, HP.out.m, HP.out.s, h80.out⟩, HP.out.b⟩
set_option maxHeartbeats 4000000 in
set_option maxRecDepth 100000 in
theorem plays_law (A : Option Addr) (n c : Nat) (f : Nat → DD) (w : World) (hd : Deeds w A n f) :
    Calls Try.prog 3 #[.slice A n c] w fun e w' => e = .returned (.bool true) ∧ Below w.heap.size w w' := by
  have HD := Lib.hid hd
  clear hd
  go_enter Try.func3, Try.ntmps3
  go_wp2_with (first | (go_at_call 9; (with_reducible refine (new_any w).mono ?_); rintro e w1 ⟨rfl, m1, b1, z1⟩; have M1 := Lib.hid m1; have B1 := Lib.hid b1; clear m1 b1 z1) | fail)
  go_loopw [4, 5, 6] (fun xv iv _ wr => ∃ (k : Nat) (L : PL) (B : Option Addr) (cc : Nat), k ≤ min n 80 ∧ iv = .int .i64 (k : Int) ∧ xv = .slice B L.length cc ∧ Pl w w.heap.size k L B cc wr) (fun _ i _ _ => min n 80 - (intOf i).toNat)
  case atStart => exact ⟨0, [], none, 0, Nat.zero_le _, rfl, rfl, ⟨M1.out, List.Pairwise.nil, Nat.le_refl _, .inl rfl, Nat.le_refl _, B1.out⟩⟩
  case round =>
    obtain ⟨k, L, B, cc, hk, rfl, rfl, hP⟩ := hrel
    have HP := Lib.hid hP
    clear hP
    by_cases h8 : k < min n 80
    · have q1 : (k : Int) < (n : Int) := by omega
      have q2 : (k : Int) < 80 := by omega
      have q0 : (0 : Int) ≤ (k : Int) := by omega
      obtain ⟨b, off, rfl, hb, f0, f1, f2, f3⟩ := deed_at HD.out (i := k) (by omega)
      have g0 := (bel_cell HP.out.b hb).trans f0
      have g1 := (bel_cell HP.out.b hb).trans f1
      have g2 := (bel_cell HP.out.b hb).trans f2
      have g3 := (bel_cell HP.out.b hb).trans f3
      have HK := Lib.hid h8
      have ST := Lib.hid (step_any w.heap.size B cc L (f k) wr HP.out.m HP.out.s (by have := HP.out.l; omega) HP.out.r HP.out.c)
      have hSS := Lib.hid (stepL_srt HP.out.s (f k))
      have hSL := Lib.hid (stepL_len HP.out.s (f k))
      have hL1 : (((stepL (f k) L).length : Nat) : Int) ≤ 200 := by have := hSL.out; have := HP.out.l; omega
      obtain ⟨L2, hL2⟩ : ∃ L2, L2 = stepL (f k) L := ⟨_, rfl⟩
      rw [← hL2] at ST hSS hSL hL1
      obtain ⟨dd, dk, dt, dn⟩ := f k
      simp only [dV] at ST g0 g1 g2 g3
      clear f0 f1 f2 f3 h8 hL2 hb
      go_wp2_with (first
        | (go_at_call 10; (with_reducible refine ST.out.mono ?_); rintro e w2 ⟨B2, c2, rfl, r2, m2, g2', l2⟩; have P2 : Hid (Pl w w.heap.size (k + 1) L2 B2 c2 w2) := Lib.hid ⟨m2, hSS.out, (by have := hSL.out; have := HP.out.l; omega), r2, l2, bel_grow HP.out.b g2' (Nat.le_refl _)⟩; clear r2 m2 g2' l2)
        | (go_at_call 11; (with_reducible refine (len_any w.heap.size L2 w2 P2.out.m).mono ?_); rintro e w3 ⟨rfl, rfl⟩)
        | fail)
      exact ⟨⟨k + 1, L2, B2, c2, by have := HK.out; omega, by simp, rfl, P2.out⟩, by have := HK.out; simp [intOf]; omega⟩
    · have hkn : k = min n 80 := by omega
      have h80 : Hid (L.length ≤ 1000) := Lib.hid (by have := HP.out.l; omega)
      have AL : Hid (∀ W, Below wr.heap.size wr W → Calls Try.prog 14 #[.pointer (some ⟨w.heap.size, 0, none⟩)] W (RowPost W L)) := Lib.hid (fun W hW => all_in _ L h80.out W (fun V hV => all_any w.heap.size L V (HP.out.m.later (bel_trans hW hV))))
      by_cases hkk : k = n
      · have q1 : ¬ (k : Int) < (n : Int) := by omega
        clear h8 hkn hk
        go_wp2_with (first
          | (go_at_call 12; (with_reducible refine (live_any _).mono ?_); rintro e w4 ⟨rfl, b4⟩; have B4 := Lib.hid b4; clear b4)
          | (go_at_call 14; (with_reducible refine (AL.out _ B4.out).mono ?_); rintro e w5 ⟨A5, c5, rfl, r5, b5, _⟩; have R5 := Lib.hid r5; have B5 := Lib.hid (bel_trans B4.out b5); have RX := Lib.hid (Rd.later HP.out.r B5.out); clear r5 b5)
          | (go_at_call 13; (with_reducible refine (same_yes A5 B L.length c5 cc L w5 rfl h80.out R5.out RX.out).mono ?_); rintro e w6 ⟨rfl, b6⟩; have B6 := Lib.hid (bel_trans B5.out b6); clear b6)
          | fail)
        exact bodyPost_ret (v := .bool true) (by simp [results, Try.results3, go_sem]) rfl ⟨rfl, bel_trans HP.out.b B6.out⟩
      · have q1 : (k : Int) < (n : Int) := by omega
        have q2 : ¬ (k : Int) < 80 := by omega
        clear h8 hkn hk hkk
        go_wp2_with (first
          | (go_at_call 12; (with_reducible refine (live_any _).mono ?_); rintro e w4 ⟨rfl, b4⟩; have B4 := Lib.hid b4; clear b4)
          | (go_at_call 14; (with_reducible refine (AL.out _ B4.out).mono ?_); rintro e w5 ⟨A5, c5, rfl, r5, b5, _⟩; have R5 := Lib.hid r5; have B5 := Lib.hid (bel_trans B4.out b5); have RX := Lib.hid (Rd.later HP.out.r B5.out); clear r5 b5)
          | (go_at_call 13; (with_reducible refine (same_yes A5 B L.length c5 cc L w5 rfl h80.out R5.out RX.out).mono ?_); rintro e w6 ⟨rfl, b6⟩; have B6 := Lib.hid (bel_trans B5.out b6); clear b6)
          | fail)
        exact bodyPost_ret (v := .bool true) (by simp [results, Try.results3, go_sem]) rfl ⟨rfl, bel_trans HP.out.b B6.out⟩
end Go.Proofs.Ytfgohbhacldlmaa
