/- The law SeedScripts. -/
import Derived.Test.YtnchpfmpjpnciaaE4
import Derived.Test.YtnchpfmpjpnciaaE5
import Derived.Test.YtnchpfmpjpnciaaA9
namespace Go.Proofs.Ytnchpfmpjpnciaa
set_option linter.unusedSimpArgs false
open Go.RowKit Go.Maps Go.Shelf
set_option linter.unusedVariables false
set_option maxHeartbeats 8000000 in
set_option maxRecDepth 4000 in
theorem scripts_walk (seed sessions ops picks : Int) (w : World) :
    Calls Try.prog 4 #[.int .u64 seed, .int .i64 sessions, .int .i64 ops, .int .i64 picks] w fun e w' => e = .returned (.bool true) ∧ Below w.heap.size w w' := by
  by_cases h5 : 500 < picks
  · go_enter Try.func4, Try.ntmps4
    go_wp2_with (first
      | (go_at_call 17; ((with_reducible refine (live_any _).mono ?_); rintro e w2 ⟨rfl, b2⟩; have B2 := Lib.hid b2; clear b2))
      | fail)
    go_ret
    exact ⟨rfl, B2.out⟩
  · have hal := run_zs
    obtain ⟨c2, c3, c4, c5, c6, c7, c8, hcf, r2, r3, r4, r5, r6, r7, r8⟩ := cfA_form seed
    have hn := nses_cast sessions
    have hm := (mops_cast ops).2
    have hp := (npk_cast picks).2
    have SP := Lib.hid (script_p c2 c3 c4 c5 c6 c7 c8 seed sessions ops picks hcf w)
    have SD := Lib.hid (fun W => script_d c2 c3 c4 c5 c6 c7 c8 seed sessions ops picks hcf W)
    have CFG : Hid (∀ W, Calls Try.prog 21 #[.int .u64 seed] W fun e w' => e = .returned (.agg #[.int .i64 4, .int .i64 16, .int .i64 c2, .int .i64 c3, .int .i64 c4, .int .i64 c5, .int .i64 c6, .int .i64 c7, .int .i64 c8]) ∧ Below W.heap.size W w') := Lib.hid (fun W => by rw [← hcf]; exact config_p seed W)
    have CK := Lib.hid (fun W => cfg_ok c2 c3 c4 c5 c6 c7 c8 W r2 r3 r4 r5 r6 r7 (by omega))
    obtain ⟨nn, hnn⟩ : ∃ x, x = nses sessions := ⟨_, rfl⟩
    obtain ⟨m, hmm⟩ : ∃ x, x = mops ops := ⟨_, rfl⟩
    obtain ⟨np, hnp⟩ : ∃ x, x = npk picks := ⟨_, rfl⟩
    obtain ⟨ss, hss⟩ : ∃ x, x = cl sessions 64 := ⟨_, rfl⟩
    rw [← hnn, ← hmm, ← hnp, ← hss] at SP SD
    rw [← hnn] at hn
    rw [← hmm] at hm
    rw [← hnp] at hp
    have CHK := Lib.hid (fun (W : World) (D : Nat → Prop) (A P : Option Addr) (c cp : Nat) (h : Scr W D seed m nn ss np A P) => scr_check c2 c3 c4 c5 c6 c7 c8 W c cp hn.2 hm h r2 r3 r4 r5 r6 r7 r8)
    have SAM := Lib.hid (fun (W : World) (D D' : Nat → Prop) (A P A' P' : Option Addr) (c cp c' cp' : Nat) (h : Scr W D seed m nn ss np A P) (h' : Scr W D' seed m nn ss np A' P') => scr_same c2 c3 c4 c5 c6 c7 c8 W c cp c' cp' hp hn.2.2 hm h h')
    clear hcf r2 r3 r4 r5 r6 r7 r8 hn hm hp hnn hmm hnp hss
    go_enter Try.func4, Try.ntmps4
    go_wp2_with (first
      | (go_at_call 18; ((with_reducible refine SP.out.mono ?_); rintro e w1 ⟨A, c, P, cp, rfl, ⟨D, hs⟩, hb⟩; have S1 := Lib.hid hs; have B1 := Lib.hid hb; have AL1 := Lib.hid (alb w1 (.cells #[.int .i64 4, .int .i64 16, .int .i64 c2, .int .i64 c3, .int .i64 c4, .int .i64 c5, .int .i64 c6, .int .i64 c7, .int .i64 c8, .slice A nn c, .slice P np cp] 53)); have R1 := Lib.hid (heap_alloc_new w1 (.cells #[.int .i64 4, .int .i64 16, .int .i64 c2, .int .i64 c3, .int .i64 c4, .int .i64 c5, .int .i64 c6, .int .i64 c7, .int .i64 c8, .slice A nn c, .slice P np cp] 53)); clear hs hb))
      | (go_at_call 19; ((with_reducible refine (SD.out _).mono ?_); rintro e w2 ⟨A', c', P', cp', rfl, ⟨D', hs⟩, hb⟩; have S2 := Lib.hid hs; have B2 := Lib.hid hb; have AL2 := Lib.hid (alb w2 (.cells #[.int .i64 4, .int .i64 16, .int .i64 c2, .int .i64 c3, .int .i64 c4, .int .i64 c5, .int .i64 c6, .int .i64 c7, .int .i64 c8, .slice A' nn c', .slice P' np cp'] 53)); have R2 := Lib.hid (heap_alloc_new w2 (.cells #[.int .i64 4, .int .i64 16, .int .i64 c2, .int .i64 c3, .int .i64 c4, .int .i64 c5, .int .i64 c6, .int .i64 c7, .int .i64 c8, .slice A' nn c', .slice P' np cp'] 53)); clear hs hb))
      | fail)
    have BW : Hid (Below w.heap.size w (w2.alloc (.cells #[.int .i64 4, .int .i64 16, .int .i64 c2, .int .i64 c3, .int .i64 c4, .int .i64 c5, .int .i64 c6, .int .i64 c7, .int .i64 c8, .slice A' nn c', .slice P' np cp'] 53))) := Lib.hid (B1.out.trans ((AL1.out.trans ((B2.out.trans (AL2.out.mono B2.out.size)).mono AL1.out.size)).mono B1.out.size))
    have Q1 := Lib.hid (keep_bel (B2.out.trans (AL2.out.mono B2.out.size)) R1.out)
    have SX := Lib.hid (S1.out.later (AL1.out.trans ((B2.out.trans (AL2.out.mono B2.out.size)).mono AL1.out.size)))
    have SY := Lib.hid (S2.out.later AL2.out)
    have hne : Hid (w1.heap.size + 1 ≤ w2.heap.size) := Lib.hid (Nat.le_trans (by simp) B2.out.size)
    clear S1 S2 R1 SP SD B1 B2 AL1 AL2
    generalize w2.alloc (.cells #[.int .i64 4, .int .i64 16, .int .i64 c2, .int .i64 c3, .int .i64 c4, .int .i64 c5, .int .i64 c6, .int .i64 c7, .int .i64 c8, .slice A' nn c', .slice P' np cp'] 53) = W at *
    obtain ⟨g1, hg1⟩ : ∃ g, g = w1.heap.size := ⟨_, rfl⟩
    obtain ⟨g2, hg2⟩ : ∃ g, g = w2.heap.size := ⟨_, rfl⟩
    rw [← hg1] at Q1 hne ⊢
    rw [← hg2] at R2 hne ⊢
    clear hg1 hg2
    have SAM5 := Lib.hid (SAM.out W.drew D D' A P A' P' c cp c' cp' (SX.out.later (drew_bel W)) (SY.out.later (drew_bel W)))
    have K1 := keep_bel (drew_bel W) Q1.out
    have K2 := keep_bel (drew_bel W) R2.out
    have x0 : W.drew.cell? ⟨g1, 0, none⟩ = some (.int .i64 4) := (cell_of_row _ _ 0 _ 53 (0, 0) K1).trans rfl
    have x1 : W.drew.cell? ⟨g1, 1, none⟩ = some (.int .i64 16) := (cell_of_row _ _ 1 _ 53 (0, 0) K1).trans rfl
    have x2 : W.drew.cell? ⟨g1, 2, none⟩ = some (.int .i64 c2) := (cell_of_row _ _ 2 _ 53 (0, 0) K1).trans rfl
    have x3 : W.drew.cell? ⟨g1, 3, none⟩ = some (.int .i64 c3) := (cell_of_row _ _ 3 _ 53 (0, 0) K1).trans rfl
    have x4 : W.drew.cell? ⟨g1, 4, none⟩ = some (.int .i64 c4) := (cell_of_row _ _ 4 _ 53 (0, 0) K1).trans rfl
    have x5 : W.drew.cell? ⟨g1, 5, none⟩ = some (.int .i64 c5) := (cell_of_row _ _ 5 _ 53 (0, 0) K1).trans rfl
    have x6 : W.drew.cell? ⟨g1, 6, none⟩ = some (.int .i64 c6) := (cell_of_row _ _ 6 _ 53 (0, 0) K1).trans rfl
    have x7 : W.drew.cell? ⟨g1, 7, none⟩ = some (.int .i64 c7) := (cell_of_row _ _ 7 _ 53 (0, 0) K1).trans rfl
    have x8 : W.drew.cell? ⟨g1, 8, none⟩ = some (.int .i64 c8) := (cell_of_row _ _ 8 _ 53 (0, 0) K1).trans rfl
    have x9 : W.drew.cell? ⟨g1, 9, none⟩ = some (.slice A nn c) := (cell_of_row _ _ 9 _ 53 (0, 0) K1).trans rfl
    have x10 : W.drew.cell? ⟨g1, 10, none⟩ = some (.slice P np cp) := (cell_of_row _ _ 10 _ 53 (0, 0) K1).trans rfl
    have y0 : W.drew.cell? ⟨g2, 0, none⟩ = some (.int .i64 4) := (cell_of_row _ _ 0 _ 53 (0, 0) K2).trans rfl
    have y1 : W.drew.cell? ⟨g2, 1, none⟩ = some (.int .i64 16) := (cell_of_row _ _ 1 _ 53 (0, 0) K2).trans rfl
    have y2 : W.drew.cell? ⟨g2, 2, none⟩ = some (.int .i64 c2) := (cell_of_row _ _ 2 _ 53 (0, 0) K2).trans rfl
    have y3 : W.drew.cell? ⟨g2, 3, none⟩ = some (.int .i64 c3) := (cell_of_row _ _ 3 _ 53 (0, 0) K2).trans rfl
    have y4 : W.drew.cell? ⟨g2, 4, none⟩ = some (.int .i64 c4) := (cell_of_row _ _ 4 _ 53 (0, 0) K2).trans rfl
    have y5 : W.drew.cell? ⟨g2, 5, none⟩ = some (.int .i64 c5) := (cell_of_row _ _ 5 _ 53 (0, 0) K2).trans rfl
    have y6 : W.drew.cell? ⟨g2, 6, none⟩ = some (.int .i64 c6) := (cell_of_row _ _ 6 _ 53 (0, 0) K2).trans rfl
    have y7 : W.drew.cell? ⟨g2, 7, none⟩ = some (.int .i64 c7) := (cell_of_row _ _ 7 _ 53 (0, 0) K2).trans rfl
    have y8 : W.drew.cell? ⟨g2, 8, none⟩ = some (.int .i64 c8) := (cell_of_row _ _ 8 _ 53 (0, 0) K2).trans rfl
    have y9 : W.drew.cell? ⟨g2, 9, none⟩ = some (.slice A' nn c') := (cell_of_row _ _ 9 _ 53 (0, 0) K2).trans rfl
    have y10 : W.drew.cell? ⟨g2, 10, none⟩ = some (.slice P' np cp') := (cell_of_row _ _ 10 _ 53 (0, 0) K2).trans rfl
    have HK2 := Lib.hid K2
    have HDW := Lib.hid (drew_bel W)
    clear K1 K2
    go_region_with (first
      | (go_at_call 20; refine SAM5.out.mono ?_; rintro e w5 ⟨rfl, b5⟩; have B5 := Lib.hid (HDW.out.trans b5); have L5 := keep_bel b5 HK2.out; have u0 : w5.cell? ⟨g2, 0, none⟩ = some (.int .i64 4) := (cell_of_row _ _ 0 _ 53 (0, 0) L5).trans rfl; have u1 : w5.cell? ⟨g2, 1, none⟩ = some (.int .i64 16) := (cell_of_row _ _ 1 _ 53 (0, 0) L5).trans rfl; have u2 : w5.cell? ⟨g2, 2, none⟩ = some (.int .i64 c2) := (cell_of_row _ _ 2 _ 53 (0, 0) L5).trans rfl; have u3 : w5.cell? ⟨g2, 3, none⟩ = some (.int .i64 c3) := (cell_of_row _ _ 3 _ 53 (0, 0) L5).trans rfl; have u4 : w5.cell? ⟨g2, 4, none⟩ = some (.int .i64 c4) := (cell_of_row _ _ 4 _ 53 (0, 0) L5).trans rfl; have u5 : w5.cell? ⟨g2, 5, none⟩ = some (.int .i64 c5) := (cell_of_row _ _ 5 _ 53 (0, 0) L5).trans rfl; have u6 : w5.cell? ⟨g2, 6, none⟩ = some (.int .i64 c6) := (cell_of_row _ _ 6 _ 53 (0, 0) L5).trans rfl; have u7 : w5.cell? ⟨g2, 7, none⟩ = some (.int .i64 c7) := (cell_of_row _ _ 7 _ 53 (0, 0) L5).trans rfl; have u8 : w5.cell? ⟨g2, 8, none⟩ = some (.int .i64 c8) := (cell_of_row _ _ 8 _ 53 (0, 0) L5).trans rfl; have HL5 := Lib.hid L5; clear b5 L5)
      | (go_at_call 21; refine (CFG.out _).mono ?_; rintro e w6 ⟨rfl, b6⟩; have B6 := Lib.hid (B5.out.trans (b6.mono B5.out.size)); have L6 := keep_bel b6 HL5.out; have v0 : w6.cell? ⟨g2, 0, none⟩ = some (.int .i64 4) := (cell_of_row _ _ 0 _ 53 (0, 0) L6).trans rfl; have v1 : w6.cell? ⟨g2, 1, none⟩ = some (.int .i64 16) := (cell_of_row _ _ 1 _ 53 (0, 0) L6).trans rfl; have v2 : w6.cell? ⟨g2, 2, none⟩ = some (.int .i64 c2) := (cell_of_row _ _ 2 _ 53 (0, 0) L6).trans rfl; have v3 : w6.cell? ⟨g2, 3, none⟩ = some (.int .i64 c3) := (cell_of_row _ _ 3 _ 53 (0, 0) L6).trans rfl; have v4 : w6.cell? ⟨g2, 4, none⟩ = some (.int .i64 c4) := (cell_of_row _ _ 4 _ 53 (0, 0) L6).trans rfl; have v5 : w6.cell? ⟨g2, 5, none⟩ = some (.int .i64 c5) := (cell_of_row _ _ 5 _ 53 (0, 0) L6).trans rfl; have v6 : w6.cell? ⟨g2, 6, none⟩ = some (.int .i64 c6) := (cell_of_row _ _ 6 _ 53 (0, 0) L6).trans rfl; have v7 : w6.cell? ⟨g2, 7, none⟩ = some (.int .i64 c7) := (cell_of_row _ _ 7 _ 53 (0, 0) L6).trans rfl; have v8 : w6.cell? ⟨g2, 8, none⟩ = some (.int .i64 c8) := (cell_of_row _ _ 8 _ 53 (0, 0) L6).trans rfl; clear b6 L6))
    all_goals
      have K6 := keep_bel B6.out R2.out
      have z0 : w6.cell? ⟨g2, 0, none⟩ = some (.int .i64 4) := (cell_of_row _ _ 0 _ 53 (0, 0) K6).trans rfl
      have z1 : w6.cell? ⟨g2, 1, none⟩ = some (.int .i64 16) := (cell_of_row _ _ 1 _ 53 (0, 0) K6).trans rfl
      have z2 : w6.cell? ⟨g2, 2, none⟩ = some (.int .i64 c2) := (cell_of_row _ _ 2 _ 53 (0, 0) K6).trans rfl
      have z3 : w6.cell? ⟨g2, 3, none⟩ = some (.int .i64 c3) := (cell_of_row _ _ 3 _ 53 (0, 0) K6).trans rfl
      have z4 : w6.cell? ⟨g2, 4, none⟩ = some (.int .i64 c4) := (cell_of_row _ _ 4 _ 53 (0, 0) K6).trans rfl
      have z5 : w6.cell? ⟨g2, 5, none⟩ = some (.int .i64 c5) := (cell_of_row _ _ 5 _ 53 (0, 0) K6).trans rfl
      have z6 : w6.cell? ⟨g2, 6, none⟩ = some (.int .i64 c6) := (cell_of_row _ _ 6 _ 53 (0, 0) K6).trans rfl
      have z7 : w6.cell? ⟨g2, 7, none⟩ = some (.int .i64 c7) := (cell_of_row _ _ 7 _ 53 (0, 0) K6).trans rfl
      have z8 : w6.cell? ⟨g2, 8, none⟩ = some (.int .i64 c8) := (cell_of_row _ _ 8 _ 53 (0, 0) K6).trans rfl
      have z9 : w6.cell? ⟨g2, 9, none⟩ = some (.slice A' nn c') := (cell_of_row _ _ 9 _ 53 (0, 0) K6).trans rfl
      have z10 : w6.cell? ⟨g2, 10, none⟩ = some (.slice P' np cp') := (cell_of_row _ _ 10 _ 53 (0, 0) K6).trans rfl
      have CH6 := Lib.hid (CHK.out w6 D' A' P' c' cp' (SY.out.later B6.out))
      clear K6 SAM5 SAM CFG HK2
      go_wp2_with (first
        | (go_at_call 22; ((with_reducible refine CH6.out.mono ?_); rintro e w7 ⟨rfl, b7⟩; have B7 := Lib.hid (B6.out.trans (b7.mono B6.out.size)); clear b7))
        | (go_at_call 17; ((with_reducible refine (live_any _).mono ?_); rintro e w8 ⟨rfl, b8⟩; have B8 := Lib.hid (B7.out.trans (b8.mono B7.out.size)); have K8 := keep_bel B8.out R2.out; have t0 : w8.cell? ⟨g2, 0, none⟩ = some (.int .i64 4) := (cell_of_row _ _ 0 _ 53 (0, 0) K8).trans rfl; have t1 : w8.cell? ⟨g2, 1, none⟩ = some (.int .i64 16) := (cell_of_row _ _ 1 _ 53 (0, 0) K8).trans rfl; have t2 : w8.cell? ⟨g2, 2, none⟩ = some (.int .i64 c2) := (cell_of_row _ _ 2 _ 53 (0, 0) K8).trans rfl; have t3 : w8.cell? ⟨g2, 3, none⟩ = some (.int .i64 c3) := (cell_of_row _ _ 3 _ 53 (0, 0) K8).trans rfl; have t4 : w8.cell? ⟨g2, 4, none⟩ = some (.int .i64 c4) := (cell_of_row _ _ 4 _ 53 (0, 0) K8).trans rfl; have t5 : w8.cell? ⟨g2, 5, none⟩ = some (.int .i64 c5) := (cell_of_row _ _ 5 _ 53 (0, 0) K8).trans rfl; have t6 : w8.cell? ⟨g2, 6, none⟩ = some (.int .i64 c6) := (cell_of_row _ _ 6 _ 53 (0, 0) K8).trans rfl; have t7 : w8.cell? ⟨g2, 7, none⟩ = some (.int .i64 c7) := (cell_of_row _ _ 7 _ 53 (0, 0) K8).trans rfl; have t8 : w8.cell? ⟨g2, 8, none⟩ = some (.int .i64 c8) := (cell_of_row _ _ 8 _ 53 (0, 0) K8).trans rfl; clear b8 K8))
        | (go_at_call 23; ((with_reducible refine (CK.out _).mono ?_); rintro e w9 ⟨rfl, b9⟩; have B9 := Lib.hid (B8.out.trans (b9.mono B8.out.size)); clear b9))
        | fail)
      go_ret
      exact ⟨rfl, BW.out.trans (B9.out.mono BW.out.size)⟩
end Go.Proofs.Ytnchpfmpjpnciaa
