/- live answers true. -/
import Derived.Test.YtdbnkeihnoglcaaL1
namespace Go.Proofs.Ytdbnkeihnoglcaa
set_option linter.unusedSimpArgs false
open Go.RowKit Go.Maps
set_option linter.unusedVariables false
theorem eg_cell2 {w : World} {b off : Nat} {xs : List MG} (h : EG.Rd w (some ⟨b, off, none⟩) xs) {i : Nat} {x : MG} (hi : xs[i]? = some x) : w.cell? ⟨b, off + i * 6 + 2, none⟩ = some (.string x.ky) := by
  obtain ⟨_, h2⟩ := h.at hi
  simpa [EG] using h2 2 _ rfl
set_option maxRecDepth 100000 in
set_option maxHeartbeats 4000000 in
theorem live_true (w : World) : Calls Try.prog 11 #[] w fun r w' => r = .returned (.bool true) ∧ Below w.heap.size w w' := by
  have H0 := Lib.hid (bel_alloc (alb w (MO l1)) (MO l2))
  have r1 : EG.Rd ((w.alloc (MO l1)).alloc (MO l2)) (some ⟨w.heap.size, 0, none⟩) [l1] := (lit1 w l1 rfl).later (alb _ _)
  have r2 : EG.Rd ((w.alloc (MO l1)).alloc (MO l2)) (some ⟨w.heap.size + 1, 0, none⟩) [l2] := lit1 _ l2 (by simp)
  have AA := Lib.hid (add_two _ _ 1 1 l1 l2 _ r1 r2 live_ord)
  clear r1 r2
  have AT : Hid (∀ A c W, EG.Rd W A [l1, l2] → Calls Try.prog 23 #[.slice A 2 c, .agg #[.string kC, .string kF]] W fun r w' => (∃ A' c' B' d', r = .returned (TV A' 2 c' B' 2 d') ∧ EG.Rd w' A' [l3, l2] ∧ EG.Rd w' B' [l4, l5]) ∧ Below W.heap.size W w') := Lib.hid (fun A c W h => by
    have q := take_any kC kF A 2 c [l1, l2] W rfl (by omega) h live_ok
    rw [live_for, live_rest] at q
    exact q)
  have AR : Hid (∀ A c W, EG.Rd W A [l1, l2] → Calls Try.prog 9 #[.slice A 2 c] W fun r w' => r = .returned (.bool true) ∧ Below W.heap.size W w') := Lib.hid (fun A c W h => by
    have q := right_any A 2 c [l1, l2] W rfl (by omega) h live_ok
    rw [live_right] at q
    exact q)
  have AB : Hid (∀ A c W, EG.Rd W A [l3, l2] → Calls Try.prog 12 #[.slice A 2 c] W fun r w' => r = .returned (.int .i64 35) ∧ Below W.heap.size W w') := Lib.hid (fun A c W h => by
    have q := bytes_any A 2 c [l3, l2] W rfl (by omega) h live_ok3
    rw [live_bytes] at q
    exact q)
  have AN : Hid (∀ A c W, EG.Rd W A [l1, l2] → Calls Try.prog 19 #[.slice A 2 c] W fun r w' => r = .returned (.int .i64 2) ∧ Below W.heap.size W w') := Lib.hid (fun A c W h => by
    have q := newest_any A 2 c [l1, l2] W rfl (by omega) h
    rw [live_new] at q
    exact q)
  go_enter Try.func11, Try.ntmps11
  go_wp2_with (first
    | (go_at_call 20; ((with_reducible refine AA.out.mono ?_); rintro e w1 ⟨⟨A1, c1, rfl, ra⟩, b1⟩; have RA := Lib.hid ra; have B1 := Lib.hid (bel_trans H0.out b1); clear b1 ra))
    | (go_at_call 23; ((with_reducible refine (AT.out _ _ _ RA.out).mono ?_); rintro e w2 ⟨⟨A2, c2, A3, c3, rfl, rb, rc⟩, b2⟩; replace RA := Lib.hid (RA.out.later b2); have B2 := Lib.hid (bel_trans B1.out b2); have RB := Lib.hid rb; have RC := Lib.hid rc; obtain ⟨b, off, rfl, _, _, _, _, _, _, _⟩ := eg_at RB.out (i := 0) rfl; obtain ⟨b', off', rfl, _, _, _, _, _, _, _⟩ := eg_at RC.out (i := 1) rfl; clear b2 rb rc))
    | (go_at_call 9; ((with_reducible refine (AR.out _ _ _ RA.out).mono ?_); rintro e w3 ⟨rfl, b3⟩; replace RA := Lib.hid (RA.out.later b3); replace RB := Lib.hid (RB.out.later b3); replace RC := Lib.hid (RC.out.later b3); have B3 := Lib.hid (bel_trans B2.out b3); have g2 := (eg_cell2 RB.out (i := 0) rfl); have h2 := (eg_cell2 RC.out (i := 1) rfl); clear b3))
    | (go_at_call 12; ((with_reducible refine (AB.out _ _ _ RB.out).mono ?_); rintro e w4 ⟨rfl, b4⟩; replace RA := Lib.hid (RA.out.later b4); have B4 := Lib.hid (bel_trans B3.out b4); clear b4))
    | (go_at_call 19; ((with_reducible refine (AN.out _ _ _ RA.out).mono ?_); rintro e w5 ⟨rfl, b5⟩; have B5 := Lib.hid (bel_trans B4.out b5); clear b5))
    | fail)
  go_ret
  exact ⟨rfl, B5.out⟩
end Go.Proofs.Ytdbnkeihnoglcaa
