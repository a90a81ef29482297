/- live. -/
import Derived.Test.YtniffjjkjgfacaaZ7
namespace Go.Proofs.Ytniffjjkjgfacaa
set_option linter.unusedSimpArgs false
open Go.RowKit Go.Maps Go.Shelf
set_option linter.unusedVariables false
theorem spread4b (a : Nat) (W : World) (h : EI.Rd W (some ⟨a, 0, none⟩) [5, 1, 9, 7]) : Calls Try.prog 9 #[.slice (some ⟨a, 0, none⟩) 4 4] W fun e w' => e = .returned (.tuple #[.int .i64 1, .int .i64 7, .int .i64 9]) ∧ Below W.heap.size W w' := by
  have h := spread_any (some ⟨a, 0, none⟩) 4 4 [5, 1, 9, 7] W rfl (by omega) h
  rw [sp4.1, sp4.2.1, sp4.2.2] at h
  exact h
abbrev NO : Array Value := #[.int .u8 0, S0, S0, S0, S0, .int .u8 2, S0, .slice none 0 0, S0, S0, .int .u8 1, S0, S0, S0, S0]
set_option maxRecDepth 100000 in
set_option maxHeartbeats 4000000 in
theorem live_true (w : World) : Calls Try.prog 8 #[] w fun e w' => e = .returned (.bool true) ∧ Below w.heap.size w w' := by
  obtain ⟨V, hV⟩ : ∃ V, V = (((w.alloc (.cells #[.int .i64 2] 3)).alloc (.cells #[.int .u8 0, S0, S0, S0, S0, .int .u8 2, S0, KS w.heap.size, S0, S0, .int .u8 1, S0, S0, S0, S0] 43)).alloc (.cells #[TS (w.heap.size + 1)] 46)) := ⟨_, rfl⟩
  have eV : V.heap.size = w.heap.size + 1 + 1 + 1 := by rw [hV]; simp
  have HB0 : Hid (Below w.heap.size w V) := Lib.hid (by rw [hV]; go_grown)
  have b4 := alb V (.cells #[.int .i64 5, .int .i64 1, .int .i64 9, .int .i64 7] 3)
  obtain ⟨h1, h2, h3⟩ := heap3 w (.cells #[.int .i64 2] 3 (0, 0)) (.cells #[.int .u8 0, S0, S0, S0, S0, .int .u8 2, S0, KS w.heap.size, S0, S0, .int .u8 1, S0, S0, S0, S0] 43 (0, 0)) (.cells #[TS (w.heap.size + 1)] 46 (0, 0))
  rw [← hV] at h1 h2 h3
  have T0 : Hid (TreeAt (V.alloc (.cells #[.int .i64 5, .int .i64 1, .int .i64 9, .int .i64 7] 3)) (w.heap.size + 1) w.heap.size) := Lib.hid ⟨keep_bel b4 h2, keep_bel b4 h1⟩
  have X0 : Hid (Boxed (V.alloc (.cells #[.int .i64 5, .int .i64 1, .int .i64 9, .int .i64 7] 3)) (w.heap.size + 1 + 1) 46 (TS (w.heap.size + 1))) := Lib.hid (keep_bel b4 h3)
  have HE : Hid (EI.Rd (V.alloc (.cells #[.int .i64 5, .int .i64 1, .int .i64 9, .int .i64 7] 3)) (some ⟨w.heap.size + 1 + 1 + 1, 0, none⟩) [5, 1, 9, 7]) := by
    have h := RE.Rd.lit (E := EI) V 3 [5, 1, 9, 7] #[.int .i64 5, .int .i64 1, .int .i64 9, .int .i64 7] rfl
    rw [eV] at h
    exact Lib.hid h
  clear h1 h2 h3 b4 eV
  subst hV
  go_enter Try.func8, Try.ntmps8
  go_wp2_with (first
    | (go_at_call 9; ((with_reducible refine (spread4b _ _ HE.out).mono ?_); rintro e w1 ⟨rfl, b1⟩; have B1H := Lib.hid (bel_trans HB0.out (bel_a b1)); have T1 := Lib.hid (T0.out.later b1); have x1 := (boxed_later X0.out b1).cell; have X1 := Lib.hid (boxed_later X0.out b1); clear b1))
    | (go_at_call 16; ((with_reducible refine (lv16 _ _ _ T1.out).mono ?_); rintro e w2 ⟨⟨A, c, rfl⟩, b2⟩; have B2H := Lib.hid (bel_trans B1H.out b2); have T2 := Lib.hid (T1.out.later b2); have x2 := (boxed_later X1.out b2).cell; clear b2 x1))
    | (go_at_call 17; ((with_reducible refine (entries1 _ _ _ T2.out).mono ?_); rintro e w3 ⟨rfl, b3⟩; have B3H := Lib.hid (bel_trans B2H.out b3); clear b3 x2))
    | (go_at_call 6; ((with_reducible refine (share13 _).mono ?_); rintro e w4 ⟨rfl, b4⟩; have B4H := Lib.hid (bel_trans B3H.out b4); clear b4))
    | (go_at_call 6; ((with_reducible refine (share_big _).mono ?_); rintro e w5 ⟨rfl, b5⟩; have B5H := Lib.hid (bel_trans B4H.out b5); clear b5))
    | fail)
  go_ret
  exact ⟨rfl, B5H.out⟩
end Go.Proofs.Ytniffjjkjgfacaa
