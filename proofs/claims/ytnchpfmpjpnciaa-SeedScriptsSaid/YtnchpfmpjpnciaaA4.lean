/- The document's messages of a source. -/
import Derived.Test.YtnchpfmpjpnciaaA3
namespace Go.Proofs.Ytnchpfmpjpnciaa
set_option linter.unusedSimpArgs false
open Go.RowKit Go.Maps Go.Shelf
set_option linter.unusedVariables false
theorem xs_push (j : Nat) (h : j < 2) : xs j ++ ⟨#[120]⟩ = xs (j + 1 : Nat) := by
  obtain rfl | rfl : j = 0 ∨ j = 1 := by omega
  · decide
  · decide
theorem xs_size (j : Int) : (xs j).size ≤ 2 := by
  unfold xs; split
  · decide
  · split <;> decide

set_option maxHeartbeats 2000000 in
set_option maxRecDepth 4000 in
theorem msg_d {w : World} {g : Nat} {S : Int} (h : Src w 27 g S) :
    Calls Try.prog 13 #[.pointer (some ⟨g, 0, none⟩)] w fun e w' => e = .returned (.agg (msgA (bl S 8) (bs S 8))) ∧ Eff 27 g (msgS (bl S 8) (bs S 8)) w w' := by
  have hal := run_zm
  have hG := h.lt
  have hG2 : ¬ w.heap.size = g := by omega
  have hb0 : Below w.heap.size w (w.alloc (.cells #[.int .u8 0, .int .i64 0, .string ⟨#[]⟩, .string ⟨#[]⟩, .string ⟨#[]⟩, .int .u64 0] 36)) := by go_grown
  have HE : Hid (Eff 27 g S w (w.alloc (.cells #[.int .u8 0, .int .i64 0, .string ⟨#[]⟩, .string ⟨#[]⟩, .string ⟨#[]⟩, .int .u64 0] 36))) := Lib.hid (Eff.later ⟨h, Chg.refl _ _⟩ hb0)
  have B8 := Lib.hid (below_d 8 HE.out.1 (by omega))
  have Z0 := Lib.hid (heap_alloc_new w (.cells #[.int .u8 0, .int .i64 0, .string ⟨#[]⟩, .string ⟨#[]⟩, .string ⟨#[]⟩, .int .u64 0] 36))
  have hr := bl_range S 8 (by omega)
  generalize bl S 8 = n at *
  generalize bs S 8 = S1 at *
  clear h hb0
  have hn : (0 ≤ n ∧ n < 4) ∨ n = 4 ∨ n = 5 ∨ n = 6 ∨ n = 7 := by omega
  rcases hn with hn | rfl | rfl | rfl | rfl
  · have eA : msgA n S1 = mc 1 (keyB S1 4 2) ⟨#[]⟩ (xs (bl (keyS S1 4 2) 3)) 0 := by unfold msgA; rw [if_neg (by omega), if_neg (by omega), if_neg (by omega)]
    have eS : msgS n S1 = bs (keyS S1 4 2) 3 := by unfold msgS; rw [if_neg (by omega), if_neg (by omega), if_neg (by omega)]
    have hx := bl_range (keyS S1 4 2) 3 (by omega)
    rw [eA, eS]
    have q4 : (n == 4) = false := by simp; omega
    have q7 : (n == 7) = false := by simp; omega
    have hg4 : ¬ 4 < n := by omega
    generalize hkk : keyS S1 4 2 = S2 at *
    have HKK := Lib.hid hkk
    generalize hxx : bl S2 3 = x at *
    have HXX := Lib.hid hxx
    have HX := Lib.hid hx
    clear eA eS hkk hxx hx
    go_enter Try.func13, Try.ntmps13
    go_wp2_with (first
      | (go_at_call 9; ((with_reducible refine B8.out.mono ?_); rintro e w1 ⟨rfl, h1⟩; have H1 := Lib.hid (HE.out.trans h1); have Z1 := Lib.hid (h1.keep hG2 Z0.out); have HS1 := Lib.hid h1.src; clear h1))
      | (go_at_call 11; ((with_reducible refine (key_d 4 2 HS1.out).mono ?_); rintro e w2 ⟨rfl, h2⟩; have H2 := Lib.hid (H1.out.trans h2); have Z2 := Lib.hid (h2.keep hG2 Z1.out); have HS2 := Lib.hid h2.src; clear h2; rw [HKK.out] at H2 HS2; have B3 := Lib.hid (below_d 3 HS2.out (by omega)); rw [HXX.out] at B3))
      | (go_at_call 9; ((with_reducible refine B3.out.mono ?_); rintro e w3 ⟨rfl, h3⟩; have H3 := Lib.hid (H2.out.trans h3); have Z3 := Lib.hid (h3.keep hG2 Z2.out); clear h3))
      | fail)
    go_loopw [6, 7] (fun vv iv wr => ∃ j : Nat, (j : Int) ≤ x ∧ iv = .int .i64 (x - j) ∧ vv = .string (xs j) ∧ w3 = wr) (fun _ i _ => (intOf i).toNat)
    case atStart => exact ⟨0, HX.out.1, by simp, rfl, rfl⟩
    case round =>
      obtain ⟨j, hj, rfl, rfl, rfl⟩ := hrel
      have hx2 := HX.out.2
      by_cases h8 : 0 < x - j
      · have hsz : ¬ 9223372036854775807 < (xs j).size + 1 := by have := xs_size j; omega
        have hpu := xs_push j (by omega)
        generalize hsj : xs (j : Int) = s0 at *
        have HPU := Lib.hid hpu
        clear hpu hsj
        go_wp2
        refine ⟨⟨j + 1, by omega, by congr 1; omega, by rw [HPU.out], by trivial⟩, by simp [intOf]; omega⟩
      · have h9 : (j : Int) = x := by omega
        rw [h9]
        have hx0 : x - x = 0 := by omega
        rw [hx0]
        go_wp2_with (first
      | (refine wpList_store_row rfl 36 (.tmp 2) (.tmp 41) rfl w.heap.size (mc 1 (keyB S1 4 2) ⟨#[]⟩ (xs x) 0) rfl rfl 36 _ Z3.out info36 rfl (mc_one _ _ _ _ _) ?_)
          | fail)
        refine bodyPost_ret (v := .agg (mc 1 (keyB S1 4 2) ⟨#[]⟩ (xs x) 0)) (res36 rfl _ _ w.heap.size _ rfl (setRow_heap _ _ _ _ _ _ Z3.out) rfl) rfl ⟨rfl, H3.out.row (Nat.le_refl _) hG _⟩
  · rw [show msgA 4 S1 = mc 2 (keyB S1 4 2) ⟨#[]⟩ ⟨#[]⟩ 0 by unfold msgA; rw [if_neg (by decide), if_pos rfl], show msgS 4 S1 = keyS S1 4 2 by unfold msgS; rw [if_neg (by decide), if_pos rfl]]
    go_enter Try.func13, Try.ntmps13
    go_wp2_with (first
      | (go_at_call 9; ((with_reducible refine B8.out.mono ?_); rintro e w1 ⟨rfl, h1⟩; have H1 := Lib.hid (HE.out.trans h1); have Z1 := Lib.hid (h1.keep hG2 Z0.out); have HS1 := Lib.hid h1.src; clear h1))
      | (go_at_call 11; ((with_reducible refine (key_d 4 2 HS1.out).mono ?_); rintro e w2 ⟨rfl, h2⟩; have H2 := Lib.hid (H1.out.trans h2); have Z2 := Lib.hid (h2.keep hG2 Z1.out); have HS2 := Lib.hid h2.src; clear h2))
      | (refine wpList_store_row rfl 36 (.tmp 2) (.tmp 23) rfl w.heap.size (mc 2 (keyB S1 4 2) ⟨#[]⟩ ⟨#[]⟩ 0) rfl rfl 36 _ Z2.out info36 rfl (mc_one _ _ _ _ _) ?_)
      | fail)
    refine bodyPost_ret (v := .agg (mc 2 (keyB S1 4 2) ⟨#[]⟩ ⟨#[]⟩ 0)) (res36 rfl _ _ w.heap.size _ rfl (setRow_heap _ _ _ _ _ _ Z2.out) rfl) rfl ⟨rfl, H2.out.row (Nat.le_refl _) hG _⟩
  · have eA : msgA 5 S1 = mc 3 (keyB S1 4 2) ⟨#[]⟩ ⟨#[]⟩ (bl (keyS S1 4 2) 100) := by unfold msgA; rw [if_neg (by decide), if_neg (by decide), if_pos (by decide)]
    have eS : msgS 5 S1 = bs (keyS S1 4 2) 100 := by unfold msgS; rw [if_neg (by decide), if_neg (by decide), if_pos (by decide)]
    have hx := bl_range (keyS S1 4 2) 100 (by omega)
    rw [eA, eS]
    generalize hkk : keyS S1 4 2 = S2 at *
    have HKK := Lib.hid hkk
    generalize hxx : bl S2 100 = x at *
    have HXX := Lib.hid hxx
    have HX := Lib.hid hx
    clear eA eS hkk hxx hx
    have hxu : IntKind.u64.wrap x = x := by have := HX.out; simp [IntKind.wrap, IntKind.bits, IntKind.signed]; omega
    have hx0 := HX.out.1
    have hx1 := HX.out.2
    go_enter Try.func13, Try.ntmps13
    go_wp2_with (first
      | (go_at_call 9; ((with_reducible refine B8.out.mono ?_); rintro e w1 ⟨rfl, h1⟩; have H1 := Lib.hid (HE.out.trans h1); have Z1 := Lib.hid (h1.keep hG2 Z0.out); have HS1 := Lib.hid h1.src; clear h1))
      | (go_at_call 11; ((with_reducible refine (key_d 4 2 HS1.out).mono ?_); rintro e w2 ⟨rfl, h2⟩; have H2 := Lib.hid (H1.out.trans h2); have Z2 := Lib.hid (h2.keep hG2 Z1.out); have HS2 := Lib.hid h2.src; clear h2; rw [HKK.out] at H2 HS2; have B3 := Lib.hid (below_d 100 HS2.out (by omega)); rw [HXX.out] at B3))
      | (go_at_call 9; ((with_reducible refine B3.out.mono ?_); rintro e w3 ⟨rfl, h3⟩; have H3 := Lib.hid (H2.out.trans h3); have Z3 := Lib.hid (h3.keep hG2 Z2.out); clear h3))
      | (refine wpList_store_row rfl 36 (.tmp 2) (.tmp 30) rfl w.heap.size (mc 3 (keyB S1 4 2) ⟨#[]⟩ ⟨#[]⟩ x) rfl rfl 36 _ Z3.out info36 rfl (mc_one _ _ _ _ _) ?_)
      | fail)
    refine bodyPost_ret (v := .agg (mc 3 (keyB S1 4 2) ⟨#[]⟩ ⟨#[]⟩ x)) (res36 rfl _ _ w.heap.size _ rfl (setRow_heap _ _ _ _ _ _ Z3.out) rfl) rfl ⟨rfl, H3.out.row (Nat.le_refl _) hG _⟩
  · have eA : msgA 6 S1 = mc 3 (keyB S1 4 2) ⟨#[]⟩ ⟨#[]⟩ (bl (keyS S1 4 2) 100) := by unfold msgA; rw [if_neg (by decide), if_neg (by decide), if_pos (by decide)]
    have eS : msgS 6 S1 = bs (keyS S1 4 2) 100 := by unfold msgS; rw [if_neg (by decide), if_neg (by decide), if_pos (by decide)]
    have hx := bl_range (keyS S1 4 2) 100 (by omega)
    rw [eA, eS]
    generalize hkk : keyS S1 4 2 = S2 at *
    have HKK := Lib.hid hkk
    generalize hxx : bl S2 100 = x at *
    have HXX := Lib.hid hxx
    have HX := Lib.hid hx
    clear eA eS hkk hxx hx
    have hxu : IntKind.u64.wrap x = x := by have := HX.out; simp [IntKind.wrap, IntKind.bits, IntKind.signed]; omega
    have hx0 := HX.out.1
    have hx1 := HX.out.2
    go_enter Try.func13, Try.ntmps13
    go_wp2_with (first
      | (go_at_call 9; ((with_reducible refine B8.out.mono ?_); rintro e w1 ⟨rfl, h1⟩; have H1 := Lib.hid (HE.out.trans h1); have Z1 := Lib.hid (h1.keep hG2 Z0.out); have HS1 := Lib.hid h1.src; clear h1))
      | (go_at_call 11; ((with_reducible refine (key_d 4 2 HS1.out).mono ?_); rintro e w2 ⟨rfl, h2⟩; have H2 := Lib.hid (H1.out.trans h2); have Z2 := Lib.hid (h2.keep hG2 Z1.out); have HS2 := Lib.hid h2.src; clear h2; rw [HKK.out] at H2 HS2; have B3 := Lib.hid (below_d 100 HS2.out (by omega)); rw [HXX.out] at B3))
      | (go_at_call 9; ((with_reducible refine B3.out.mono ?_); rintro e w3 ⟨rfl, h3⟩; have H3 := Lib.hid (H2.out.trans h3); have Z3 := Lib.hid (h3.keep hG2 Z2.out); clear h3))
      | (refine wpList_store_row rfl 36 (.tmp 2) (.tmp 30) rfl w.heap.size (mc 3 (keyB S1 4 2) ⟨#[]⟩ ⟨#[]⟩ x) rfl rfl 36 _ Z3.out info36 rfl (mc_one _ _ _ _ _) ?_)
      | fail)
    refine bodyPost_ret (v := .agg (mc 3 (keyB S1 4 2) ⟨#[]⟩ ⟨#[]⟩ x)) (res36 rfl _ _ w.heap.size _ rfl (setRow_heap _ _ _ _ _ _ Z3.out) rfl) rfl ⟨rfl, H3.out.row (Nat.le_refl _) hG _⟩
  · rw [show msgA 7 S1 = mc 4 (keyB S1 4 1) (keyB S1 4 1 ++ ⟨#[122]⟩) ⟨#[]⟩ 0 by unfold msgA; rw [if_pos rfl], show msgS 7 S1 = keyS S1 4 1 by unfold msgS; rw [if_pos rfl]]
    have hsz : ¬ 9223372036854775807 < (keyB S1 4 1).size + 1 := by have := keyB_size S1 4 1; omega
    go_enter Try.func13, Try.ntmps13
    go_wp2_with (first
      | (go_at_call 9; ((with_reducible refine B8.out.mono ?_); rintro e w1 ⟨rfl, h1⟩; have H1 := Lib.hid (HE.out.trans h1); have Z1 := Lib.hid (h1.keep hG2 Z0.out); have HS1 := Lib.hid h1.src; clear h1))
      | (go_at_call 11; ((with_reducible refine (key_d 4 1 HS1.out).mono ?_); rintro e w2 ⟨rfl, h2⟩; have H2 := Lib.hid (H1.out.trans h2); have Z2 := Lib.hid (h2.keep hG2 Z1.out); have HS2 := Lib.hid h2.src; clear h2))
      | (refine wpList_store_row rfl 36 (.tmp 2) (.tmp 17) rfl w.heap.size (mc 4 (keyB S1 4 1) (keyB S1 4 1 ++ ⟨#[122]⟩) ⟨#[]⟩ 0) rfl rfl 36 _ Z2.out info36 rfl (mc_one _ _ _ _ _) ?_)
      | fail)
    refine bodyPost_ret (v := .agg (mc 4 (keyB S1 4 1) (keyB S1 4 1 ++ ⟨#[122]⟩) ⟨#[]⟩ 0)) (res36 rfl _ _ w.heap.size _ rfl (setRow_heap _ _ _ _ _ _ Z2.out) rfl) rfl ⟨rfl, H2.out.row (Nat.le_refl _) hG _⟩
end Go.Proofs.Ytnchpfmpjpnciaa
