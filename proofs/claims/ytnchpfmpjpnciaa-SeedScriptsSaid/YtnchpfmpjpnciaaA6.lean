/- Operations of a source, the program's. -/
import Derived.Test.YtnchpfmpjpnciaaA5
namespace Go.Proofs.Ytnchpfmpjpnciaa
set_option linter.unusedSimpArgs false
open Go.RowKit Go.Maps Go.Shelf
set_option linter.unusedVariables false
set_option maxHeartbeats 2000000 in
set_option maxRecDepth 4000 in
theorem op_p_get {w : World} {g : Nat} {S n S1 : Int} (h : Src w 63 g S) (hn : 0 ≤ n ∧ n < 2) (en : bl S 8 = n) (eS : bs S 8 = S1) :
    Calls Try.prog 14 #[.pointer (some ⟨g, 0, none⟩)] w (OpPost 63 g n S1 w) := by
  have hal := run_zo
  have hG := h.lt
  have hG2 : ¬ w.heap.size = g := by omega
  have hb0 : Below w.heap.size w (w.alloc (.cells #[.int .u8 0, .string ⟨#[]⟩, .string ⟨#[]⟩, .int .i64 0, .slice none 0 0] 42)) := by go_grown
  have HE : Hid (Eff 63 g S w (w.alloc (.cells #[.int .u8 0, .string ⟨#[]⟩, .string ⟨#[]⟩, .int .i64 0, .slice none 0 0] 42))) := Lib.hid (Eff.later ⟨h, Chg.refl _ _⟩ hb0)
  have B8 := Lib.hid (below_p 8 HE.out.1 (by omega))
  rw [en, eS] at B8
  have Z0 := Lib.hid (heap_alloc_new w (.cells #[.int .u8 0, .string ⟨#[]⟩, .string ⟨#[]⟩, .int .i64 0, .slice none 0 0] 42))
  have EP : Hid (OpPost 63 g n S1 w = fun e w' => ∃ A c, e = .returned (.agg (oc 1 (keyB S1 4 2) 0 (.slice A 0 c))) ∧ Eff 63 g (keyS S1 4 2) w w' ∧ RdV w' w.heap.size A (mrow (bs S1 3) 0)) := Lib.hid (by
    unfold OpPost
    rw [show opL n S1 = 0 by unfold opL; rw [if_neg (by omega)], show opK n = 1 by unfold opK; rw [if_pos hn.2], show opY n S1 = (keyB S1 4 2) by unfold opY; rw [if_pos hn.2], show opN n S1 = 0 by unfold opN; rw [if_neg (by omega), if_neg (by omega)], show opS n S1 = (keyS S1 4 2) by unfold opS; rw [if_pos hn.2]])
  rw [EP.out]
  clear EP
  obtain rfl | rfl : n = 0 ∨ n = 1 := by omega
  · go_enter Try.func14, Try.ntmps14
    go_wp2_with (first
      | (go_at_call 8; ((with_reducible refine B8.out.mono ?_); rintro e w1 ⟨rfl, h1⟩; have H1 := Lib.hid (HE.out.trans h1); have Z1 := Lib.hid (h1.keep hG2 Z0.out); have HS1 := Lib.hid h1.src; clear h1))
      | (go_at_call 10; ((with_reducible refine (key_p 4 2 HS1.out).mono ?_); rintro e w2 ⟨rfl, h2⟩; have H2 := Lib.hid (H1.out.trans h2); have Z2 := Lib.hid (h2.keep hG2 Z1.out); have HS2 := Lib.hid h2.src; clear h2))
      | (refine wpList_store_row rfl 42 (.tmp 2) (.tmp 14) rfl w.heap.size (oc 1 (keyB S1 4 2) 0 (.slice none 0 0)) rfl rfl 42 _ Z2.out info42 rfl (oc_one _ _ _ _ _ _) ?_)
      | fail)
    refine bodyPost_ret (v := .agg (oc 1 (keyB S1 4 2) 0 (.slice none 0 0))) (res42 rfl _ _ w.heap.size _ rfl (setRow_heap _ _ _ _ _ _ Z2.out) rfl) rfl ⟨none, 0, rfl, H2.out.row (Nat.le_refl _) hG _, .inl rfl⟩
  · go_enter Try.func14, Try.ntmps14
    go_wp2_with (first
      | (go_at_call 8; ((with_reducible refine B8.out.mono ?_); rintro e w1 ⟨rfl, h1⟩; have H1 := Lib.hid (HE.out.trans h1); have Z1 := Lib.hid (h1.keep hG2 Z0.out); have HS1 := Lib.hid h1.src; clear h1))
      | (go_at_call 10; ((with_reducible refine (key_p 4 2 HS1.out).mono ?_); rintro e w2 ⟨rfl, h2⟩; have H2 := Lib.hid (H1.out.trans h2); have Z2 := Lib.hid (h2.keep hG2 Z1.out); have HS2 := Lib.hid h2.src; clear h2))
      | (refine wpList_store_row rfl 42 (.tmp 2) (.tmp 14) rfl w.heap.size (oc 1 (keyB S1 4 2) 0 (.slice none 0 0)) rfl rfl 42 _ Z2.out info42 rfl (oc_one _ _ _ _ _ _) ?_)
      | fail)
    refine bodyPost_ret (v := .agg (oc 1 (keyB S1 4 2) 0 (.slice none 0 0))) (res42 rfl _ _ w.heap.size _ rfl (setRow_heap _ _ _ _ _ _ Z2.out) rfl) rfl ⟨none, 0, rfl, H2.out.row (Nat.le_refl _) hG _, .inl rfl⟩

set_option maxHeartbeats 2000000 in
set_option maxRecDepth 4000 in
theorem op_p_look {w : World} {g : Nat} {S n S1 : Int} (h : Src w 63 g S) (hn : n = 5) (en : bl S 8 = n) (eS : bs S 8 = S1) :
    Calls Try.prog 14 #[.pointer (some ⟨g, 0, none⟩)] w (OpPost 63 g n S1 w) := by
  have hal := run_zo
  have hG := h.lt
  have hG2 : ¬ w.heap.size = g := by omega
  have hb0 : Below w.heap.size w (w.alloc (.cells #[.int .u8 0, .string ⟨#[]⟩, .string ⟨#[]⟩, .int .i64 0, .slice none 0 0] 42)) := by go_grown
  have HE : Hid (Eff 63 g S w (w.alloc (.cells #[.int .u8 0, .string ⟨#[]⟩, .string ⟨#[]⟩, .int .i64 0, .slice none 0 0] 42))) := Lib.hid (Eff.later ⟨h, Chg.refl _ _⟩ hb0)
  have B8 := Lib.hid (below_p 8 HE.out.1 (by omega))
  rw [en, eS] at B8
  have Z0 := Lib.hid (heap_alloc_new w (.cells #[.int .u8 0, .string ⟨#[]⟩, .string ⟨#[]⟩, .int .i64 0, .slice none 0 0] 42))
  have EP : Hid (OpPost 63 g n S1 w = fun e w' => ∃ A c, e = .returned (.agg (oc 3 (keyB S1 4 1) (bl (keyS S1 4 1) 3 + 1) (.slice A 0 c))) ∧ Eff 63 g (bs (keyS S1 4 1) 3) w w' ∧ RdV w' w.heap.size A (mrow (bs S1 3) 0)) := Lib.hid (by
    unfold OpPost
    rw [show opL n S1 = 0 by unfold opL; rw [if_neg (by omega)], show opK n = 3 by unfold opK; rw [if_neg (by omega), if_neg (by omega), if_pos hn], show opY n S1 = (keyB S1 4 1) by unfold opY; rw [if_neg (by omega), if_pos hn], show opN n S1 = (bl (keyS S1 4 1) 3 + 1) by unfold opN; rw [if_pos hn], show opS n S1 = (bs (keyS S1 4 1) 3) by unfold opS; rw [if_neg (by omega), if_neg (by omega), if_pos hn]])
  rw [EP.out]
  have hx := bl_range (keyS S1 4 1) 3 (by omega)
  generalize hkk : keyS S1 4 1 = S2 at *
  have HKK := Lib.hid hkk
  generalize hxx : bl S2 3 = x at *
  have HXX := Lib.hid hxx
  clear EP hkk hxx
  subst hn
  go_enter Try.func14, Try.ntmps14
  go_wp2_with (first
    | (go_at_call 8; ((with_reducible refine B8.out.mono ?_); rintro e w1 ⟨rfl, h1⟩; have H1 := Lib.hid (HE.out.trans h1); have Z1 := Lib.hid (h1.keep hG2 Z0.out); have HS1 := Lib.hid h1.src; clear h1))
    | (go_at_call 10; ((with_reducible refine (key_p 4 1 HS1.out).mono ?_); rintro e w2 ⟨rfl, h2⟩; have H2 := Lib.hid (H1.out.trans h2); have Z2 := Lib.hid (h2.keep hG2 Z1.out); have HS2 := Lib.hid h2.src; clear h2; rw [HKK.out] at H2 HS2; have B3 := Lib.hid (below_p 3 HS2.out (by omega)); rw [HXX.out] at B3))
    | (go_at_call 8; ((with_reducible refine B3.out.mono ?_); rintro e w3 ⟨rfl, h3⟩; have H3 := Lib.hid (H2.out.trans h3); have Z3 := Lib.hid (h3.keep hG2 Z2.out); clear h3))
    | (refine wpList_store_row rfl 42 (.tmp 2) (.tmp 22) rfl w.heap.size (oc 3 (keyB S1 4 1) (x + 1) (.slice none 0 0)) rfl rfl 42 _ Z3.out info42 rfl (oc_one _ _ _ _ _ _) ?_)
    | fail)
  refine bodyPost_ret (v := .agg (oc 3 (keyB S1 4 1) (x + 1) (.slice none 0 0))) (res42 rfl _ _ w.heap.size _ rfl (setRow_heap _ _ _ _ _ _ Z3.out) rfl) rfl ⟨none, 0, rfl, H3.out.row (Nat.le_refl _) hG _, .inl rfl⟩

set_option maxHeartbeats 2000000 in
set_option maxRecDepth 4000 in
theorem op_p_n6 {w : World} {g : Nat} {S n S1 : Int} (h : Src w 63 g S) (hn : n = 6) (en : bl S 8 = n) (eS : bs S 8 = S1) :
    Calls Try.prog 14 #[.pointer (some ⟨g, 0, none⟩)] w (OpPost 63 g n S1 w) := by
  have hal := run_zo
  have hG := h.lt
  have hG2 : ¬ w.heap.size = g := by omega
  have hb0 : Below w.heap.size w (w.alloc (.cells #[.int .u8 0, .string ⟨#[]⟩, .string ⟨#[]⟩, .int .i64 0, .slice none 0 0] 42)) := by go_grown
  have HE : Hid (Eff 63 g S w (w.alloc (.cells #[.int .u8 0, .string ⟨#[]⟩, .string ⟨#[]⟩, .int .i64 0, .slice none 0 0] 42))) := Lib.hid (Eff.later ⟨h, Chg.refl _ _⟩ hb0)
  have B8 := Lib.hid (below_p 8 HE.out.1 (by omega))
  rw [en, eS] at B8
  have Z0 := Lib.hid (heap_alloc_new w (.cells #[.int .u8 0, .string ⟨#[]⟩, .string ⟨#[]⟩, .int .i64 0, .slice none 0 0] 42))
  have EP : Hid (OpPost 63 g n S1 w = fun e w' => ∃ A c, e = .returned (.agg (oc 4 ⟨#[]⟩ 0 (.slice A 0 c))) ∧ Eff 63 g S1 w w' ∧ RdV w' w.heap.size A (mrow (bs S1 3) 0)) := Lib.hid (by
    unfold OpPost
    rw [show opL n S1 = 0 by unfold opL; rw [if_neg (by omega)], show opK n = 4 by unfold opK; rw [if_neg (by omega), if_neg (by omega), if_neg (by omega), if_pos hn], show opY n S1 = ⟨#[]⟩ by unfold opY; rw [if_neg (by omega), if_neg (by omega)], show opN n S1 = 0 by unfold opN; rw [if_neg (by omega), if_neg (by omega)], show opS n S1 = S1 by unfold opS; rw [if_neg (by omega), if_neg (by omega), if_neg (by omega)]])
  rw [EP.out]
  clear EP
  subst hn
  go_enter Try.func14, Try.ntmps14
  go_wp2_with (first
    | (go_at_call 8; ((with_reducible refine B8.out.mono ?_); rintro e w1 ⟨rfl, h1⟩; have H1 := Lib.hid (HE.out.trans h1); have Z1 := Lib.hid (h1.keep hG2 Z0.out); have HS1 := Lib.hid h1.src; clear h1))
    | (refine wpList_store_row rfl 42 (.tmp 2) (.tmp 25) rfl w.heap.size (oc 4 ⟨#[]⟩ 0 (.slice none 0 0)) rfl rfl 42 _ Z1.out info42 rfl (oc_one _ _ _ _ _ _) ?_)
    | fail)
  refine bodyPost_ret (v := .agg (oc 4 ⟨#[]⟩ 0 (.slice none 0 0))) (res42 rfl _ _ w.heap.size _ rfl (setRow_heap _ _ _ _ _ _ Z1.out) rfl) rfl ⟨none, 0, rfl, H1.out.row (Nat.le_refl _) hG _, .inl rfl⟩

set_option maxHeartbeats 2000000 in
set_option maxRecDepth 4000 in
theorem op_p_n7 {w : World} {g : Nat} {S n S1 : Int} (h : Src w 63 g S) (hn : n = 7) (en : bl S 8 = n) (eS : bs S 8 = S1) :
    Calls Try.prog 14 #[.pointer (some ⟨g, 0, none⟩)] w (OpPost 63 g n S1 w) := by
  have hal := run_zo
  have hG := h.lt
  have hG2 : ¬ w.heap.size = g := by omega
  have hb0 : Below w.heap.size w (w.alloc (.cells #[.int .u8 0, .string ⟨#[]⟩, .string ⟨#[]⟩, .int .i64 0, .slice none 0 0] 42)) := by go_grown
  have HE : Hid (Eff 63 g S w (w.alloc (.cells #[.int .u8 0, .string ⟨#[]⟩, .string ⟨#[]⟩, .int .i64 0, .slice none 0 0] 42))) := Lib.hid (Eff.later ⟨h, Chg.refl _ _⟩ hb0)
  have B8 := Lib.hid (below_p 8 HE.out.1 (by omega))
  rw [en, eS] at B8
  have Z0 := Lib.hid (heap_alloc_new w (.cells #[.int .u8 0, .string ⟨#[]⟩, .string ⟨#[]⟩, .int .i64 0, .slice none 0 0] 42))
  have EP : Hid (OpPost 63 g n S1 w = fun e w' => ∃ A c, e = .returned (.agg (oc 5 ⟨#[]⟩ 1 (.slice A 0 c))) ∧ Eff 63 g S1 w w' ∧ RdV w' w.heap.size A (mrow (bs S1 3) 0)) := Lib.hid (by
    unfold OpPost
    rw [show opL n S1 = 0 by unfold opL; rw [if_neg (by omega)], show opK n = 5 by unfold opK; rw [if_neg (by omega), if_neg (by omega), if_neg (by omega), if_neg (by omega)], show opY n S1 = ⟨#[]⟩ by unfold opY; rw [if_neg (by omega), if_neg (by omega)], show opN n S1 = 1 by unfold opN; rw [if_neg (by omega), if_pos hn], show opS n S1 = S1 by unfold opS; rw [if_neg (by omega), if_neg (by omega), if_neg (by omega)]])
  rw [EP.out]
  clear EP
  subst hn
  go_enter Try.func14, Try.ntmps14
  go_wp2_with (first
    | (go_at_call 8; ((with_reducible refine B8.out.mono ?_); rintro e w1 ⟨rfl, h1⟩; have H1 := Lib.hid (HE.out.trans h1); have Z1 := Lib.hid (h1.keep hG2 Z0.out); have HS1 := Lib.hid h1.src; clear h1))
    | (refine wpList_store_row rfl 42 (.tmp 2) (.tmp 28) rfl w.heap.size (oc 5 ⟨#[]⟩ 1 (.slice none 0 0)) rfl rfl 42 _ Z1.out info42 rfl (oc_one _ _ _ _ _ _) ?_)
    | fail)
  refine bodyPost_ret (v := .agg (oc 5 ⟨#[]⟩ 1 (.slice none 0 0))) (res42 rfl _ _ w.heap.size _ rfl (setRow_heap _ _ _ _ _ _ Z1.out) rfl) rfl ⟨none, 0, rfl, H1.out.row (Nat.le_refl _) hG _, .inl rfl⟩

theorem op_p {w : World} {g : Nat} {S : Int} (h : Src w 63 g S) : Calls Try.prog 14 #[.pointer (some ⟨g, 0, none⟩)] w (OpPost 63 g (bl S 8) (bs S 8) w) := by
  have hr := bl_range S 8 (by omega)
  by_cases h1 : bl S 8 < 2
  · exact op_p_get h ⟨hr.1, h1⟩ rfl rfl
  · by_cases h2 : bl S 8 < 5
    · exact op_p_batch h ⟨by omega, h2⟩ rfl rfl
    · by_cases h5 : bl S 8 = 5
      · exact op_p_look h h5 rfl rfl
      · by_cases h6 : bl S 8 = 6
        · exact op_p_n6 h h6 rfl rfl
        · exact op_p_n7 h (by omega) rfl rfl
end Go.Proofs.Ytnchpfmpjpnciaa
