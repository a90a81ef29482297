/- Operations of a source, the document's. -/
import Derived.Test.YtnchpfmpjpnciaaA6
namespace Go.Proofs.Ytnchpfmpjpnciaa
set_option linter.unusedSimpArgs false
open Go.RowKit Go.Maps Go.Shelf
set_option linter.unusedVariables false
set_option maxHeartbeats 2000000 in
set_option maxRecDepth 4000 in
theorem op_d_get {w : World} {g : Nat} {S n S1 : Int} (h : Src w 27 g S) (hn : 0 ≤ n ∧ n < 2) (en : bl S 8 = n) (eS : bs S 8 = S1) :
    Calls Try.prog 15 #[.pointer (some ⟨g, 0, none⟩)] w (OpPost 27 g n S1 w) := by
  have hal := run_zo
  have hG := h.lt
  have hG2 : ¬ w.heap.size = g := by omega
  have hb0 : Below w.heap.size w (w.alloc (.cells #[.int .u8 0, .string ⟨#[]⟩, .string ⟨#[]⟩, .int .i64 0, .slice none 0 0] 42)) := by go_grown
  have HE : Hid (Eff 27 g S w (w.alloc (.cells #[.int .u8 0, .string ⟨#[]⟩, .string ⟨#[]⟩, .int .i64 0, .slice none 0 0] 42))) := Lib.hid (Eff.later ⟨h, Chg.refl _ _⟩ hb0)
  have B8 := Lib.hid (below_d 8 HE.out.1 (by omega))
  rw [en, eS] at B8
  have Z0 := Lib.hid (heap_alloc_new w (.cells #[.int .u8 0, .string ⟨#[]⟩, .string ⟨#[]⟩, .int .i64 0, .slice none 0 0] 42))
  have EP : Hid (OpPost 27 g n S1 w = fun e w' => ∃ A c, e = .returned (.agg (oc 1 (keyB S1 4 2) 0 (.slice A 0 c))) ∧ Eff 27 g (keyS S1 4 2) w w' ∧ RdV w' w.heap.size A (mrow (bs S1 3) 0)) := Lib.hid (by
    unfold OpPost
    rw [show opL n S1 = 0 by unfold opL; rw [if_neg (by omega)], show opK n = 1 by unfold opK; rw [if_pos hn.2], show opY n S1 = (keyB S1 4 2) by unfold opY; rw [if_pos hn.2], show opN n S1 = 0 by unfold opN; rw [if_neg (by omega), if_neg (by omega)], show opS n S1 = (keyS S1 4 2) by unfold opS; rw [if_pos hn.2]])
  rw [EP.out]
  have hn2 := hn.2
  clear EP
  go_enter Try.func15, Try.ntmps15
  go_wp2_with (first
    | (go_at_call 9; ((with_reducible refine B8.out.mono ?_); rintro e w1 ⟨rfl, h1⟩; have H1 := Lib.hid (HE.out.trans h1); have Z1 := Lib.hid (h1.keep hG2 Z0.out); have HS1 := Lib.hid h1.src; clear h1))
    | (go_at_call 11; ((with_reducible refine (key_d 4 2 HS1.out).mono ?_); rintro e w2 ⟨rfl, h2⟩; have H2 := Lib.hid (H1.out.trans h2); have Z2 := Lib.hid (h2.keep hG2 Z1.out); have HS2 := Lib.hid h2.src; clear h2))
    | (refine wpList_store_row rfl 42 (.tmp 2) (.tmp 13) rfl w.heap.size (oc 1 (keyB S1 4 2) 0 (.slice none 0 0)) rfl rfl 42 _ Z2.out info42 rfl (oc_one _ _ _ _ _ _) ?_)
    | fail)
  refine bodyPost_ret (v := .agg (oc 1 (keyB S1 4 2) 0 (.slice none 0 0))) (res42 rfl _ _ w.heap.size _ rfl (setRow_heap _ _ _ _ _ _ Z2.out) rfl) rfl ⟨none, 0, rfl, H2.out.row (Nat.le_refl _) hG _, .inl rfl⟩

set_option maxHeartbeats 2000000 in
set_option maxRecDepth 4000 in
theorem op_d_look {w : World} {g : Nat} {S n S1 : Int} (h : Src w 27 g S) (hn : n = 5) (en : bl S 8 = n) (eS : bs S 8 = S1) :
    Calls Try.prog 15 #[.pointer (some ⟨g, 0, none⟩)] w (OpPost 27 g n S1 w) := by
  have hal := run_zo
  have hG := h.lt
  have hG2 : ¬ w.heap.size = g := by omega
  have hb0 : Below w.heap.size w (w.alloc (.cells #[.int .u8 0, .string ⟨#[]⟩, .string ⟨#[]⟩, .int .i64 0, .slice none 0 0] 42)) := by go_grown
  have HE : Hid (Eff 27 g S w (w.alloc (.cells #[.int .u8 0, .string ⟨#[]⟩, .string ⟨#[]⟩, .int .i64 0, .slice none 0 0] 42))) := Lib.hid (Eff.later ⟨h, Chg.refl _ _⟩ hb0)
  have B8 := Lib.hid (below_d 8 HE.out.1 (by omega))
  rw [en, eS] at B8
  have Z0 := Lib.hid (heap_alloc_new w (.cells #[.int .u8 0, .string ⟨#[]⟩, .string ⟨#[]⟩, .int .i64 0, .slice none 0 0] 42))
  have EP : Hid (OpPost 27 g n S1 w = fun e w' => ∃ A c, e = .returned (.agg (oc 3 (keyB S1 4 1) (bl (keyS S1 4 1) 3 + 1) (.slice A 0 c))) ∧ Eff 27 g (bs (keyS S1 4 1) 3) w w' ∧ RdV w' w.heap.size A (mrow (bs S1 3) 0)) := Lib.hid (by
    unfold OpPost
    rw [show opL n S1 = 0 by unfold opL; rw [if_neg (by omega)], show opK n = 3 by unfold opK; rw [if_neg (by omega), if_neg (by omega), if_pos hn], show opY n S1 = (keyB S1 4 1) by unfold opY; rw [if_neg (by omega), if_pos hn], show opN n S1 = (bl (keyS S1 4 1) 3 + 1) by unfold opN; rw [if_pos hn], show opS n S1 = (bs (keyS S1 4 1) 3) by unfold opS; rw [if_neg (by omega), if_neg (by omega), if_pos hn]])
  rw [EP.out]
  have hx := bl_range (keyS S1 4 1) 3 (by omega)
  generalize hkk : keyS S1 4 1 = S2 at *
  have HKK := Lib.hid hkk
  generalize hxx : bl S2 3 = x at *
  have HXX := Lib.hid hxx
  clear EP hkk hxx
  subst hn
  go_enter Try.func15, Try.ntmps15
  go_wp2_with (first
    | (go_at_call 9; ((with_reducible refine B8.out.mono ?_); rintro e w1 ⟨rfl, h1⟩; have H1 := Lib.hid (HE.out.trans h1); have Z1 := Lib.hid (h1.keep hG2 Z0.out); have HS1 := Lib.hid h1.src; clear h1))
    | (go_at_call 11; ((with_reducible refine (key_d 4 1 HS1.out).mono ?_); rintro e w2 ⟨rfl, h2⟩; have H2 := Lib.hid (H1.out.trans h2); have Z2 := Lib.hid (h2.keep hG2 Z1.out); have HS2 := Lib.hid h2.src; clear h2; rw [HKK.out] at H2 HS2; have B3 := Lib.hid (below_d 3 HS2.out (by omega)); rw [HXX.out] at B3))
    | (go_at_call 9; ((with_reducible refine B3.out.mono ?_); rintro e w3 ⟨rfl, h3⟩; have H3 := Lib.hid (H2.out.trans h3); have Z3 := Lib.hid (h3.keep hG2 Z2.out); clear h3))
    | (refine wpList_store_row rfl 42 (.tmp 2) (.tmp 38) rfl w.heap.size (oc 3 (keyB S1 4 1) (x + 1) (.slice none 0 0)) rfl rfl 42 _ Z3.out info42 rfl (oc_one _ _ _ _ _ _) ?_)
    | fail)
  refine bodyPost_ret (v := .agg (oc 3 (keyB S1 4 1) (x + 1) (.slice none 0 0))) (res42 rfl _ _ w.heap.size _ rfl (setRow_heap _ _ _ _ _ _ Z3.out) rfl) rfl ⟨none, 0, rfl, H3.out.row (Nat.le_refl _) hG _, .inl rfl⟩

set_option maxHeartbeats 2000000 in
set_option maxRecDepth 4000 in
theorem op_d_n6 {w : World} {g : Nat} {S n S1 : Int} (h : Src w 27 g S) (hn : n = 6) (en : bl S 8 = n) (eS : bs S 8 = S1) :
    Calls Try.prog 15 #[.pointer (some ⟨g, 0, none⟩)] w (OpPost 27 g n S1 w) := by
  have hal := run_zo
  have hG := h.lt
  have hG2 : ¬ w.heap.size = g := by omega
  have hb0 : Below w.heap.size w (w.alloc (.cells #[.int .u8 0, .string ⟨#[]⟩, .string ⟨#[]⟩, .int .i64 0, .slice none 0 0] 42)) := by go_grown
  have HE : Hid (Eff 27 g S w (w.alloc (.cells #[.int .u8 0, .string ⟨#[]⟩, .string ⟨#[]⟩, .int .i64 0, .slice none 0 0] 42))) := Lib.hid (Eff.later ⟨h, Chg.refl _ _⟩ hb0)
  have B8 := Lib.hid (below_d 8 HE.out.1 (by omega))
  rw [en, eS] at B8
  have Z0 := Lib.hid (heap_alloc_new w (.cells #[.int .u8 0, .string ⟨#[]⟩, .string ⟨#[]⟩, .int .i64 0, .slice none 0 0] 42))
  have EP : Hid (OpPost 27 g n S1 w = fun e w' => ∃ A c, e = .returned (.agg (oc 4 ⟨#[]⟩ 0 (.slice A 0 c))) ∧ Eff 27 g S1 w w' ∧ RdV w' w.heap.size A (mrow (bs S1 3) 0)) := Lib.hid (by
    unfold OpPost
    rw [show opL n S1 = 0 by unfold opL; rw [if_neg (by omega)], show opK n = 4 by unfold opK; rw [if_neg (by omega), if_neg (by omega), if_neg (by omega), if_pos hn], show opY n S1 = ⟨#[]⟩ by unfold opY; rw [if_neg (by omega), if_neg (by omega)], show opN n S1 = 0 by unfold opN; rw [if_neg (by omega), if_neg (by omega)], show opS n S1 = S1 by unfold opS; rw [if_neg (by omega), if_neg (by omega), if_neg (by omega)]])
  rw [EP.out]
  clear EP
  subst hn
  go_enter Try.func15, Try.ntmps15
  go_wp2_with (first
    | (go_at_call 9; ((with_reducible refine B8.out.mono ?_); rintro e w1 ⟨rfl, h1⟩; have H1 := Lib.hid (HE.out.trans h1); have Z1 := Lib.hid (h1.keep hG2 Z0.out); have HS1 := Lib.hid h1.src; clear h1))
    | (refine wpList_store_row rfl 42 (.tmp 2) (.tmp 41) rfl w.heap.size (oc 4 ⟨#[]⟩ 0 (.slice none 0 0)) rfl rfl 42 _ Z1.out info42 rfl (oc_one _ _ _ _ _ _) ?_)
    | fail)
  refine bodyPost_ret (v := .agg (oc 4 ⟨#[]⟩ 0 (.slice none 0 0))) (res42 rfl _ _ w.heap.size _ rfl (setRow_heap _ _ _ _ _ _ Z1.out) rfl) rfl ⟨none, 0, rfl, H1.out.row (Nat.le_refl _) hG _, .inl rfl⟩

set_option maxHeartbeats 2000000 in
set_option maxRecDepth 4000 in
theorem op_d_n7 {w : World} {g : Nat} {S n S1 : Int} (h : Src w 27 g S) (hn : n = 7) (en : bl S 8 = n) (eS : bs S 8 = S1) :
    Calls Try.prog 15 #[.pointer (some ⟨g, 0, none⟩)] w (OpPost 27 g n S1 w) := by
  have hal := run_zo
  have hG := h.lt
  have hG2 : ¬ w.heap.size = g := by omega
  have hb0 : Below w.heap.size w (w.alloc (.cells #[.int .u8 0, .string ⟨#[]⟩, .string ⟨#[]⟩, .int .i64 0, .slice none 0 0] 42)) := by go_grown
  have HE : Hid (Eff 27 g S w (w.alloc (.cells #[.int .u8 0, .string ⟨#[]⟩, .string ⟨#[]⟩, .int .i64 0, .slice none 0 0] 42))) := Lib.hid (Eff.later ⟨h, Chg.refl _ _⟩ hb0)
  have B8 := Lib.hid (below_d 8 HE.out.1 (by omega))
  rw [en, eS] at B8
  have Z0 := Lib.hid (heap_alloc_new w (.cells #[.int .u8 0, .string ⟨#[]⟩, .string ⟨#[]⟩, .int .i64 0, .slice none 0 0] 42))
  have EP : Hid (OpPost 27 g n S1 w = fun e w' => ∃ A c, e = .returned (.agg (oc 5 ⟨#[]⟩ 1 (.slice A 0 c))) ∧ Eff 27 g S1 w w' ∧ RdV w' w.heap.size A (mrow (bs S1 3) 0)) := Lib.hid (by
    unfold OpPost
    rw [show opL n S1 = 0 by unfold opL; rw [if_neg (by omega)], show opK n = 5 by unfold opK; rw [if_neg (by omega), if_neg (by omega), if_neg (by omega), if_neg (by omega)], show opY n S1 = ⟨#[]⟩ by unfold opY; rw [if_neg (by omega), if_neg (by omega)], show opN n S1 = 1 by unfold opN; rw [if_neg (by omega), if_pos hn], show opS n S1 = S1 by unfold opS; rw [if_neg (by omega), if_neg (by omega), if_neg (by omega)]])
  rw [EP.out]
  clear EP
  subst hn
  go_enter Try.func15, Try.ntmps15
  go_wp2_with (first
    | (go_at_call 9; ((with_reducible refine B8.out.mono ?_); rintro e w1 ⟨rfl, h1⟩; have H1 := Lib.hid (HE.out.trans h1); have Z1 := Lib.hid (h1.keep hG2 Z0.out); have HS1 := Lib.hid h1.src; clear h1))
    | (refine wpList_store_row rfl 42 (.tmp 2) (.tmp 42) rfl w.heap.size (oc 5 ⟨#[]⟩ 1 (.slice none 0 0)) rfl rfl 42 _ Z1.out info42 rfl (oc_one _ _ _ _ _ _) ?_)
    | fail)
  refine bodyPost_ret (v := .agg (oc 5 ⟨#[]⟩ 1 (.slice none 0 0))) (res42 rfl _ _ w.heap.size _ rfl (setRow_heap _ _ _ _ _ _ Z1.out) rfl) rfl ⟨none, 0, rfl, H1.out.row (Nat.le_refl _) hG _, .inl rfl⟩

set_option maxHeartbeats 2000000 in
set_option maxRecDepth 4000 in
theorem op_d_batch {w : World} {g : Nat} {S n S1 : Int} (h : Src w 27 g S) (hn : 2 ≤ n ∧ n < 5) (en : bl S 8 = n) (eS : bs S 8 = S1) :
    Calls Try.prog 15 #[.pointer (some ⟨g, 0, none⟩)] w (OpPost 27 g n S1 w) := by
  have hal := run_zo
  have hG := h.lt
  have hG2 : ¬ w.heap.size = g := by omega
  have hb0 : Below w.heap.size w (w.alloc (.cells #[.int .u8 0, .string ⟨#[]⟩, .string ⟨#[]⟩, .int .i64 0, .slice none 0 0] 42)) := by go_grown
  have HE : Hid (Eff 27 g S w (w.alloc (.cells #[.int .u8 0, .string ⟨#[]⟩, .string ⟨#[]⟩, .int .i64 0, .slice none 0 0] 42))) := Lib.hid (Eff.later ⟨h, Chg.refl _ _⟩ hb0)
  have B8 := Lib.hid (below_d 8 HE.out.1 (by omega))
  rw [en, eS] at B8
  have Z0 := Lib.hid (heap_alloc_new w (.cells #[.int .u8 0, .string ⟨#[]⟩, .string ⟨#[]⟩, .int .i64 0, .slice none 0 0] 42))
  have hx := bl_range S1 3 (by omega)
  have eL : opL n S1 = (bl S1 3 + 1).toNat := by unfold opL; rw [if_pos hn]
  obtain ⟨L, hL⟩ : ∃ L, L = opL n S1 := ⟨_, rfl⟩
  have hLc : bl S1 3 + 1 = L := by omega
  have EP : Hid (OpPost 27 g n S1 w = fun e w' => ∃ A c, e = .returned (.agg (oc 2 ⟨#[]⟩ 0 (.slice A L c))) ∧ Eff 27 g (mst (bs S1 3) L) w w' ∧ RdV w' w.heap.size A (mrow (bs S1 3) L)) := Lib.hid (by
    unfold OpPost
    rw [← hL, show opK n = 2 by unfold opK; rw [if_neg (by omega), if_pos (by omega)], show opY n S1 = ⟨#[]⟩ by unfold opY; rw [if_neg (by omega), if_neg (by omega)], show opN n S1 = 0 by unfold opN; rw [if_neg (by omega), if_neg (by omega)], show opS n S1 = mst (bs S1 3) L by unfold opS; rw [if_neg (by omega), if_pos (by omega), hL]])
  rw [EP.out]
  generalize hS2 : bs S1 3 = S2 at *
  generalize hxx : bl S1 3 = x at *
  have HS2 := Lib.hid hS2
  have HXX := Lib.hid hxx
  have hL3 : L ≤ 3 := by omega
  have HL3 := Lib.hid hL3
  have HLC := Lib.hid hLc
  have q1 : ¬ n < 2 := by omega
  have q2 : n < 5 := hn.2
  clear h hb0 EP eL hL hS2 hxx hx en eS hn hLc
  go_enter Try.func15, Try.ntmps15
  go_wp2_with (first
    | (go_at_call 9; ((with_reducible refine B8.out.mono ?_); rintro e w1 ⟨rfl, h1⟩; have H1 := Lib.hid (HE.out.trans h1); have Z1 := Lib.hid (h1.keep hG2 Z0.out); have N1 : Hid (w.heap.size + 1 ≤ w1.heap.size) := Lib.hid (Nat.le_trans (by simp) h1.size); have H2 := Lib.hid (H1.out.later (alb w1 (.cells #[] 36))); have Z2 := Lib.hid (keep_bel (alb w1 (.cells #[] 36)) Z1.out); have O2 := Lib.hid (heap_alloc_new w1 (.cells #[] 36)); have B3 := Lib.hid (below_d 3 H2.out.1 (by omega)); rw [HXX.out, HS2.out] at B3; clear h1))
    | (go_at_call 9; ((with_reducible refine B3.out.mono ?_); rintro e w3 ⟨rfl, h3⟩; have H3 := Lib.hid (H2.out.trans h3); have Z3 := Lib.hid (h3.keep hG2 Z2.out); have N3 : Hid (w1.heap.size + 1 ≤ w3.heap.size) := Lib.hid (Nat.le_trans (by simp) h3.size); have O3 : Hid (w3.ownsRow w1.heap.size 36 6 (.slice (some ⟨w1.heap.size, 0, none⟩) 0 0) 0 []) := Lib.hid ⟨rfl, .inr ⟨w1.heap.size, 0, #[], rfl, Nat.le_refl _, h3.keep (by have := N1.out; omega) O2.out, by omega, by simp [maxLen], rfl, rfl⟩⟩; clear h3))
    | fail)
  obtain ⟨i0, hi0, hz0, hz1, hz2⟩ := info_parts info36z
  obtain ⟨bo, hbo⟩ : ∃ b, b = w1.heap.size := ⟨_, rfl⟩
  rw [← hbo] at O3 N1 N3 ⊢
  clear hbo H1 H2 O2 Z1 Z2 B3 B8 HE Z0
  go_loopw [4, 5] (fun lv iv wr => ∃ (k : Nat) (A : Option Addr) (c : Nat), k ≤ L ∧ iv = .int .i64 (x - k) ∧ lv = .slice A k c ∧ wr.ownsRow bo 36 6 (.slice A k c) k (mrow S2 k) ∧ wr.heap[w.heap.size]? = some (.cells #[.int .u8 0, .string ⟨#[]⟩, .string ⟨#[]⟩, .int .i64 0, .slice none 0 0] 42 (0, 0)) ∧ Eff 27 g (mst S2 k) w wr ∧ bo ≤ wr.heap.size) (fun _ i _ => (intOf i + 1).toNat)
  case atStart => exact ⟨0, _, _, by omega, by simp, rfl, O3.out, Z3.out, H3.out, by have := N3.out; omega⟩
  case round =>
    obtain ⟨k, A, c, hk, rfl, rfl, ho, hz, he, hsz⟩ := hrel
    have HO := Lib.hid ho
    have HZ := Lib.hid hz
    have HE := Lib.hid he
    have HSZ := Lib.hid hsz
    clear ho hz he hsz H3 Z3 O3 N3
    have hxL := HLC.out
    by_cases h8 : k < L
    · have hk1 : 0 ≤ x - (k : Int) := by omega
      have hk3 : x - (k : Int) ≤ 3 := by omega
      obtain ⟨kd, mk, mt, mv, md, hmv⟩ := mval_form (mst S2 k)
      have CM : Hid (Calls Try.prog 13 #[.pointer (some ⟨g, 0, none⟩)] wr fun e w' => e = .returned (.agg #[.int .u8 kd, .int .i64 0, .string mk, .string mt, .string mv, .int .u64 md]) ∧ Eff 27 g (mst S2 (k + 1)) wr w') := Lib.hid (by rw [← hmv]; exact msg_d HE.out.1)
      have HMR : Hid (mrow S2 (k + 1) = mrow S2 k ++ [.int .u8 kd, .int .i64 0, .string mk, .string mt, .string mv, .int .u64 md]) := Lib.hid (by show mrow S2 k ++ (mval (mst S2 k)).toList = _; rw [hmv])
      have hkL := HL3.out
      have HXL := Lib.hid hxL
      clear hmv hxL
      go_wp2_with (first
        | (go_at_call 13; ((with_reducible refine CM.out.mono ?_); rintro e w3 ⟨rfl, h3⟩; have H3 := Lib.hid (HE.out.trans h3); have OW3 := Lib.hid (own_bel (own_chg HO.out h3.2 (by have := N1.out; omega)) (alb w3 (.cells #[.int .u8 kd, .int .i64 0, .string mk, .string mt, .string mv, .int .u64 md] 36))); have Z3 := Lib.hid (h3.keep hG2 HZ.out); have N3 : Hid (bo ≤ w3.heap.size) := Lib.hid (Nat.le_trans HSZ.out h3.size); have NW := Lib.hid (World.news_of_block (cs := #[.int .u8 kd, .int .i64 0, .string mk, .string mt, .string mv, .int .u64 md]) (t := 36) (fr := (0, 0)) (heap_alloc_new w3 _)); clear h3))
        | (at_builtin; refine wpList_append_lies _ rfl (.tmp 23) (.tmp 26) _ rfl bo 36 i0 _ 6 72 Try.underlying40 hi0 hz0 hz1 hz2 rfl (by omega) (.slice A k c) k (mrow S2 k) rfl OW3.out ⟨w3.heap.size, 0, none⟩ 1 1 [.int .u8 kd, .int .i64 0, .string mk, .string mt, .string mv, .int .u64 md] rfl rfl NW.out (by simp [Value.oneCell']) (by omega) (by simp only [maxLen]; omega) (by omega) (by have := N3.out; simp; omega) (w3.heap.size + 1) (by simp) ?_; intro gg cap w4 hown4 hg4 hat4 hlt4; have HOW4 := Lib.hid hown4; have HGR4 := Lib.hid hg4; have ONE : Hid (∀ x, (Value.slice A k c).ownBlock = some x → bo ≤ x) := Lib.hid (fun x hx => (OW3.out.lt x hx).1); clear hown4 hg4 hat4 hlt4)
        | fail)
      have HN1 := N1.out
      refine ⟨⟨k + 1, _, _, by omega, by congr 1; omega, rfl, ?_, keep_grown HGR4.out (keep_bel (alb w3 (.cells #[.int .u8 kd, .int .i64 0, .string mk, .string mt, .string mv, .int .u64 md] 36)) Z3.out) (fun e => by have := ONE.out _ e; omega), (H3.out.later (alb w3 (.cells #[.int .u8 kd, .int .i64 0, .string mk, .string mt, .string mv, .int .u64 md] 36))).grown HGR4.out (fun x hx => by have := ONE.out x hx; omega) hG, by have h1 := N3.out; have h2 := HGR4.out.size; simp at h2; omega⟩, by simp [intOf]; omega⟩
      rw [HMR.out]; exact HOW4.out
    · have e8 : k = L := by omega
      have hk1 : x - (k : Int) = -1 := by omega
      subst e8
      rw [hk1]
      have HN1 := N1.out
      obtain ⟨A', c', hv, hrd⟩ := RdV.of_own HO.out
      obtain ⟨rfl, rfl⟩ : A = A' ∧ c = c' := by injection hv with h1 h2 h3; exact ⟨h1, h3⟩
      have HRD := Lib.hid hrd
      clear hrd hv
      go_wp2_with (first
        | (refine wpList_store_row rfl 42 (.tmp 2) (.tmp 29) rfl w.heap.size (oc 2 ⟨#[]⟩ 0 (.slice A k c)) rfl rfl 42 _ HZ.out info42 rfl (oc_one _ _ _ _ _ _) ?_)
        | fail)
      refine bodyPost_ret (v := .agg (oc 2 ⟨#[]⟩ 0 (.slice A k c))) (res42 rfl _ _ w.heap.size _ rfl (setRow_heap _ _ _ _ _ _ HZ.out) rfl) rfl ⟨A, c, rfl, HE.out.row (Nat.le_refl _) hG _, ((HRD.out.chg (Chg.of_row wr w.heap.size _) (fun x hx => .inl (by omega))).down (by omega))⟩
theorem op_d {w : World} {g : Nat} {S : Int} (h : Src w 27 g S) : Calls Try.prog 15 #[.pointer (some ⟨g, 0, none⟩)] w (OpPost 27 g (bl S 8) (bs S 8) w) := by
  have hr := bl_range S 8 (by omega)
  by_cases h1 : bl S 8 < 2
  · exact op_d_get h ⟨hr.1, h1⟩ rfl rfl
  · by_cases h2 : bl S 8 < 5
    · exact op_d_batch h ⟨by omega, h2⟩ rfl rfl
    · by_cases h5 : bl S 8 = 5
      · exact op_d_look h h5 rfl rfl
      · by_cases h6 : bl S 8 = 6
        · exact op_d_n6 h h6 rfl rfl
        · exact op_d_n7 h (by omega) rfl rfl
end Go.Proofs.Ytnchpfmpjpnciaa
