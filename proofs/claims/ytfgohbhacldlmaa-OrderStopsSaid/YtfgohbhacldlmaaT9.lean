/- Maps in order: Cut. -/
import Derived.Test.YtfgohbhacldlmaaT8
namespace Go.Proofs.Ytfgohbhacldlmaa
set_option linter.unusedSimpArgs false
open Go.RowKit
set_option linter.unusedVariables false

theorem isT_leaf (w : World) : IsT w none .leaf := rfl
def cutL (f t : ByteArray) (L : List (ByteArray × Int)) : List (ByteArray × Int) := below ltS f L ++ (atk ltS t (above ltS f L) ++ above ltS t (above ltS f L))
theorem cut_len {L : List (ByteArray × Int)} (hs : Srt ltS L) (f t : ByteArray) : (cutL f t L).length ≤ L.length := by
  have h1 := srt_len linS hs f
  have h2 := congrArg List.length (srt_parts linS (hs.filter (fun x => ltS f x.1)) t).1
  simp only [cutL, List.length_append] at *
  simp only [above, below, atk] at *
  omega
set_option maxHeartbeats 1000000 in
set_option maxRecDepth 100000 in
theorem cut_no (N : Nat) (f t : ByteArray) (w : World) (h : ltS f t = false) :
    Calls Try.prog 29 #[.pointer (some ⟨N, 0, none⟩), .string f, .string t] w fun e w' => e = .returned (.int .i64 0) ∧ Below w.heap.size w w' := by
  have C := Lib.hid (cmp_any f t w)
  rcases linS.tri f t with hk | hk | hk
  · rw [h] at hk; cases hk
  · subst hk
    rw [cmp_eq'] at C
    go_enter Try.func29, Try.ntmps29
    go_wp2_with (go_at_call 38; with_reducible refine C.out.mono ?_; clear C; rintro e w0 ⟨rfl, rfl⟩)
    exact bodyPost_ret (v := .int .i64 0) (by simp [results, Try.results29, go_sem]) rfl ⟨rfl, Below.refl _ _⟩
  · rw [cmp_gt' hk] at C
    clear hk h
    go_enter Try.func29, Try.ntmps29
    go_wp2_with (go_at_call 38; with_reducible refine C.out.mono ?_; clear C; rintro e w0 ⟨rfl, rfl⟩)
    exact bodyPost_ret (v := .int .i64 0) (by simp [results, Try.results29, go_sem]) rfl ⟨rfl, Below.refl _ _⟩
set_option maxHeartbeats 4000000 in
set_option maxRecDepth 100000 in
theorem cut_yes (N : Nat) (L : List (ByteArray × Int)) (f t : ByteArray) (w : World) (h : MapIs w N L) (hs : Srt ltS L) (hn : L.length ≤ 1000) (hft : ltS f t = true) :
    Calls Try.prog 29 #[.pointer (some ⟨N, 0, none⟩), .string f, .string t] w fun e w' => e = .returned (.int .i64 ((L.length : Int) - ((cutL f t L).length : Int))) ∧ MapIs w' N (cutL f t L) ∧ w.grownBy w' (some N) := by
  obtain ⟨p, T, h1, h2, rfl⟩ := h
  have C := Lib.hid (cmp_any f t w)
  rw [cmp_lt' hft] at C
  have HB := Lib.hid h1
  have c0 := h1.cell
  have Z := Lib.hid (size_any p T w h2)
  have S1 := Lib.hid (split_any f T p w h2 hs (by omega))
  have hR : Hid (Srt ltS (above ltS f T.inorder)) := Lib.hid (hs.filter (fun x => ltS f x.1))
  have h3 := srt_len linS hs f
  have h4 := cut_len hs f t
  have HN := Lib.hid (show (below ltS f T.inorder).length + (above ltS f T.inorder).length ≤ 1000 ∧ (cutL f t T.inorder).length ≤ 1000 from ⟨by omega, by omega⟩)
  have HC := Lib.hid h4
  have i1 : (T.inorder.length : Int) ≤ 1000 := by omega
  have i2 : (0 : Int) ≤ (T.inorder.length : Int) := by omega
  have i3 : ((cutL f t T.inorder).length : Int) ≤ 1000 := by have := HN.out.2; omega
  have i4 : (0 : Int) ≤ ((cutL f t T.inorder).length : Int) := by omega
  have ha : (above ltS t (above ltS f T.inorder)).length + (atk ltS t (above ltS f T.inorder)).length ≤ (above ltS f T.inorder).length := by
    have := congrArg List.length (srt_parts linS hR.out t).1
    simp only [List.length_append] at this
    simp only [above, below, atk] at *
    omega
  have HA := Lib.hid ha
  clear h1 h2 hs hn hft h3 h4 ha
  rcases hp : atk ltS t (above ltS f T.inorder) with _ | ⟨x, rest⟩
  · have HP := Lib.hid hp
    clear hp
    go_enter Try.func29, Try.ntmps29
    go_wp2_with (first
      | (go_at_call 38; with_reducible refine C.out.mono ?_; clear C; rintro e w0 ⟨rfl, rfl⟩)
      | (go_at_call 36; with_reducible refine Z.out.mono ?_; clear Z; rintro e w0 ⟨rfl, rfl⟩)
      | (go_at_call 40; with_reducible refine S1.out.mono ?_; clear S1; rintro e w1 ⟨⟨q1, q2, q3, T1, T3, rfl, t1, e1, a2, t3, e3⟩, b1⟩; have S2 := Lib.hid (split_any t T3 q3 w1 t3 (by rw [e3]; exact hR.out) (by rw [e3]; have := HN.out.1; omega)); rw [e3] at S2; have T1H := Lib.hid t1; have E1 := Lib.hid e1; have B1 := Lib.hid b1; clear t1 t3 e1 e3 a2 b1)
      | (go_at_call 40; with_reducible refine S2.out.mono ?_; clear S2; rintro e w2 ⟨⟨q4, q5, q6, T4, T6, rfl, t4, e4, a5, t6, e6⟩, b2⟩; obtain rfl := a5.nil HP.out; have J := Lib.hid ((concat_any q1 q6 T1 T6 w2 (T1H.out.later b2) t6 (by rw [E1.out, e6]; have h1 := HN.out.1; have h2 := HA.out; omega)).mono (fun e w' h => set_from (bel_trans B1.out b2) h)); have E6 := Lib.hid e6; clear t4 t6 e4 e6 a5 b2)
      | (go_at_call 47; with_reducible refine J.out.mono ?_; clear J; rintro e w3 ⟨⟨q7, T7, rfl, t7, e7⟩, b3⟩; have d0 := (boxed_later HB.out b3).cell; have d1 := (boxed_later HB.out b3).frozen; have B3 := Lib.hid b3; have H7 := Lib.hid t7; have E7 : Hid (T7.inorder = cutL f t T.inorder) := Lib.hid (by rw [e7, E1.out, E6.out, cutL, HP.out, List.nil_append]); have MS := Lib.hid (map_set HB.out b3 t7); have Z2 := Lib.hid (size_any q7 T7 (w3.setCell ⟨N, 0, none⟩ (.pointer q7)) (t7.grown (grownBy_setCell' _ _ _) (boxed_two (boxed_later HB.out b3)))); rw [E7.out] at Z2; clear b3 t7 e7)
      | (go_at_call 36; with_reducible refine Z2.out.mono ?_; clear Z2; rintro e w4 ⟨rfl, rfl⟩)
      | fail)
    obtain ⟨m1, m2⟩ := MS.out
    rw [E7.out] at m1
    exact bodyPost_ret (v := .int .i64 _) (by simp [results, Try.results29, go_sem]; try rfl) rfl ⟨rfl, m1, m2⟩
  · have HP := Lib.hid hp
    clear hp
    go_enter Try.func29, Try.ntmps29
    go_wp2_with (first
      | (go_at_call 38; with_reducible refine C.out.mono ?_; clear C; rintro e w0 ⟨rfl, rfl⟩)
      | (go_at_call 36; with_reducible refine Z.out.mono ?_; clear Z; rintro e w0 ⟨rfl, rfl⟩)
      | (go_at_call 40; with_reducible refine S1.out.mono ?_; clear S1; rintro e w1 ⟨⟨q1, q2, q3, T1, T3, rfl, t1, e1, a2, t3, e3⟩, b1⟩; have S2 := Lib.hid (split_any t T3 q3 w1 t3 (by rw [e3]; exact hR.out) (by rw [e3]; have := HN.out.1; omega)); rw [e3] at S2; have T1H := Lib.hid t1; have E1 := Lib.hid e1; have B1 := Lib.hid b1; clear t1 t3 e1 e3 a2 b1)
      | (go_at_call 40; with_reducible refine S2.out.mono ?_; clear S2; rintro e w2 ⟨⟨q4, q5, q6, T4, T6, rfl, t4, e4, a5, t6, e6⟩, b2⟩; obtain ⟨bb, rfl, rfl, f0, f1⟩ := a5.cons HP.out; have J0 := Lib.hid (link_any none q6 .leaf T6 x.1 x.2 w2.drew w2.drew (Below.refl _ _) (isT_leaf _) (t6.later (bel_dw (Below.refl _ _))) (by rw [e6]; simp only [Tr.inorder, List.length_nil]; have h1 := HN.out.1; have h2 := HA.out; omega)); have E6 := Lib.hid e6; have T1W := Lib.hid (T1H.out.later b2); have KP : Hid (∀ V, Below w2.heap.size w2 V → V.cell? ⟨bb, 0, none⟩ = some (.string x.1) ∧ V.cell? ⟨bb, 1, none⟩ = some (.int .i64 x.2)) := Lib.hid (fun V hV => ⟨bel_later hV f0, bel_later hV f1⟩); have B2 := Lib.hid (bel_trans B1.out b2); clear t4 t6 e4 e6 a5 b2 f0 f1)
      | fail)
    go_region_held3 (fun W => W.cell? ⟨bb, 0, none⟩ = some (.string x.1) ∧ W.cell? ⟨bb, 1, none⟩ = some (.int .i64 x.2))
      (first | exact KP.out _ (bel_dw (Below.refl _ _)) | exact KP.out _ (by assumption))
      (first
        | (go_at_call 46; with_reducible refine J0.out.mono ?_; clear J0; rintro e w5 ⟨⟨q8, T8, rfl, t8, e8⟩, b5⟩; have b6 : Below w2.heap.size w2 w5 := bel_dr b5; have E8 := Lib.hid e8; have J := Lib.hid ((concat_any q1 q8 T1 T8 w5 (T1W.out.later b6) t8 (by rw [E1.out, e8, E6.out]; simp only [Tr.inorder, List.nil_append, List.length_cons]; have h1 := HN.out.1; have h2 := HA.out; rw [HP.out] at h2; simp at h2; omega)).mono (fun e w' h => set_from (bel_trans B2.out b6) h)); clear t8 e8 b5))
    go_wp2_with (first
      | (go_at_call 47; with_reducible refine J.out.mono ?_; clear J; rintro e w3 ⟨⟨q7, T7, rfl, t7, e7⟩, b3⟩; have d0 := (boxed_later HB.out b3).cell; have d1 := (boxed_later HB.out b3).frozen; have B3 := Lib.hid b3; have H7 := Lib.hid t7; have E7 : Hid (T7.inorder = cutL f t T.inorder) := Lib.hid (by rw [e7, E1.out, E8.out, E6.out, cutL, HP.out]; simp [Tr.inorder]); have MS := Lib.hid (map_set HB.out b3 t7); have Z2 := Lib.hid (size_any q7 T7 (w3.setCell ⟨N, 0, none⟩ (.pointer q7)) (t7.grown (grownBy_setCell' _ _ _) (boxed_two (boxed_later HB.out b3)))); rw [E7.out] at Z2; clear b3 t7 e7)
      | (go_at_call 36; with_reducible refine Z2.out.mono ?_; clear Z2; rintro e w4 ⟨rfl, rfl⟩)
      | fail)
    obtain ⟨m1, m2⟩ := MS.out
    rw [E7.out] at m1
    exact bodyPost_ret (v := .int .i64 _) (by simp [results, Try.results29, go_sem]; try rfl) rfl ⟨rfl, m1, m2⟩
end Go.Proofs.Ytfgohbhacldlmaa
