/- Pivots: what must be whatever is asked. -/
import Derived.Test.YtngldfheneegcaaP9
import Derived.Test.YtngldfheneegcaaQ2
namespace Go.Proofs.Ytngldfheneegcaa
set_option linter.unusedSimpArgs false
open Go.RowKit
set_option linter.unusedVariables false

abbrev dS : ByteArray := ⟨#[100]⟩
abbrev mS : ByteArray := ⟨#[109]⟩
abbrev dm : List ByteArray := [dS, mS]
theorem dm_right : rightB dm emptyS emptyS = true := by
  simp [rightB, inK, risesB, riseK, at_, sb, emp, lt, ByteArray.toList_eq, Op.bytesLess]
theorem dm_c : prt dm ⟨#[99]⟩ = 0 := by simp [prt, prtK, at_, lt, ByteArray.toList_eq, Op.bytesLess]
theorem dm_d : prt dm ⟨#[100]⟩ = 1 := by simp [prt, prtK, at_, lt, ByteArray.toList_eq, Op.bytesLess]
theorem dm_z : prt dm ⟨#[122]⟩ = 2 := by simp [prt, prtK, at_, lt, ByteArray.toList_eq, Op.bytesLess]
theorem dm_meets : mts ⟨#[98]⟩ ⟨#[101]⟩ (upto dm emptyS emptyS (many dm emptyS emptyS)) = (0, 2) := by
  have e : many dm emptyS emptyS = 3 := by unfold many; rw [if_pos dm_right]; rfl
  rw [e]
  simp [mts, mtS, upto, prtOf, pF, pT, at_, meetF, meetE, sb, emp, lt, maxS, firstS, bef, ByteArray.toList_eq, List.range_succ, Op.bytesLess]
theorem dm_span : spv dm emptyS emptyS 1 = .tuple #[.agg #[.string dS, .string mS], .bool true] := by
  have e : spanB dm emptyS emptyS 1 = true := by unfold spanB; rw [dm_right]; rfl
  unfold spv spanF
  rw [e]
  rfl
set_option maxHeartbeats 1000000 in
theorem live_any (w : World) : Calls Try.prog 12 #[] w fun e w' => e = .returned (.bool true) ∧ Below w.heap.size w w' := by
  have B0 : Hid (Below w.heap.size w (w.alloc (.cells #[.string dS, .string mS] 9))) := Lib.hid (by go_grown)
  have hr : RdS (w.alloc (.cells #[.string dS, .string mS] 9)) (some ⟨w.heap.size, 0, none⟩) dm := .inr ⟨w.heap.size, 0, rfl, by simp, fun j u hj => by
    match j, hj with
    | 0, hj => simp at hj; subst hj; simp [go_sem]
    | 1, hj => simp at hj; subst hj; simp [go_sem]⟩
  have ME := Lib.hid (meets_any (some ⟨w.heap.size, 0, none⟩) dm 2 2 emptyS emptyS ⟨#[98]⟩ ⟨#[101]⟩ _ rfl (by decide) hr)
  rw [dm_meets] at ME
  have SP := Lib.hid (fun W (hb : Below (w.alloc (.cells #[.string dS, .string mS] 9)).heap.size (w.alloc (.cells #[.string dS, .string mS] 9)) W) => span_any (some ⟨w.heap.size, 0, none⟩) dm 2 2 emptyS emptyS 1 W rfl (by decide) (Rd.later hr hb))
  have PC := Lib.hid (fun W (hb : Below (w.alloc (.cells #[.string dS, .string mS] 9)).heap.size (w.alloc (.cells #[.string dS, .string mS] 9)) W) => part_any (some ⟨w.heap.size, 0, none⟩) dm 2 2 ⟨#[99]⟩ W rfl (by decide) (Rd.later hr hb))
  have PD := Lib.hid (fun W (hb : Below (w.alloc (.cells #[.string dS, .string mS] 9)).heap.size (w.alloc (.cells #[.string dS, .string mS] 9)) W) => part_any (some ⟨w.heap.size, 0, none⟩) dm 2 2 ⟨#[100]⟩ W rfl (by decide) (Rd.later hr hb))
  have PZ := Lib.hid (fun W (hb : Below (w.alloc (.cells #[.string dS, .string mS] 9)).heap.size (w.alloc (.cells #[.string dS, .string mS] 9)) W) => part_any (some ⟨w.heap.size, 0, none⟩) dm 2 2 ⟨#[122]⟩ W rfl (by decide) (Rd.later hr hb))
  have RI := Lib.hid (fun W (hb : Below (w.alloc (.cells #[.string dS, .string mS] 9)).heap.size (w.alloc (.cells #[.string dS, .string mS] 9)) W) => right_any (some ⟨w.heap.size, 0, none⟩) dm 2 2 emptyS emptyS W rfl (by decide) (Rd.later hr hb))
  rw [dm_c] at PC
  rw [dm_d] at PD
  rw [dm_z] at PZ
  rw [dm_right] at RI
  clear hr
  go_enter Try.func12, Try.ntmps12
  have HS := Lib.hid dm_span
  go_wp2_with (first
    | (go_at_call 10; ((with_reducible refine ME.out.mono ?_); rintro e w1 ⟨rfl, b1⟩; have C1 := Lib.hid b1; clear b1))
    | (go_at_call 9; ((with_reducible refine (SP.out _ C1.out).mono ?_); rintro e w2 ⟨rfl, b2⟩; rw [HS.out]; have C2 := Lib.hid (bel_alloc (C1.out.trans (b2.mono C1.out.size)) (rgc dS mS)); have d0 := (rgcell (w := w2) dS mS).1; have d1 := (rgcell (w := w2) dS mS).2; clear b2))
    | (go_at_call 17; ((with_reducible refine (PC.out _ C2.out).mono ?_); rintro e w3 ⟨rfl, b3⟩; have C3 := Lib.hid (C2.out.trans (b3.mono C2.out.size)); have d2 := bel_later b3 d0; have d3 := bel_later b3 d1; clear b3 d0 d1))
    | (go_at_call 17; ((with_reducible refine (PD.out _ C3.out).mono ?_); rintro e w4 ⟨rfl, b4⟩; have C4 := Lib.hid (C3.out.trans (b4.mono C3.out.size)); have d4 := bel_later b4 d2; have d5 := bel_later b4 d3; clear b4 d2 d3))
    | (go_at_call 17; ((with_reducible refine (PZ.out _ C4.out).mono ?_); rintro e w5 ⟨rfl, b5⟩; have C5 := Lib.hid (C4.out.trans (b5.mono C4.out.size)); have d6 := bel_later b5 d4; have d7 := bel_later b5 d5; clear b5 d4 d5))
    | (go_at_call 14; ((with_reducible refine (RI.out _ C5.out).mono ?_); rintro e w6 ⟨rfl, b6⟩; have C6 := Lib.hid (C5.out.trans (b6.mono C5.out.size)); clear b6))
    | fail)
  exact bodyPost_ret (v := .bool true) (by simp [results, Try.results12, go_sem]) rfl ⟨rfl, B0.out.trans (C6.out.mono B0.out.size)⟩
end Go.Proofs.Ytngldfheneegcaa
