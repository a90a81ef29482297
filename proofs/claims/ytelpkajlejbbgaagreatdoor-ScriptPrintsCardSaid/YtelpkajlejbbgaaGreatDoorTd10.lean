/- What may be asked: the document's answer, a message. -/
import Derived.Test.YtelpkajlejbbgaaGreatDoorTd08
import Derived.Test.YtelpkajlejbbgaaGreatDoorTd09
set_option linter.unusedVariables false
set_option linter.unusedSimpArgs false
namespace Go.Proofs.YtelpkajlejbbgaaGreatDoor
open Go.RowKit

def ptB (k : Int) : Bool := decide (1 ≤ k) && decide (k ≤ 3)
theorem ret_eq {a b : Int} (h : b = a) : Ending.returned (.int .i64 a) = Ending.returned (.int .i64 b) := by rw [h]
theorem retB_eq {a b : Bool} (h : b = a) : Ending.returned (.bool a) = Ending.returned (.bool b) := by rw [h]
theorem sz0 {s : ByteArray} (h : s.toList = []) : (s.size : Int) = 0 := by
  have : s = ⟨#[]⟩ := bytes_inj (by rw [h, ByteArray.toList_eq])
  subst this; rfl
theorem m4_bad {dl a0 a1 : Int} {key too val : ByteArray} (h1 : val.toList = []) (h2 : dl = 0) (h3 : (key.size : Int) ≤ a0) (h4 : (too.size : Int) ≤ a0) (h5 : ¬too.toList = [])
    (h6 : (!too.toList.isEmpty) = true ∧ (Op.bytesLess too.toList key.toList = true ∨ (too.toList == key.toList) = true)) : mF 4 dl a0 a1 key too val = 7 := by
  have h := (bl_ge _ _).1 h6.2
  have hs : sbS key too = false := by simp [sbS, emp, ltS, h, h5]
  simp [mF, h1, h2, hs]
  omega
theorem m4_ok {dl a0 a1 : Int} {key too val : ByteArray} (h1 : val.toList = []) (h2 : dl = 0) (h3 : (key.size : Int) ≤ a0) (h4 : (too.size : Int) ≤ a0) (h5 : ¬too.toList = [])
    (h6 : (!too.toList.isEmpty) = false ∨ Op.bytesLess too.toList key.toList = false ∧ (too.toList == key.toList) = false) : mF 4 dl a0 a1 key too val = 0 := by
  rcases h6 with h6 | h6
  · simp [h5] at h6
  have h := (bl_gt _ _).1 h6
  have hs : sbS key too = true := by simp [sbS, emp, ltS, h]
  simp [mF, h1, h2, hs]
  omega
theorem pt_any (k q dl : Int) (key too val : ByteArray) (w : World) :
    Calls Tryz.prog 73 #[.agg #[.int .u8 k, .int .i64 q, .string key, .string too, .string val, .int .u64 dl]] w fun e w' => e = .returned (.bool (ptB k)) ∧ Below w.heap.size w w' := by
  go_enter Tryz.func73, Tryz.ntmps73
  go_wp2
  all_goals
    go_ret
    refine ⟨?_, by go_grown⟩
    refine retB_eq ?_
    simp only [ptB]
    first
    | (simp_all; done)
    | (simp; omega)
set_option maxRecDepth 100000 in
set_option maxHeartbeats 4000000 in
theorem rmsg_1 (q dl a0 a1 a2 a3 a4 a5 a6 a7 a8 : Int) (key too val : ByteArray) (w : World) :
    Calls Tryz.prog 60 #[.agg #[.int .u8 1, .int .i64 q, .string key, .string too, .string val, .int .u64 dl], .agg #[.int .i64 a0, .int .i64 a1, .int .i64 a2, .int .i64 a3, .int .i64 a4, .int .i64 a5, .int .i64 a6, .int .i64 a7, .int .i64 a8]] w fun e w' => e = .returned (.int .i64 (mF 1 dl a0 a1 key too val)) ∧ Below w.heap.size w w' := by
  obtain ⟨r, hr⟩ : ∃ r, r = mF 1 dl a0 a1 key too val := ⟨_, rfl⟩
  rw [← hr]
  have HR := Lib.hid hr
  clear hr
  have C := Lib.hid (fun dl w => pt_any 1 q dl key too val w)
  go_enter Tryz.func60, Tryz.ntmps60
  go_wp2_with (go_at_call 73; refine (C.out _ _).mono ?_; rintro e w1 ⟨rfl, hb⟩; have b1 : Below w.heap.size w w1 := (Below.trans (by go_grown) (hb.mono (by simp; try omega))); have d0 := bel_later hb (b := w.heap.size) (o := 0) (by simp [go_sem]; rfl); have d2 := bel_later hb (b := w.heap.size) (o := 2) (by simp [go_sem]; rfl); have d3 := bel_later hb (b := w.heap.size) (o := 3) (by simp [go_sem]; rfl); have d4 := bel_later hb (b := w.heap.size) (o := 4) (by simp [go_sem]; rfl); have x0 := bel_later hb (b := w.heap.size + 1) (o := 0) (by simp [go_sem]; rfl); have x1 := bel_later hb (b := w.heap.size + 1) (o := 1) (by simp [go_sem]; rfl); clear hb; simp only [ptB] at *)
  all_goals
    go_ret
    refine ⟨?_, by first | assumption | go_grown⟩
    refine ret_eq ?_
    rw [HR.out]
    clear HR C
    have z := sz0 (s := too)
    first
    | (simp_all [mF, rightS, sbS, ltS, emp]; done)
    | (simp_all [mF, rightS, sbS, ltS, emp]; omega)
    | (exfalso; simp_all; omega)
    | exact m4_bad (by assumption) (by assumption) (by omega) (by omega) (by assumption) (by assumption)
    | exact m4_ok (by assumption) (by assumption) (by omega) (by omega) (by assumption) (by assumption)
    | (simp [mF, rightS, sbS, ltS, emp, *]; done)
    | (trace_state; fail)
set_option maxRecDepth 100000 in
set_option maxHeartbeats 4000000 in
theorem rmsg_2 (q dl a0 a1 a2 a3 a4 a5 a6 a7 a8 : Int) (key too val : ByteArray) (w : World) :
    Calls Tryz.prog 60 #[.agg #[.int .u8 2, .int .i64 q, .string key, .string too, .string val, .int .u64 dl], .agg #[.int .i64 a0, .int .i64 a1, .int .i64 a2, .int .i64 a3, .int .i64 a4, .int .i64 a5, .int .i64 a6, .int .i64 a7, .int .i64 a8]] w fun e w' => e = .returned (.int .i64 (mF 2 dl a0 a1 key too val)) ∧ Below w.heap.size w w' := by
  obtain ⟨r, hr⟩ : ∃ r, r = mF 2 dl a0 a1 key too val := ⟨_, rfl⟩
  rw [← hr]
  have HR := Lib.hid hr
  clear hr
  have C := Lib.hid (fun dl w => pt_any 2 q dl key too val w)
  go_enter Tryz.func60, Tryz.ntmps60
  go_wp2_with (go_at_call 73; refine (C.out _ _).mono ?_; rintro e w1 ⟨rfl, hb⟩; have b1 : Below w.heap.size w w1 := (Below.trans (by go_grown) (hb.mono (by simp; try omega))); have d0 := bel_later hb (b := w.heap.size) (o := 0) (by simp [go_sem]; rfl); have d2 := bel_later hb (b := w.heap.size) (o := 2) (by simp [go_sem]; rfl); have d3 := bel_later hb (b := w.heap.size) (o := 3) (by simp [go_sem]; rfl); have d4 := bel_later hb (b := w.heap.size) (o := 4) (by simp [go_sem]; rfl); have x0 := bel_later hb (b := w.heap.size + 1) (o := 0) (by simp [go_sem]; rfl); have x1 := bel_later hb (b := w.heap.size + 1) (o := 1) (by simp [go_sem]; rfl); clear hb; simp only [ptB] at *)
  all_goals
    go_ret
    refine ⟨?_, by first | assumption | go_grown⟩
    refine ret_eq ?_
    rw [HR.out]
    clear HR C
    have z := sz0 (s := too)
    first
    | (simp_all [mF, rightS, sbS, ltS, emp]; done)
    | (simp_all [mF, rightS, sbS, ltS, emp]; omega)
    | (exfalso; simp_all; omega)
    | exact m4_bad (by assumption) (by assumption) (by omega) (by omega) (by assumption) (by assumption)
    | exact m4_ok (by assumption) (by assumption) (by omega) (by omega) (by assumption) (by assumption)
    | (simp [mF, rightS, sbS, ltS, emp, *]; done)
    | (trace_state; fail)
set_option maxRecDepth 100000 in
set_option maxHeartbeats 4000000 in
theorem rmsg_3 (q dl a0 a1 a2 a3 a4 a5 a6 a7 a8 : Int) (key too val : ByteArray) (w : World) :
    Calls Tryz.prog 60 #[.agg #[.int .u8 3, .int .i64 q, .string key, .string too, .string val, .int .u64 dl], .agg #[.int .i64 a0, .int .i64 a1, .int .i64 a2, .int .i64 a3, .int .i64 a4, .int .i64 a5, .int .i64 a6, .int .i64 a7, .int .i64 a8]] w fun e w' => e = .returned (.int .i64 (mF 3 dl a0 a1 key too val)) ∧ Below w.heap.size w w' := by
  obtain ⟨r, hr⟩ : ∃ r, r = mF 3 dl a0 a1 key too val := ⟨_, rfl⟩
  rw [← hr]
  have HR := Lib.hid hr
  clear hr
  have C := Lib.hid (fun dl w => pt_any 3 q dl key too val w)
  go_enter Tryz.func60, Tryz.ntmps60
  go_wp2_with (go_at_call 73; refine (C.out _ _).mono ?_; rintro e w1 ⟨rfl, hb⟩; have b1 : Below w.heap.size w w1 := (Below.trans (by go_grown) (hb.mono (by simp; try omega))); have d0 := bel_later hb (b := w.heap.size) (o := 0) (by simp [go_sem]; rfl); have d2 := bel_later hb (b := w.heap.size) (o := 2) (by simp [go_sem]; rfl); have d3 := bel_later hb (b := w.heap.size) (o := 3) (by simp [go_sem]; rfl); have d4 := bel_later hb (b := w.heap.size) (o := 4) (by simp [go_sem]; rfl); have x0 := bel_later hb (b := w.heap.size + 1) (o := 0) (by simp [go_sem]; rfl); have x1 := bel_later hb (b := w.heap.size + 1) (o := 1) (by simp [go_sem]; rfl); clear hb; simp only [ptB] at *)
  all_goals
    go_ret
    refine ⟨?_, by first | assumption | go_grown⟩
    refine ret_eq ?_
    rw [HR.out]
    clear HR C
    have z := sz0 (s := too)
    first
    | (simp_all [mF, rightS, sbS, ltS, emp]; done)
    | (simp_all [mF, rightS, sbS, ltS, emp]; omega)
    | (exfalso; simp_all; omega)
    | exact m4_bad (by assumption) (by assumption) (by omega) (by omega) (by assumption) (by assumption)
    | exact m4_ok (by assumption) (by assumption) (by omega) (by omega) (by assumption) (by assumption)
    | (simp [mF, rightS, sbS, ltS, emp, *]; done)
    | (trace_state; fail)
set_option maxRecDepth 100000 in
set_option maxHeartbeats 4000000 in
theorem rmsg_4 (q dl a0 a1 a2 a3 a4 a5 a6 a7 a8 : Int) (key too val : ByteArray) (w : World) :
    Calls Tryz.prog 60 #[.agg #[.int .u8 4, .int .i64 q, .string key, .string too, .string val, .int .u64 dl], .agg #[.int .i64 a0, .int .i64 a1, .int .i64 a2, .int .i64 a3, .int .i64 a4, .int .i64 a5, .int .i64 a6, .int .i64 a7, .int .i64 a8]] w fun e w' => e = .returned (.int .i64 (mF 4 dl a0 a1 key too val)) ∧ Below w.heap.size w w' := by
  obtain ⟨r, hr⟩ : ∃ r, r = mF 4 dl a0 a1 key too val := ⟨_, rfl⟩
  rw [← hr]
  have HR := Lib.hid hr
  clear hr
  have C := Lib.hid (fun dl w => pt_any 4 q dl key too val w)
  go_enter Tryz.func60, Tryz.ntmps60
  go_wp2_with (go_at_call 73; refine (C.out _ _).mono ?_; rintro e w1 ⟨rfl, hb⟩; have b1 : Below w.heap.size w w1 := (Below.trans (by go_grown) (hb.mono (by simp; try omega))); have d0 := bel_later hb (b := w.heap.size) (o := 0) (by simp [go_sem]; rfl); have d2 := bel_later hb (b := w.heap.size) (o := 2) (by simp [go_sem]; rfl); have d3 := bel_later hb (b := w.heap.size) (o := 3) (by simp [go_sem]; rfl); have d4 := bel_later hb (b := w.heap.size) (o := 4) (by simp [go_sem]; rfl); have x0 := bel_later hb (b := w.heap.size + 1) (o := 0) (by simp [go_sem]; rfl); have x1 := bel_later hb (b := w.heap.size + 1) (o := 1) (by simp [go_sem]; rfl); clear hb; simp only [ptB] at *)
  all_goals
    go_ret
    refine ⟨?_, by first | assumption | go_grown⟩
    refine ret_eq ?_
    rw [HR.out]
    clear HR C
    have z := sz0 (s := too)
    first
    | (simp_all [mF, rightS, sbS, ltS, emp]; done)
    | (simp_all [mF, rightS, sbS, ltS, emp]; omega)
    | (exfalso; simp_all; omega)
    | exact m4_bad (by assumption) (by assumption) (by omega) (by omega) (by assumption) (by assumption)
    | exact m4_ok (by assumption) (by assumption) (by omega) (by omega) (by assumption) (by assumption)
    | (simp [mF, rightS, sbS, ltS, emp, *]; done)
    | (trace_state; fail)
set_option maxRecDepth 100000 in
set_option maxHeartbeats 4000000 in
theorem rmsg_lo (k q dl a0 a1 a2 a3 a4 a5 a6 a7 a8 : Int) (key too val : ByteArray) (w : World) (hk : k < 1) :
    Calls Tryz.prog 60 #[.agg #[.int .u8 k, .int .i64 q, .string key, .string too, .string val, .int .u64 dl], .agg #[.int .i64 a0, .int .i64 a1, .int .i64 a2, .int .i64 a3, .int .i64 a4, .int .i64 a5, .int .i64 a6, .int .i64 a7, .int .i64 a8]] w fun e w' => e = .returned (.int .i64 (mF k dl a0 a1 key too val)) ∧ Below w.heap.size w w' := by
  obtain ⟨r, hr⟩ : ∃ r, r = mF k dl a0 a1 key too val := ⟨_, rfl⟩
  rw [← hr]
  have HR := Lib.hid hr
  clear hr
  have C := Lib.hid (fun dl w => pt_any k q dl key too val w)
  go_enter Tryz.func60, Tryz.ntmps60
  go_wp2_with (go_at_call 73; refine (C.out _ _).mono ?_; rintro e w1 ⟨rfl, hb⟩; have b1 : Below w.heap.size w w1 := (Below.trans (by go_grown) (hb.mono (by simp; try omega))); have d0 := bel_later hb (b := w.heap.size) (o := 0) (by simp [go_sem]; rfl); have d2 := bel_later hb (b := w.heap.size) (o := 2) (by simp [go_sem]; rfl); have d3 := bel_later hb (b := w.heap.size) (o := 3) (by simp [go_sem]; rfl); have d4 := bel_later hb (b := w.heap.size) (o := 4) (by simp [go_sem]; rfl); have x0 := bel_later hb (b := w.heap.size + 1) (o := 0) (by simp [go_sem]; rfl); have x1 := bel_later hb (b := w.heap.size + 1) (o := 1) (by simp [go_sem]; rfl); clear hb; simp only [ptB] at *)
  all_goals
    go_ret
    refine ⟨?_, by first | assumption | go_grown⟩
    refine ret_eq ?_
    rw [HR.out]
    clear HR C
    have z := sz0 (s := too)
    first
    | (simp_all [mF, rightS, sbS, ltS, emp]; done)
    | (simp_all [mF, rightS, sbS, ltS, emp]; omega)
    | (exfalso; simp_all; omega)
    | exact m4_bad (by assumption) (by assumption) (by omega) (by omega) (by assumption) (by assumption)
    | exact m4_ok (by assumption) (by assumption) (by omega) (by omega) (by assumption) (by assumption)
    | (simp [mF, rightS, sbS, ltS, emp, *]; done)
    | (trace_state; fail)
set_option maxRecDepth 100000 in
set_option maxHeartbeats 4000000 in
theorem rmsg_hi (k q dl a0 a1 a2 a3 a4 a5 a6 a7 a8 : Int) (key too val : ByteArray) (w : World) (hk : 4 < k) :
    Calls Tryz.prog 60 #[.agg #[.int .u8 k, .int .i64 q, .string key, .string too, .string val, .int .u64 dl], .agg #[.int .i64 a0, .int .i64 a1, .int .i64 a2, .int .i64 a3, .int .i64 a4, .int .i64 a5, .int .i64 a6, .int .i64 a7, .int .i64 a8]] w fun e w' => e = .returned (.int .i64 (mF k dl a0 a1 key too val)) ∧ Below w.heap.size w w' := by
  obtain ⟨r, hr⟩ : ∃ r, r = mF k dl a0 a1 key too val := ⟨_, rfl⟩
  rw [← hr]
  have HR := Lib.hid hr
  clear hr
  have C := Lib.hid (fun dl w => pt_any k q dl key too val w)
  go_enter Tryz.func60, Tryz.ntmps60
  go_wp2_with (go_at_call 73; refine (C.out _ _).mono ?_; rintro e w1 ⟨rfl, hb⟩; have b1 : Below w.heap.size w w1 := (Below.trans (by go_grown) (hb.mono (by simp; try omega))); have d0 := bel_later hb (b := w.heap.size) (o := 0) (by simp [go_sem]; rfl); have d2 := bel_later hb (b := w.heap.size) (o := 2) (by simp [go_sem]; rfl); have d3 := bel_later hb (b := w.heap.size) (o := 3) (by simp [go_sem]; rfl); have d4 := bel_later hb (b := w.heap.size) (o := 4) (by simp [go_sem]; rfl); have x0 := bel_later hb (b := w.heap.size + 1) (o := 0) (by simp [go_sem]; rfl); have x1 := bel_later hb (b := w.heap.size + 1) (o := 1) (by simp [go_sem]; rfl); clear hb; simp only [ptB] at *)
  all_goals
    go_ret
    refine ⟨?_, by first | assumption | go_grown⟩
    refine ret_eq ?_
    rw [HR.out]
    clear HR C
    have z := sz0 (s := too)
    first
    | (simp_all [mF, rightS, sbS, ltS, emp]; done)
    | (simp_all [mF, rightS, sbS, ltS, emp]; omega)
    | (exfalso; simp_all; omega)
    | exact m4_bad (by assumption) (by assumption) (by omega) (by omega) (by assumption) (by assumption)
    | exact m4_ok (by assumption) (by assumption) (by omega) (by omega) (by assumption) (by assumption)
    | (simp [mF, rightS, sbS, ltS, emp, *]; done)
    | (trace_state; fail)
end Go.Proofs.YtelpkajlejbbgaaGreatDoor
