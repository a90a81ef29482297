/- Texts of the proof, one behind the other. -/
import Derived.Test.YtdebedeebmmleaaGreatDoorTc17
import Derived.Test.YtdebedeebmmleaaGreatDoorTc02
set_option linter.unusedVariables false
set_option linter.unusedSimpArgs false
namespace Go.Proofs.YtdebedeebmmleaaGreatDoor
open Go.RowKit Go.Maps
/-- The place of the node that comes next. -/
def begB (n z : Nat) (s : ByteArray) : Option Nat := (rgB ((z : Int) + 1) ((n : Int) - 1) s).map Int.toNat
theorem beg_none {n z : Nat} {s : ByteArray} (h : begB n z s = none) : rgB ((z : Int) + 1) ((n : Int) - 1) s = none := by
  unfold begB at h
  cases hq : rgB ((z : Int) + 1) ((n : Int) - 1) s with
  | none => rfl
  | some q => rw [hq] at h; cases h
theorem beg_some {n z v : Nat} {s : ByteArray} (h : begB n z s = some v) : rgB ((z : Int) + 1) ((n : Int) - 1) s = some (v : Int) := by
  unfold begB at h
  cases hq : rgB ((z : Int) + 1) ((n : Int) - 1) s with
  | none => rw [hq] at h; cases h
  | some q =>
    rw [hq] at h
    have hr := rg_in hq
    injection h with h
    congr 1
    omega
/-- A line of the body. -/
def bodyF (n z : Nat) (ys : List NdV) (ws : List ByteArray) : Option (Nat × List NdV) :=
  if ws[0]? = some ⟨#[108, 101, 97, 102]⟩ then
    if ws.length = 2 then (begB n z (wdA ws 1)).map fun v => (v, ys.set v ⟨1, [], [], [], []⟩) else none
  else if ws[0]? = some ⟨#[105, 110, 110, 101, 114]⟩ then
    if 3 ≤ ws.length ∧ ws.length % 2 = 1 then (begB n z (wdA ws 1)).bind fun v => (inB true (ws.drop 2)).map fun x => (v, ys.set v ⟨2, x.1, x.2, [], []⟩) else none
  else if ws[0]? = some ⟨#[98, 108, 111, 99, 107]⟩ then
    if z = 0 then none else (ys[z]?).bind fun y => if y.k = 1 then (entB (ws.drop 1)).map fun l => (z, ys.set z { y with bl := y.bl ++ [l] }) else none
  else
    if z = 0 then none else (ys[z]?).bind fun y => if y.k = 2 then (mgB ws).map fun a => (z, ys.set z { y with ms := y.ms ++ [a] }) else none
theorem body_any {B lo nb g n z m : Nat} {t : ByteArray} {ln : Int} {O : Nat → Nat × Nat} {ns : List NC} {ys : List NdV} {w : World} {b : Nat} {ws : List ByteArray} (hS : BSt B lo nb g n z t ln O ns ys w) (hzn : z = 0 ∨ z < n) (hA : ES.Rd w (some ⟨b, 0, none⟩) ws) (hm : ws.length = m) (hmp : 0 < m) (hm9 : m ≤ 900000) (hs : ∀ i, (wdA ws i).size ≤ 1000000) (hs2 : ∀ x ∈ ws, x.size ≤ 1000000) (hO : b ≠ nb ∧ b ≠ g ∧ b < w.heap.size ∧ (O b).2 = 0) (hc : ∀ y ∈ ys, y.ms.length ≤ 1000000 ∧ y.bl.length ≤ 1000000) :
    Calls Tryz.prog 32 #[.pointer (some ⟨g, 0, none⟩), .slice (some ⟨b, 0, none⟩) m m] w (RBd B lo nb g n t ln w O (bodyF n z ys ws)) := by
  have hnode : ¬ z = 0 → ∃ x y, ns[z]? = some x ∧ ys[z]? = some y := fun h => by
    have h1 : z < n := by omega
    have h2 := hS.lt.2.2.2.2.2.2
    have h3 := hS.st.len
    exact ⟨ns[z], ys[z], List.getElem?_eq_getElem (by omega), List.getElem?_eq_getElem (by omega)⟩
  have hs1 : (wdA ws 1).size ≤ 4000000 := Nat.le_trans (hs 1) (by omega)
  unfold bodyF
  by_cases h1 : ws[0]? = some ⟨#[108, 101, 97, 102]⟩
  · rw [if_pos h1]
    by_cases hl : ws.length = 2
    · rw [if_pos hl]
      cases hv : begB n z (wdA ws 1) with
      | none => exact leaf_bad hS hA hm h1 (by omega) hs1 (beg_none hv)
      | some v => exact leaf_ok hS hA hm h1 (by omega) hs1 (beg_some hv)
    · rw [if_neg hl]
      exact leaf_len hS hA hm h1 (by omega)
  rw [if_neg h1]
  by_cases h2 : ws[0]? = some ⟨#[105, 110, 110, 101, 114]⟩
  · rw [if_pos h2]
    by_cases hl : 3 ≤ ws.length ∧ ws.length % 2 = 1
    · rw [if_pos hl]
      cases hv : begB n z (wdA ws 1) with
      | none => exact inner_bad hS hA hm h2 (by omega) (by omega) hs (beg_none hv)
      | some v => exact inner_any hS hA hm h2 (by omega) (by omega) hm9 hs hs2 hO (beg_some hv)
    · rw [if_neg hl]
      by_cases h3 : m < 3
      · exact inner_short hS hA hm h2 h3
      · exact inner_even hS hA hm h2 (by omega) (by omega)
  rw [if_neg h2]
  by_cases h3 : ws[0]? = some ⟨#[98, 108, 111, 99, 107]⟩
  · rw [if_pos h3]
    by_cases hz : z = 0
    · rw [if_pos hz]
      exact block_none hS hA hm h3 hz
    · rw [if_neg hz]
      obtain ⟨x, y, hx, hy⟩ := hnode hz
      rw [hy, Option.bind_some]
      by_cases hk : y.k = 1
      · rw [if_pos hk]
        by_cases hm1 : m = 1
        · subst hm1
          exact block_one hS hA hm h3 (by omega) hx hy hk (hc y (List.mem_of_getElem? hy)).2 hs2
        · exact block_more hS hA hm h3 hm1 hm9 (by omega) hx hy hk (hc y (List.mem_of_getElem? hy)).2 hs2
      · rw [if_neg hk]
        exact block_other hS hA hm h3 (by omega) hx hy hk
  rw [if_neg h3]
  by_cases hz : z = 0
  · rw [if_pos hz]
    exact msg_none hS hA hm hmp h1 h2 h3 hz
  · rw [if_neg hz]
    obtain ⟨x, y, hx, hy⟩ := hnode hz
    rw [hy, Option.bind_some]
    by_cases hk : y.k = 2
    · rw [if_pos hk]
      exact msg_any hS hA hm hmp h1 h2 h3 (by omega) hx hy hk (hc y (List.mem_of_getElem? hy)).1 (by omega) hs
    · rw [if_neg hk]
      exact msg_other hS hA hm hmp h1 h2 h3 (by omega) hx hy hk
end Go.Proofs.YtdebedeebmmleaaGreatDoor
namespace Go.Proofs.YtdebedeebmmleaaGreatDoor
open Go.RowKit

set_option maxRecDepth 100000 in
set_option maxHeartbeats 2000000 in
theorem mchk_1t (q dl a0 a1 a2 a3 a4 a5 a6 a7 a8 : Int) (key too val : ByteArray) (w : World)  (hT : ¬ too.toList = []) :
    Calls Tryz.prog 81 #[.agg #[.int .u8 1, .int .i64 q, .string key, .string too, .string val, .int .u64 dl], cfg a0 a1 a2 a3 a4 a5 a6 a7 a8] w fun e w' => e = .returned (.int .i64 (3)) ∧ Below w.heap.size w w' := by
  have C := Lib.hid (fun w => mpure_1 q dl key too val w)
  go_enter Tryz.func81, Tryz.ntmps81
  go_wp2_with fail
  obtain ⟨W, hWW⟩ : ∃ W, W = (w.alloc (.cells #[.int .u8 1, .int .i64 q, .string key, .string too, .string val, .int .u64 dl] 73)).alloc (.cells #[.int .i64 a0, .int .i64 a1, .int .i64 a2, .int .i64 a3, .int .i64 a4, .int .i64 a5, .int .i64 a6, .int .i64 a7, .int .i64 a8] 115) := ⟨_, rfl⟩
  have e0 : W.cell? ⟨w.heap.size, 0, none⟩ = some (.int .u8 1) := by rw [hWW]; simp [go_sem]
  have e1 : W.cell? ⟨w.heap.size, 1, none⟩ = some (.int .i64 q) := by rw [hWW]; simp [go_sem]
  have e2 : W.cell? ⟨w.heap.size, 2, none⟩ = some (.string key) := by rw [hWW]; simp [go_sem]
  have e3 : W.cell? ⟨w.heap.size, 3, none⟩ = some (.string too) := by rw [hWW]; simp [go_sem]
  have e4 : W.cell? ⟨w.heap.size, 4, none⟩ = some (.string val) := by rw [hWW]; simp [go_sem]
  have e5 : W.cell? ⟨w.heap.size, 5, none⟩ = some (.int .u64 dl) := by rw [hWW]; simp [go_sem]
  have e6 : W.cell? ⟨w.heap.size + 1, 0, none⟩ = some (.int .i64 a0) := by rw [hWW]; simp [go_sem]
  have e7 : W.cell? ⟨w.heap.size + 1, 1, none⟩ = some (.int .i64 a1) := by rw [hWW]; simp [go_sem]
  have hW : Below w.heap.size w W := by rw [hWW]; go_grown
  have hS : w.heap.size ≤ W.heap.size := hW.size
  rw [← hWW]
  clear hWW
  go_region_with (go_at_call 98; (with_reducible refine (C.out _).mono ?_); rintro e w1 ⟨rfl, hb⟩; have d0 : w1.cell? ⟨w.heap.size, 0, none⟩ = some (.int .u8 1) := (by first | exact bel_later hb e0 | exact bel_later (bel_dr hb) e0); have d1 : w1.cell? ⟨w.heap.size, 1, none⟩ = some (.int .i64 q) := (by first | exact bel_later hb e1 | exact bel_later (bel_dr hb) e1); have d2 : w1.cell? ⟨w.heap.size, 2, none⟩ = some (.string key) := (by first | exact bel_later hb e2 | exact bel_later (bel_dr hb) e2); have d3 : w1.cell? ⟨w.heap.size, 3, none⟩ = some (.string too) := (by first | exact bel_later hb e3 | exact bel_later (bel_dr hb) e3); have d4 : w1.cell? ⟨w.heap.size, 4, none⟩ = some (.string val) := (by first | exact bel_later hb e4 | exact bel_later (bel_dr hb) e4); have d5 : w1.cell? ⟨w.heap.size, 5, none⟩ = some (.int .u64 dl) := (by first | exact bel_later hb e5 | exact bel_later (bel_dr hb) e5); have d6 : w1.cell? ⟨w.heap.size + 1, 0, none⟩ = some (.int .i64 a0) := (by first | exact bel_later hb e6 | exact bel_later (bel_dr hb) e6); have d7 : w1.cell? ⟨w.heap.size + 1, 1, none⟩ = some (.int .i64 a1) := (by first | exact bel_later hb e7 | exact bel_later (bel_dr hb) e7); have hw1 : Below w.heap.size w w1 := (by first | exact hW.trans (hb.mono hS) | exact hW.trans ((bel_dr hb).mono hS)); clear hb)
  all_goals
    go_wp2
    go_ret
    exact ⟨rfl, by first | exact hw1 | exact bel_step hw1 (by assumption) (Nat.le_refl _) | go_grown⟩
set_option maxRecDepth 100000 in
set_option maxHeartbeats 2000000 in
theorem mchk_1d (q dl a0 a1 a2 a3 a4 a5 a6 a7 a8 : Int) (key too val : ByteArray) (w : World)  (hT : too.toList = []) (hD : ¬ dl = 0) :
    Calls Tryz.prog 81 #[.agg #[.int .u8 1, .int .i64 q, .string key, .string too, .string val, .int .u64 dl], cfg a0 a1 a2 a3 a4 a5 a6 a7 a8] w fun e w' => e = .returned (.int .i64 (3)) ∧ Below w.heap.size w w' := by
  have C := Lib.hid (fun w => mpure_1 q dl key too val w)
  go_enter Tryz.func81, Tryz.ntmps81
  go_wp2_with fail
  obtain ⟨W, hWW⟩ : ∃ W, W = (w.alloc (.cells #[.int .u8 1, .int .i64 q, .string key, .string too, .string val, .int .u64 dl] 73)).alloc (.cells #[.int .i64 a0, .int .i64 a1, .int .i64 a2, .int .i64 a3, .int .i64 a4, .int .i64 a5, .int .i64 a6, .int .i64 a7, .int .i64 a8] 115) := ⟨_, rfl⟩
  have e0 : W.cell? ⟨w.heap.size, 0, none⟩ = some (.int .u8 1) := by rw [hWW]; simp [go_sem]
  have e1 : W.cell? ⟨w.heap.size, 1, none⟩ = some (.int .i64 q) := by rw [hWW]; simp [go_sem]
  have e2 : W.cell? ⟨w.heap.size, 2, none⟩ = some (.string key) := by rw [hWW]; simp [go_sem]
  have e3 : W.cell? ⟨w.heap.size, 3, none⟩ = some (.string too) := by rw [hWW]; simp [go_sem]
  have e4 : W.cell? ⟨w.heap.size, 4, none⟩ = some (.string val) := by rw [hWW]; simp [go_sem]
  have e5 : W.cell? ⟨w.heap.size, 5, none⟩ = some (.int .u64 dl) := by rw [hWW]; simp [go_sem]
  have e6 : W.cell? ⟨w.heap.size + 1, 0, none⟩ = some (.int .i64 a0) := by rw [hWW]; simp [go_sem]
  have e7 : W.cell? ⟨w.heap.size + 1, 1, none⟩ = some (.int .i64 a1) := by rw [hWW]; simp [go_sem]
  have hW : Below w.heap.size w W := by rw [hWW]; go_grown
  have hS : w.heap.size ≤ W.heap.size := hW.size
  rw [← hWW]
  clear hWW
  go_region_with (go_at_call 98; (with_reducible refine (C.out _).mono ?_); rintro e w1 ⟨rfl, hb⟩; have d0 : w1.cell? ⟨w.heap.size, 0, none⟩ = some (.int .u8 1) := (by first | exact bel_later hb e0 | exact bel_later (bel_dr hb) e0); have d1 : w1.cell? ⟨w.heap.size, 1, none⟩ = some (.int .i64 q) := (by first | exact bel_later hb e1 | exact bel_later (bel_dr hb) e1); have d2 : w1.cell? ⟨w.heap.size, 2, none⟩ = some (.string key) := (by first | exact bel_later hb e2 | exact bel_later (bel_dr hb) e2); have d3 : w1.cell? ⟨w.heap.size, 3, none⟩ = some (.string too) := (by first | exact bel_later hb e3 | exact bel_later (bel_dr hb) e3); have d4 : w1.cell? ⟨w.heap.size, 4, none⟩ = some (.string val) := (by first | exact bel_later hb e4 | exact bel_later (bel_dr hb) e4); have d5 : w1.cell? ⟨w.heap.size, 5, none⟩ = some (.int .u64 dl) := (by first | exact bel_later hb e5 | exact bel_later (bel_dr hb) e5); have d6 : w1.cell? ⟨w.heap.size + 1, 0, none⟩ = some (.int .i64 a0) := (by first | exact bel_later hb e6 | exact bel_later (bel_dr hb) e6); have d7 : w1.cell? ⟨w.heap.size + 1, 1, none⟩ = some (.int .i64 a1) := (by first | exact bel_later hb e7 | exact bel_later (bel_dr hb) e7); have hw1 : Below w.heap.size w w1 := (by first | exact hW.trans (hb.mono hS) | exact hW.trans ((bel_dr hb).mono hS)); clear hb)
  all_goals
    go_wp2
    go_ret
    exact ⟨rfl, by first | exact hw1 | exact bel_step hw1 (by assumption) (Nat.le_refl _) | go_grown⟩
set_option maxRecDepth 100000 in
set_option maxHeartbeats 2000000 in
theorem mchk_1v (q a0 a1 a2 a3 a4 a5 a6 a7 a8 : Int) (key too val : ByteArray) (w : World)  (hT : too.toList = []) (hS : a1 < (val.size : Int)) :
    Calls Tryz.prog 81 #[.agg #[.int .u8 1, .int .i64 q, .string key, .string too, .string val, .int .u64 0], cfg a0 a1 a2 a3 a4 a5 a6 a7 a8] w fun e w' => e = .returned (.int .i64 (6)) ∧ Below w.heap.size w w' := by
  have C := Lib.hid (fun w => mpure_1 q 0 key too val w)
  go_enter Tryz.func81, Tryz.ntmps81
  go_wp2_with fail
  obtain ⟨W, hWW⟩ : ∃ W, W = (w.alloc (.cells #[.int .u8 1, .int .i64 q, .string key, .string too, .string val, .int .u64 0] 73)).alloc (.cells #[.int .i64 a0, .int .i64 a1, .int .i64 a2, .int .i64 a3, .int .i64 a4, .int .i64 a5, .int .i64 a6, .int .i64 a7, .int .i64 a8] 115) := ⟨_, rfl⟩
  have e0 : W.cell? ⟨w.heap.size, 0, none⟩ = some (.int .u8 1) := by rw [hWW]; simp [go_sem]
  have e1 : W.cell? ⟨w.heap.size, 1, none⟩ = some (.int .i64 q) := by rw [hWW]; simp [go_sem]
  have e2 : W.cell? ⟨w.heap.size, 2, none⟩ = some (.string key) := by rw [hWW]; simp [go_sem]
  have e3 : W.cell? ⟨w.heap.size, 3, none⟩ = some (.string too) := by rw [hWW]; simp [go_sem]
  have e4 : W.cell? ⟨w.heap.size, 4, none⟩ = some (.string val) := by rw [hWW]; simp [go_sem]
  have e5 : W.cell? ⟨w.heap.size, 5, none⟩ = some (.int .u64 0) := by rw [hWW]; simp [go_sem]
  have e6 : W.cell? ⟨w.heap.size + 1, 0, none⟩ = some (.int .i64 a0) := by rw [hWW]; simp [go_sem]
  have e7 : W.cell? ⟨w.heap.size + 1, 1, none⟩ = some (.int .i64 a1) := by rw [hWW]; simp [go_sem]
  have hW : Below w.heap.size w W := by rw [hWW]; go_grown
  have hS : w.heap.size ≤ W.heap.size := hW.size
  rw [← hWW]
  clear hWW
  go_region_with (go_at_call 98; (with_reducible refine (C.out _).mono ?_); rintro e w1 ⟨rfl, hb⟩; have d0 : w1.cell? ⟨w.heap.size, 0, none⟩ = some (.int .u8 1) := (by first | exact bel_later hb e0 | exact bel_later (bel_dr hb) e0); have d1 : w1.cell? ⟨w.heap.size, 1, none⟩ = some (.int .i64 q) := (by first | exact bel_later hb e1 | exact bel_later (bel_dr hb) e1); have d2 : w1.cell? ⟨w.heap.size, 2, none⟩ = some (.string key) := (by first | exact bel_later hb e2 | exact bel_later (bel_dr hb) e2); have d3 : w1.cell? ⟨w.heap.size, 3, none⟩ = some (.string too) := (by first | exact bel_later hb e3 | exact bel_later (bel_dr hb) e3); have d4 : w1.cell? ⟨w.heap.size, 4, none⟩ = some (.string val) := (by first | exact bel_later hb e4 | exact bel_later (bel_dr hb) e4); have d5 : w1.cell? ⟨w.heap.size, 5, none⟩ = some (.int .u64 0) := (by first | exact bel_later hb e5 | exact bel_later (bel_dr hb) e5); have d6 : w1.cell? ⟨w.heap.size + 1, 0, none⟩ = some (.int .i64 a0) := (by first | exact bel_later hb e6 | exact bel_later (bel_dr hb) e6); have d7 : w1.cell? ⟨w.heap.size + 1, 1, none⟩ = some (.int .i64 a1) := (by first | exact bel_later hb e7 | exact bel_later (bel_dr hb) e7); have hw1 : Below w.heap.size w w1 := (by first | exact hW.trans (hb.mono hS) | exact hW.trans ((bel_dr hb).mono hS)); clear hb)
  all_goals
    go_wp2
    go_ret
    exact ⟨rfl, by first | exact hw1 | exact bel_step hw1 (by assumption) (Nat.le_refl _) | go_grown⟩
set_option maxRecDepth 100000 in
set_option maxHeartbeats 2000000 in
theorem mchk_1g (q a0 a1 a2 a3 a4 a5 a6 a7 a8 : Int) (key too val : ByteArray) (w : World)  (hT : too.toList = []) (hS : ¬ a1 < (val.size : Int)) (hR : rightS key a0 = true) :
    Calls Tryz.prog 81 #[.agg #[.int .u8 1, .int .i64 q, .string key, .string too, .string val, .int .u64 0], cfg a0 a1 a2 a3 a4 a5 a6 a7 a8] w fun e w' => e = .returned (.int .i64 (0)) ∧ Below w.heap.size w w' := by
  have C := Lib.hid (fun w => mpure_1 q 0 key too val w)
  have R := fun W => right_any key a0 W
  simp only [hR] at R
  have RR := Lib.hid R
  clear R
  go_enter Tryz.func81, Tryz.ntmps81
  go_wp2_with fail
  obtain ⟨W, hWW⟩ : ∃ W, W = (w.alloc (.cells #[.int .u8 1, .int .i64 q, .string key, .string too, .string val, .int .u64 0] 73)).alloc (.cells #[.int .i64 a0, .int .i64 a1, .int .i64 a2, .int .i64 a3, .int .i64 a4, .int .i64 a5, .int .i64 a6, .int .i64 a7, .int .i64 a8] 115) := ⟨_, rfl⟩
  have e0 : W.cell? ⟨w.heap.size, 0, none⟩ = some (.int .u8 1) := by rw [hWW]; simp [go_sem]
  have e1 : W.cell? ⟨w.heap.size, 1, none⟩ = some (.int .i64 q) := by rw [hWW]; simp [go_sem]
  have e2 : W.cell? ⟨w.heap.size, 2, none⟩ = some (.string key) := by rw [hWW]; simp [go_sem]
  have e3 : W.cell? ⟨w.heap.size, 3, none⟩ = some (.string too) := by rw [hWW]; simp [go_sem]
  have e4 : W.cell? ⟨w.heap.size, 4, none⟩ = some (.string val) := by rw [hWW]; simp [go_sem]
  have e5 : W.cell? ⟨w.heap.size, 5, none⟩ = some (.int .u64 0) := by rw [hWW]; simp [go_sem]
  have e6 : W.cell? ⟨w.heap.size + 1, 0, none⟩ = some (.int .i64 a0) := by rw [hWW]; simp [go_sem]
  have e7 : W.cell? ⟨w.heap.size + 1, 1, none⟩ = some (.int .i64 a1) := by rw [hWW]; simp [go_sem]
  have hW : Below w.heap.size w W := by rw [hWW]; go_grown
  have hS : w.heap.size ≤ W.heap.size := hW.size
  rw [← hWW]
  clear hWW
  go_region_with (go_at_call 98; (with_reducible refine (C.out _).mono ?_); rintro e w1 ⟨rfl, hb⟩; have d0 : w1.cell? ⟨w.heap.size, 0, none⟩ = some (.int .u8 1) := (by first | exact bel_later hb e0 | exact bel_later (bel_dr hb) e0); have d1 : w1.cell? ⟨w.heap.size, 1, none⟩ = some (.int .i64 q) := (by first | exact bel_later hb e1 | exact bel_later (bel_dr hb) e1); have d2 : w1.cell? ⟨w.heap.size, 2, none⟩ = some (.string key) := (by first | exact bel_later hb e2 | exact bel_later (bel_dr hb) e2); have d3 : w1.cell? ⟨w.heap.size, 3, none⟩ = some (.string too) := (by first | exact bel_later hb e3 | exact bel_later (bel_dr hb) e3); have d4 : w1.cell? ⟨w.heap.size, 4, none⟩ = some (.string val) := (by first | exact bel_later hb e4 | exact bel_later (bel_dr hb) e4); have d5 : w1.cell? ⟨w.heap.size, 5, none⟩ = some (.int .u64 0) := (by first | exact bel_later hb e5 | exact bel_later (bel_dr hb) e5); have d6 : w1.cell? ⟨w.heap.size + 1, 0, none⟩ = some (.int .i64 a0) := (by first | exact bel_later hb e6 | exact bel_later (bel_dr hb) e6); have d7 : w1.cell? ⟨w.heap.size + 1, 1, none⟩ = some (.int .i64 a1) := (by first | exact bel_later hb e7 | exact bel_later (bel_dr hb) e7); have hw1 : Below w.heap.size w w1 := (by first | exact hW.trans (hb.mono hS) | exact hW.trans ((bel_dr hb).mono hS)); clear hb)
  all_goals go_wp2_with fail
  all_goals
    refine (RR.out _).mono ?_
    rintro e w2 ⟨rfl, rfl⟩
    go_wp2
    go_ret
    exact ⟨rfl, by first | exact hw1 | exact bel_step hw1 (by assumption) (Nat.le_refl _) | go_grown⟩
set_option maxRecDepth 100000 in
set_option maxHeartbeats 2000000 in
theorem mchk_1b (q a0 a1 a2 a3 a4 a5 a6 a7 a8 : Int) (key too val : ByteArray) (w : World)  (hT : too.toList = []) (hS : ¬ a1 < (val.size : Int)) (hR : rightS key a0 = false) :
    Calls Tryz.prog 81 #[.agg #[.int .u8 1, .int .i64 q, .string key, .string too, .string val, .int .u64 0], cfg a0 a1 a2 a3 a4 a5 a6 a7 a8] w fun e w' => e = .returned (.int .i64 (6)) ∧ Below w.heap.size w w' := by
  have C := Lib.hid (fun w => mpure_1 q 0 key too val w)
  have R := fun W => right_any key a0 W
  simp only [hR] at R
  have RR := Lib.hid R
  clear R
  go_enter Tryz.func81, Tryz.ntmps81
  go_wp2_with fail
  obtain ⟨W, hWW⟩ : ∃ W, W = (w.alloc (.cells #[.int .u8 1, .int .i64 q, .string key, .string too, .string val, .int .u64 0] 73)).alloc (.cells #[.int .i64 a0, .int .i64 a1, .int .i64 a2, .int .i64 a3, .int .i64 a4, .int .i64 a5, .int .i64 a6, .int .i64 a7, .int .i64 a8] 115) := ⟨_, rfl⟩
  have e0 : W.cell? ⟨w.heap.size, 0, none⟩ = some (.int .u8 1) := by rw [hWW]; simp [go_sem]
  have e1 : W.cell? ⟨w.heap.size, 1, none⟩ = some (.int .i64 q) := by rw [hWW]; simp [go_sem]
  have e2 : W.cell? ⟨w.heap.size, 2, none⟩ = some (.string key) := by rw [hWW]; simp [go_sem]
  have e3 : W.cell? ⟨w.heap.size, 3, none⟩ = some (.string too) := by rw [hWW]; simp [go_sem]
  have e4 : W.cell? ⟨w.heap.size, 4, none⟩ = some (.string val) := by rw [hWW]; simp [go_sem]
  have e5 : W.cell? ⟨w.heap.size, 5, none⟩ = some (.int .u64 0) := by rw [hWW]; simp [go_sem]
  have e6 : W.cell? ⟨w.heap.size + 1, 0, none⟩ = some (.int .i64 a0) := by rw [hWW]; simp [go_sem]
  have e7 : W.cell? ⟨w.heap.size + 1, 1, none⟩ = some (.int .i64 a1) := by rw [hWW]; simp [go_sem]
  have hW : Below w.heap.size w W := by rw [hWW]; go_grown
  have hS : w.heap.size ≤ W.heap.size := hW.size
  rw [← hWW]
  clear hWW
  go_region_with (go_at_call 98; (with_reducible refine (C.out _).mono ?_); rintro e w1 ⟨rfl, hb⟩; have d0 : w1.cell? ⟨w.heap.size, 0, none⟩ = some (.int .u8 1) := (by first | exact bel_later hb e0 | exact bel_later (bel_dr hb) e0); have d1 : w1.cell? ⟨w.heap.size, 1, none⟩ = some (.int .i64 q) := (by first | exact bel_later hb e1 | exact bel_later (bel_dr hb) e1); have d2 : w1.cell? ⟨w.heap.size, 2, none⟩ = some (.string key) := (by first | exact bel_later hb e2 | exact bel_later (bel_dr hb) e2); have d3 : w1.cell? ⟨w.heap.size, 3, none⟩ = some (.string too) := (by first | exact bel_later hb e3 | exact bel_later (bel_dr hb) e3); have d4 : w1.cell? ⟨w.heap.size, 4, none⟩ = some (.string val) := (by first | exact bel_later hb e4 | exact bel_later (bel_dr hb) e4); have d5 : w1.cell? ⟨w.heap.size, 5, none⟩ = some (.int .u64 0) := (by first | exact bel_later hb e5 | exact bel_later (bel_dr hb) e5); have d6 : w1.cell? ⟨w.heap.size + 1, 0, none⟩ = some (.int .i64 a0) := (by first | exact bel_later hb e6 | exact bel_later (bel_dr hb) e6); have d7 : w1.cell? ⟨w.heap.size + 1, 1, none⟩ = some (.int .i64 a1) := (by first | exact bel_later hb e7 | exact bel_later (bel_dr hb) e7); have hw1 : Below w.heap.size w w1 := (by first | exact hW.trans (hb.mono hS) | exact hW.trans ((bel_dr hb).mono hS)); clear hb)
  all_goals go_wp2_with fail
  all_goals
    refine (RR.out _).mono ?_
    rintro e w2 ⟨rfl, rfl⟩
    go_wp2
    go_ret
    exact ⟨rfl, by first | exact hw1 | exact bel_step hw1 (by assumption) (Nat.le_refl _) | go_grown⟩
set_option maxRecDepth 100000 in
set_option maxHeartbeats 2000000 in
theorem mchk_3t (q dl a0 a1 a2 a3 a4 a5 a6 a7 a8 : Int) (key too val : ByteArray) (w : World)  (hT : ¬ too.toList = []) :
    Calls Tryz.prog 81 #[.agg #[.int .u8 3, .int .i64 q, .string key, .string too, .string val, .int .u64 dl], cfg a0 a1 a2 a3 a4 a5 a6 a7 a8] w fun e w' => e = .returned (.int .i64 (3)) ∧ Below w.heap.size w w' := by
  have C := Lib.hid (fun w => mpure_3 q dl key too val w)
  go_enter Tryz.func81, Tryz.ntmps81
  go_wp2_with fail
  obtain ⟨W, hWW⟩ : ∃ W, W = (w.alloc (.cells #[.int .u8 3, .int .i64 q, .string key, .string too, .string val, .int .u64 dl] 73)).alloc (.cells #[.int .i64 a0, .int .i64 a1, .int .i64 a2, .int .i64 a3, .int .i64 a4, .int .i64 a5, .int .i64 a6, .int .i64 a7, .int .i64 a8] 115) := ⟨_, rfl⟩
  have e0 : W.cell? ⟨w.heap.size, 0, none⟩ = some (.int .u8 3) := by rw [hWW]; simp [go_sem]
  have e1 : W.cell? ⟨w.heap.size, 1, none⟩ = some (.int .i64 q) := by rw [hWW]; simp [go_sem]
  have e2 : W.cell? ⟨w.heap.size, 2, none⟩ = some (.string key) := by rw [hWW]; simp [go_sem]
  have e3 : W.cell? ⟨w.heap.size, 3, none⟩ = some (.string too) := by rw [hWW]; simp [go_sem]
  have e4 : W.cell? ⟨w.heap.size, 4, none⟩ = some (.string val) := by rw [hWW]; simp [go_sem]
  have e5 : W.cell? ⟨w.heap.size, 5, none⟩ = some (.int .u64 dl) := by rw [hWW]; simp [go_sem]
  have e6 : W.cell? ⟨w.heap.size + 1, 0, none⟩ = some (.int .i64 a0) := by rw [hWW]; simp [go_sem]
  have e7 : W.cell? ⟨w.heap.size + 1, 1, none⟩ = some (.int .i64 a1) := by rw [hWW]; simp [go_sem]
  have hW : Below w.heap.size w W := by rw [hWW]; go_grown
  have hS : w.heap.size ≤ W.heap.size := hW.size
  rw [← hWW]
  clear hWW
  go_region_with (go_at_call 98; (with_reducible refine (C.out _).mono ?_); rintro e w1 ⟨rfl, hb⟩; have d0 : w1.cell? ⟨w.heap.size, 0, none⟩ = some (.int .u8 3) := (by first | exact bel_later hb e0 | exact bel_later (bel_dr hb) e0); have d1 : w1.cell? ⟨w.heap.size, 1, none⟩ = some (.int .i64 q) := (by first | exact bel_later hb e1 | exact bel_later (bel_dr hb) e1); have d2 : w1.cell? ⟨w.heap.size, 2, none⟩ = some (.string key) := (by first | exact bel_later hb e2 | exact bel_later (bel_dr hb) e2); have d3 : w1.cell? ⟨w.heap.size, 3, none⟩ = some (.string too) := (by first | exact bel_later hb e3 | exact bel_later (bel_dr hb) e3); have d4 : w1.cell? ⟨w.heap.size, 4, none⟩ = some (.string val) := (by first | exact bel_later hb e4 | exact bel_later (bel_dr hb) e4); have d5 : w1.cell? ⟨w.heap.size, 5, none⟩ = some (.int .u64 dl) := (by first | exact bel_later hb e5 | exact bel_later (bel_dr hb) e5); have d6 : w1.cell? ⟨w.heap.size + 1, 0, none⟩ = some (.int .i64 a0) := (by first | exact bel_later hb e6 | exact bel_later (bel_dr hb) e6); have d7 : w1.cell? ⟨w.heap.size + 1, 1, none⟩ = some (.int .i64 a1) := (by first | exact bel_later hb e7 | exact bel_later (bel_dr hb) e7); have hw1 : Below w.heap.size w w1 := (by first | exact hW.trans (hb.mono hS) | exact hW.trans ((bel_dr hb).mono hS)); clear hb)
  all_goals
    go_wp2
    go_ret
    exact ⟨rfl, by first | exact hw1 | exact bel_step hw1 (by assumption) (Nat.le_refl _) | go_grown⟩
set_option maxRecDepth 100000 in
set_option maxHeartbeats 2000000 in
theorem mchk_3v (q dl a0 a1 a2 a3 a4 a5 a6 a7 a8 : Int) (key too val : ByteArray) (w : World)  (hT : too.toList = []) (hV : ¬ val.toList = []) :
    Calls Tryz.prog 81 #[.agg #[.int .u8 3, .int .i64 q, .string key, .string too, .string val, .int .u64 dl], cfg a0 a1 a2 a3 a4 a5 a6 a7 a8] w fun e w' => e = .returned (.int .i64 (3)) ∧ Below w.heap.size w w' := by
  have C := Lib.hid (fun w => mpure_3 q dl key too val w)
  go_enter Tryz.func81, Tryz.ntmps81
  go_wp2_with fail
  obtain ⟨W, hWW⟩ : ∃ W, W = (w.alloc (.cells #[.int .u8 3, .int .i64 q, .string key, .string too, .string val, .int .u64 dl] 73)).alloc (.cells #[.int .i64 a0, .int .i64 a1, .int .i64 a2, .int .i64 a3, .int .i64 a4, .int .i64 a5, .int .i64 a6, .int .i64 a7, .int .i64 a8] 115) := ⟨_, rfl⟩
  have e0 : W.cell? ⟨w.heap.size, 0, none⟩ = some (.int .u8 3) := by rw [hWW]; simp [go_sem]
  have e1 : W.cell? ⟨w.heap.size, 1, none⟩ = some (.int .i64 q) := by rw [hWW]; simp [go_sem]
  have e2 : W.cell? ⟨w.heap.size, 2, none⟩ = some (.string key) := by rw [hWW]; simp [go_sem]
  have e3 : W.cell? ⟨w.heap.size, 3, none⟩ = some (.string too) := by rw [hWW]; simp [go_sem]
  have e4 : W.cell? ⟨w.heap.size, 4, none⟩ = some (.string val) := by rw [hWW]; simp [go_sem]
  have e5 : W.cell? ⟨w.heap.size, 5, none⟩ = some (.int .u64 dl) := by rw [hWW]; simp [go_sem]
  have e6 : W.cell? ⟨w.heap.size + 1, 0, none⟩ = some (.int .i64 a0) := by rw [hWW]; simp [go_sem]
  have e7 : W.cell? ⟨w.heap.size + 1, 1, none⟩ = some (.int .i64 a1) := by rw [hWW]; simp [go_sem]
  have hW : Below w.heap.size w W := by rw [hWW]; go_grown
  have hS : w.heap.size ≤ W.heap.size := hW.size
  rw [← hWW]
  clear hWW
  go_region_with (go_at_call 98; (with_reducible refine (C.out _).mono ?_); rintro e w1 ⟨rfl, hb⟩; have d0 : w1.cell? ⟨w.heap.size, 0, none⟩ = some (.int .u8 3) := (by first | exact bel_later hb e0 | exact bel_later (bel_dr hb) e0); have d1 : w1.cell? ⟨w.heap.size, 1, none⟩ = some (.int .i64 q) := (by first | exact bel_later hb e1 | exact bel_later (bel_dr hb) e1); have d2 : w1.cell? ⟨w.heap.size, 2, none⟩ = some (.string key) := (by first | exact bel_later hb e2 | exact bel_later (bel_dr hb) e2); have d3 : w1.cell? ⟨w.heap.size, 3, none⟩ = some (.string too) := (by first | exact bel_later hb e3 | exact bel_later (bel_dr hb) e3); have d4 : w1.cell? ⟨w.heap.size, 4, none⟩ = some (.string val) := (by first | exact bel_later hb e4 | exact bel_later (bel_dr hb) e4); have d5 : w1.cell? ⟨w.heap.size, 5, none⟩ = some (.int .u64 dl) := (by first | exact bel_later hb e5 | exact bel_later (bel_dr hb) e5); have d6 : w1.cell? ⟨w.heap.size + 1, 0, none⟩ = some (.int .i64 a0) := (by first | exact bel_later hb e6 | exact bel_later (bel_dr hb) e6); have d7 : w1.cell? ⟨w.heap.size + 1, 1, none⟩ = some (.int .i64 a1) := (by first | exact bel_later hb e7 | exact bel_later (bel_dr hb) e7); have hw1 : Below w.heap.size w w1 := (by first | exact hW.trans (hb.mono hS) | exact hW.trans ((bel_dr hb).mono hS)); clear hb)
  all_goals
    go_wp2
    go_ret
    exact ⟨rfl, by first | exact hw1 | exact bel_step hw1 (by assumption) (Nat.le_refl _) | go_grown⟩
set_option maxRecDepth 100000 in
set_option maxHeartbeats 2000000 in
theorem mchk_3g (q dl a0 a1 a2 a3 a4 a5 a6 a7 a8 : Int) (key too val : ByteArray) (w : World)  (hT : too.toList = []) (hV : val.toList = []) (hR : rightS key a0 = true) :
    Calls Tryz.prog 81 #[.agg #[.int .u8 3, .int .i64 q, .string key, .string too, .string val, .int .u64 dl], cfg a0 a1 a2 a3 a4 a5 a6 a7 a8] w fun e w' => e = .returned (.int .i64 (0)) ∧ Below w.heap.size w w' := by
  have C := Lib.hid (fun w => mpure_3 q dl key too val w)
  have R := fun W => right_any key a0 W
  simp only [hR] at R
  have RR := Lib.hid R
  clear R
  go_enter Tryz.func81, Tryz.ntmps81
  go_wp2_with fail
  obtain ⟨W, hWW⟩ : ∃ W, W = (w.alloc (.cells #[.int .u8 3, .int .i64 q, .string key, .string too, .string val, .int .u64 dl] 73)).alloc (.cells #[.int .i64 a0, .int .i64 a1, .int .i64 a2, .int .i64 a3, .int .i64 a4, .int .i64 a5, .int .i64 a6, .int .i64 a7, .int .i64 a8] 115) := ⟨_, rfl⟩
  have e0 : W.cell? ⟨w.heap.size, 0, none⟩ = some (.int .u8 3) := by rw [hWW]; simp [go_sem]
  have e1 : W.cell? ⟨w.heap.size, 1, none⟩ = some (.int .i64 q) := by rw [hWW]; simp [go_sem]
  have e2 : W.cell? ⟨w.heap.size, 2, none⟩ = some (.string key) := by rw [hWW]; simp [go_sem]
  have e3 : W.cell? ⟨w.heap.size, 3, none⟩ = some (.string too) := by rw [hWW]; simp [go_sem]
  have e4 : W.cell? ⟨w.heap.size, 4, none⟩ = some (.string val) := by rw [hWW]; simp [go_sem]
  have e5 : W.cell? ⟨w.heap.size, 5, none⟩ = some (.int .u64 dl) := by rw [hWW]; simp [go_sem]
  have e6 : W.cell? ⟨w.heap.size + 1, 0, none⟩ = some (.int .i64 a0) := by rw [hWW]; simp [go_sem]
  have e7 : W.cell? ⟨w.heap.size + 1, 1, none⟩ = some (.int .i64 a1) := by rw [hWW]; simp [go_sem]
  have hW : Below w.heap.size w W := by rw [hWW]; go_grown
  have hS : w.heap.size ≤ W.heap.size := hW.size
  rw [← hWW]
  clear hWW
  go_region_with (go_at_call 98; (with_reducible refine (C.out _).mono ?_); rintro e w1 ⟨rfl, hb⟩; have d0 : w1.cell? ⟨w.heap.size, 0, none⟩ = some (.int .u8 3) := (by first | exact bel_later hb e0 | exact bel_later (bel_dr hb) e0); have d1 : w1.cell? ⟨w.heap.size, 1, none⟩ = some (.int .i64 q) := (by first | exact bel_later hb e1 | exact bel_later (bel_dr hb) e1); have d2 : w1.cell? ⟨w.heap.size, 2, none⟩ = some (.string key) := (by first | exact bel_later hb e2 | exact bel_later (bel_dr hb) e2); have d3 : w1.cell? ⟨w.heap.size, 3, none⟩ = some (.string too) := (by first | exact bel_later hb e3 | exact bel_later (bel_dr hb) e3); have d4 : w1.cell? ⟨w.heap.size, 4, none⟩ = some (.string val) := (by first | exact bel_later hb e4 | exact bel_later (bel_dr hb) e4); have d5 : w1.cell? ⟨w.heap.size, 5, none⟩ = some (.int .u64 dl) := (by first | exact bel_later hb e5 | exact bel_later (bel_dr hb) e5); have d6 : w1.cell? ⟨w.heap.size + 1, 0, none⟩ = some (.int .i64 a0) := (by first | exact bel_later hb e6 | exact bel_later (bel_dr hb) e6); have d7 : w1.cell? ⟨w.heap.size + 1, 1, none⟩ = some (.int .i64 a1) := (by first | exact bel_later hb e7 | exact bel_later (bel_dr hb) e7); have hw1 : Below w.heap.size w w1 := (by first | exact hW.trans (hb.mono hS) | exact hW.trans ((bel_dr hb).mono hS)); clear hb)
  all_goals go_wp2_with fail
  all_goals
    refine (RR.out _).mono ?_
    rintro e w2 ⟨rfl, rfl⟩
    go_wp2
    go_ret
    exact ⟨rfl, by first | exact hw1 | exact bel_step hw1 (by assumption) (Nat.le_refl _) | go_grown⟩
set_option maxRecDepth 100000 in
set_option maxHeartbeats 2000000 in
theorem mchk_3b (q dl a0 a1 a2 a3 a4 a5 a6 a7 a8 : Int) (key too val : ByteArray) (w : World)  (hT : too.toList = []) (hV : val.toList = []) (hR : rightS key a0 = false) :
    Calls Tryz.prog 81 #[.agg #[.int .u8 3, .int .i64 q, .string key, .string too, .string val, .int .u64 dl], cfg a0 a1 a2 a3 a4 a5 a6 a7 a8] w fun e w' => e = .returned (.int .i64 (6)) ∧ Below w.heap.size w w' := by
  have C := Lib.hid (fun w => mpure_3 q dl key too val w)
  have R := fun W => right_any key a0 W
  simp only [hR] at R
  have RR := Lib.hid R
  clear R
  go_enter Tryz.func81, Tryz.ntmps81
  go_wp2_with fail
  obtain ⟨W, hWW⟩ : ∃ W, W = (w.alloc (.cells #[.int .u8 3, .int .i64 q, .string key, .string too, .string val, .int .u64 dl] 73)).alloc (.cells #[.int .i64 a0, .int .i64 a1, .int .i64 a2, .int .i64 a3, .int .i64 a4, .int .i64 a5, .int .i64 a6, .int .i64 a7, .int .i64 a8] 115) := ⟨_, rfl⟩
  have e0 : W.cell? ⟨w.heap.size, 0, none⟩ = some (.int .u8 3) := by rw [hWW]; simp [go_sem]
  have e1 : W.cell? ⟨w.heap.size, 1, none⟩ = some (.int .i64 q) := by rw [hWW]; simp [go_sem]
  have e2 : W.cell? ⟨w.heap.size, 2, none⟩ = some (.string key) := by rw [hWW]; simp [go_sem]
  have e3 : W.cell? ⟨w.heap.size, 3, none⟩ = some (.string too) := by rw [hWW]; simp [go_sem]
  have e4 : W.cell? ⟨w.heap.size, 4, none⟩ = some (.string val) := by rw [hWW]; simp [go_sem]
  have e5 : W.cell? ⟨w.heap.size, 5, none⟩ = some (.int .u64 dl) := by rw [hWW]; simp [go_sem]
  have e6 : W.cell? ⟨w.heap.size + 1, 0, none⟩ = some (.int .i64 a0) := by rw [hWW]; simp [go_sem]
  have e7 : W.cell? ⟨w.heap.size + 1, 1, none⟩ = some (.int .i64 a1) := by rw [hWW]; simp [go_sem]
  have hW : Below w.heap.size w W := by rw [hWW]; go_grown
  have hS : w.heap.size ≤ W.heap.size := hW.size
  rw [← hWW]
  clear hWW
  go_region_with (go_at_call 98; (with_reducible refine (C.out _).mono ?_); rintro e w1 ⟨rfl, hb⟩; have d0 : w1.cell? ⟨w.heap.size, 0, none⟩ = some (.int .u8 3) := (by first | exact bel_later hb e0 | exact bel_later (bel_dr hb) e0); have d1 : w1.cell? ⟨w.heap.size, 1, none⟩ = some (.int .i64 q) := (by first | exact bel_later hb e1 | exact bel_later (bel_dr hb) e1); have d2 : w1.cell? ⟨w.heap.size, 2, none⟩ = some (.string key) := (by first | exact bel_later hb e2 | exact bel_later (bel_dr hb) e2); have d3 : w1.cell? ⟨w.heap.size, 3, none⟩ = some (.string too) := (by first | exact bel_later hb e3 | exact bel_later (bel_dr hb) e3); have d4 : w1.cell? ⟨w.heap.size, 4, none⟩ = some (.string val) := (by first | exact bel_later hb e4 | exact bel_later (bel_dr hb) e4); have d5 : w1.cell? ⟨w.heap.size, 5, none⟩ = some (.int .u64 dl) := (by first | exact bel_later hb e5 | exact bel_later (bel_dr hb) e5); have d6 : w1.cell? ⟨w.heap.size + 1, 0, none⟩ = some (.int .i64 a0) := (by first | exact bel_later hb e6 | exact bel_later (bel_dr hb) e6); have d7 : w1.cell? ⟨w.heap.size + 1, 1, none⟩ = some (.int .i64 a1) := (by first | exact bel_later hb e7 | exact bel_later (bel_dr hb) e7); have hw1 : Below w.heap.size w w1 := (by first | exact hW.trans (hb.mono hS) | exact hW.trans ((bel_dr hb).mono hS)); clear hb)
  all_goals go_wp2_with fail
  all_goals
    refine (RR.out _).mono ?_
    rintro e w2 ⟨rfl, rfl⟩
    go_wp2
    go_ret
    exact ⟨rfl, by first | exact hw1 | exact bel_step hw1 (by assumption) (Nat.le_refl _) | go_grown⟩
end Go.Proofs.YtdebedeebmmleaaGreatDoor
