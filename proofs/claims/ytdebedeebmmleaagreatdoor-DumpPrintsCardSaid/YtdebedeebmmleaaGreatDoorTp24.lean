/- Texts of the proof, one behind the other. -/
import Derived.Test.YtdebedeebmmleaaGreatDoorTp23
set_option linter.unusedVariables false
set_option linter.unusedSimpArgs false
namespace Go.Proofs.YtdebedeebmmleaaGreatDoor
open Go.RowKit Go.Maps
theorem gw_cells {w : World} (h : GW w) : w.cell? ⟨0, 0, none⟩ = some (.int .i64 2147483647) ∧ w.cell? ⟨0, 1, none⟩ = some (.int .i64 2147483647) ∧ w.cell? ⟨0, 2, none⟩ = some (.int .i64 0) ∧ w.cell? ⟨0, 3, none⟩ = some (.int .i64 0) ∧ w.cell? ⟨0, 4, none⟩ = some (.int .i64 0) ∧ w.cell? ⟨0, 5, none⟩ = some (.int .i64 0) ∧ w.cell? ⟨0, 6, none⟩ = some (.int .i64 0) ∧ w.cell? ⟨0, 7, none⟩ = some (.int .i64 0) ∧ w.cell? ⟨0, 8, none⟩ = some (.int .i64 0) :=
  ⟨h.an 0 _ rfl, h.an 1 _ rfl, h.an 2 _ rfl, h.an 3 _ rfl, h.an 4 _ rfl, h.an 5 _ rfl, h.an 6 _ rfl, h.an 7 _ rfl, h.an 8 _ rfl⟩
/-- A message's tick is in its range, and its form is good. -/
def tmB (m : M) : Bool := decide (-1099511627776 ≤ m.q) && decide (m.q ≤ 1099511627776) && decide (mF m.k m.dl 2147483647 2147483647 m.key m.too m.val ≠ 3)
set_option maxHeartbeats 2000000 in
set_option maxRecDepth 100000 in
theorem tmsg_any (m : M) (w : World) (hg : GW w) : Calls Tryz.prog 64 #[m.v] w fun e w' => e = .returned (.bool (tmB m)) ∧ Below w.heap.size w w' := by
  have HG := Lib.hid hg
  obtain ⟨k, q, key, too, val, dl⟩ := m
  unfold tmB M.v
  simp only
  obtain ⟨W0, hW0⟩ : ∃ W0, W0 = w.alloc (.cells #[.int .u8 k, .int .i64 q, .string key, .string too, .string val, .int .u64 dl] 73) := ⟨_, rfl⟩
  have B0 := Lib.hid (show Below w.heap.size w W0 by rw [hW0]; exact alb w _)
  have Z0 := Lib.hid (show W0.heap[w.heap.size]? = some (.cells #[.int .u8 k, .int .i64 q, .string key, .string too, .string val, .int .u64 dl] 73) by rw [hW0]; exact heap_alloc_new w _)
  obtain ⟨c0, c1, c2, c3, c4, c5⟩ := cells6 Z0.out
  obtain ⟨g0, g1, g2, g3, g4, g5, g6, g7, g8⟩ := gw_cells (hg.later B0.out)
  obtain ⟨a, ha⟩ : ∃ a, mF k dl 2147483647 2147483647 key too val = a := ⟨_, rfl⟩
  have MC := Lib.hid (mchk_any k q dl 2147483647 2147483647 0 0 0 0 0 0 0 key too val)
  unfold cfg at MC
  rw [ha] at MC ⊢
  clear hg ha
  by_cases h1 : -1099511627776 ≤ q
  · by_cases h2 : q ≤ 1099511627776
    · by_cases h3 : a = 3
      · subst h3
        go_enter Tryz.func64, Tryz.ntmps64
        go_upto_region 1 with fail
        rw [← hW0]
        clear hW0
        go_wp2_with (first
          | (go_at_call 81; ((with_reducible refine (MC.out _).mono ?_); rintro e w1 ⟨rfl, b1⟩; have B1 := Lib.hid (bel_trans B0.out b1); clear b1))
          | fail)
        go_ret
        exact ⟨by simp, B1.out⟩
      · have e3 : (a == 3) = false := beq_eq_false_iff_ne.2 h3
        go_enter Tryz.func64, Tryz.ntmps64
        go_upto_region 1 with fail
        rw [← hW0]
        clear hW0
        go_wp2_with (first
          | (go_at_call 81; ((with_reducible refine (MC.out _).mono ?_); rintro e w1 ⟨rfl, b1⟩; have B1 := Lib.hid (bel_trans B0.out b1); clear b1))
          | fail)
        go_ret
        exact ⟨by simp [h1, h2, h3], B1.out⟩
    · go_enter Tryz.func64, Tryz.ntmps64
      go_upto_region 1 with fail
      rw [← hW0]
      clear hW0
      go_wp2
      go_ret
      exact ⟨by simp; omega, B0.out⟩
  · go_enter Tryz.func64, Tryz.ntmps64
    go_upto_region 1 with fail
    rw [← hW0]
    clear hW0
    go_wp2
    go_ret
    exact ⟨by simp; omega, B0.out⟩
set_option maxHeartbeats 1000000 in
set_option maxRecDepth 100000 in
theorem tm_not (m : M) (w : World) (hg : GW w) : Calls Tryz.prog 63 #[m.v] w fun e w' => e = .returned (.bool (!tmB m)) ∧ Below w.heap.size w w' := by
  obtain ⟨W0, hW0⟩ : ∃ W0, W0 = w.alloc (msgO m) := ⟨_, rfl⟩
  have B0 := Lib.hid (show Below w.heap.size w W0 by rw [hW0]; exact alb w _)
  have Z0 := Lib.hid (show W0.heap[w.heap.size]? = some (msgO m) by rw [hW0]; exact heap_alloc_new w _)
  obtain ⟨c0, c1, c2, c3, c4, c5⟩ := cells6 Z0.out
  have TM := Lib.hid (tmsg_any m W0 (hg.later B0.out))
  unfold M.v at TM ⊢
  clear hg
  go_enter Tryz.func63, Tryz.ntmps63
  go_upto_region 1 with fail
  rw [← hW0]
  clear hW0
  go_wp2_with (first
    | (go_at_call 64; ((with_reducible refine TM.out.mono ?_); rintro e w1 ⟨rfl, b1⟩; have B1 := Lib.hid (bel_trans B0.out b1); clear b1))
    | fail)
  go_ret
  exact ⟨rfl, B1.out⟩
def kdB (v : Int) : Bool := decide (v < 0) || decide (2147483647 < v)
set_option maxHeartbeats 1000000 in
theorem kid_not (v : Int) (w : World) : Calls Tryz.prog 61 #[.int .i64 v] w fun e w' => e = .returned (.bool (kdB v)) ∧ Below w.heap.size w w' := by
  unfold kdB
  by_cases h1 : v < 0
  · go_enter Tryz.func61, Tryz.ntmps61
    go_wp2
    go_ret
    exact ⟨by simp [h1], Below.refl _ _⟩
  · by_cases h2 : 2147483647 < v
    · go_enter Tryz.func61, Tryz.ntmps61
      go_wp2
      go_ret
      exact ⟨by simp [h2], Below.refl _ _⟩
    · go_enter Tryz.func61, Tryz.ntmps61
      go_wp2
      go_ret
      exact ⟨by simp [h1, h2], Below.refl _ _⟩
theorem any_take {α : Type} {p : α → Bool} {xs : List α} {k : Nat} {x : α} (h : (xs.take k).any p = false) (hx : xs[k]? = some x) (hp : p x = false) : (xs.take (k + 1)).any p = false := by
  rw [List.take_add_one, hx, List.any_append, h]
  simp [hp]
theorem any_yes {α : Type} {p : α → Bool} {xs : List α} {k : Nat} {x : α} (hx : xs[k]? = some x) (hp : p x = true) : xs.any p = true := List.any_eq_true.2 ⟨x, List.mem_of_getElem? hx, hp⟩
set_option maxRecDepth 100000 in
set_option maxHeartbeats 2000000 in
theorem kindex_any (A : Option Addr) (n c : Nat) (xs : List Int) (w : World) (hl : xs.length = n) (hn : n ≤ 1000000) (hA : EI.Rd w A xs) :
    Calls Tryz.prog 79 #[.slice A n c, .func (.func 61) #[] #[]] w fun r w' => (∃ v : Int, r = .returned (.int .i64 v) ∧ (decide (0 ≤ v)) = xs.any kdB) ∧ Below w.heap.size w w' := by
  have HL := Lib.hid hl
  have HA := Lib.hid hA
  have HN := Lib.hid hn
  clear hl hA hn
  go_enter Tryz.func79, Tryz.ntmps79
  go_upto_region 2 with fail
  go_loopw [8] (fun iv wr => ∃ (k : Nat), k ≤ n ∧ iv = .int .i64 k ∧ Hid ((xs.take k).any kdB = false) ∧ Below w.heap.size w wr) (fun i _ => n - (intOf i).toNat)
  case atStart => exact ⟨0, by omega, rfl, Lib.hid rfl, Below.refl _ _⟩
  case round =>
    obtain ⟨k, hk, rfl, HAL, hb⟩ := hrel
    have HB := Lib.hid hb
    have hnn := HN.out
    clear hb
    by_cases h8 : k < n
    · have hk1 : (k : Int) < (n : Int) := by omega
      have hk0 : (0 : Int) ≤ (k : Int) := by omega
      have WK : IntKind.i64.wrap ((k : Int) + 1) = (k : Int) + 1 := IntWalk.i64_in _ (by omega)
      obtain ⟨x, hx⟩ : ∃ x, xs[k]? = some x := ⟨_, List.getElem?_eq_getElem (by rw [HL.out]; omega)⟩
      obtain ⟨b, off, rfl, hlt, g0⟩ := ei_at (HA.out.later HB.out) hx
      have HX := Lib.hid hx
      have AX := Lib.hid (kid_not x wr)
      clear hx hlt
      cases hh : kdB x
      all_goals
        rw [hh] at AX
        have HH := Lib.hid hh
        clear hh
        go_wp2_with (first
          | (go_at_call 61; ((with_reducible refine AX.out.mono ?_); rintro e w1 ⟨rfl, b1⟩; have B1 := Lib.hid (bel_trans HB.out b1); clear b1))
          | fail)
        first
          | exact ⟨⟨k + 1, by omega, by simp, Lib.hid (any_take HAL.out HX.out HH.out), B1.out⟩, by simp [intOf]; omega⟩
          | (go_ret; exact ⟨⟨k, rfl, by rw [any_yes HX.out HH.out]; simp⟩, B1.out⟩)
    · have hk1 : ¬ (k : Int) < (n : Int) := by omega
      have e : xs.take k = xs := List.take_of_length_le (by rw [HL.out]; omega)
      rw [e] at HAL
      go_wp2
      go_ret
      exact ⟨⟨-1, rfl, by rw [HAL.out]; decide⟩, HB.out⟩
set_option maxRecDepth 100000 in
set_option maxHeartbeats 2000000 in
theorem kcont_any (A : Option Addr) (n c : Nat) (xs : List Int) (w : World) (hl : xs.length = n) (hn : n ≤ 1000000) (hA : EI.Rd w A xs) :
    Calls Tryz.prog 60 #[.slice A n c, .func (.func 61) #[] #[]] w fun r w' => r = .returned (.bool (xs.any kdB)) ∧ Below w.heap.size w w' := by
  have P := Lib.hid (kindex_any A n c xs w hl hn hA)
  clear hl hn hA
  go_enter Tryz.func60, Tryz.ntmps60
  go_wp2_with (first
    | (go_at_call 79; ((with_reducible refine P.out.mono ?_); rintro e w1 ⟨⟨v, rfl, hv⟩, b1⟩; have B1 := Lib.hid b1; have HV := Lib.hid hv; clear b1 hv P))
    | fail)
  go_ret
  exact ⟨by rw [← HV.out]; rfl, B1.out⟩
set_option maxRecDepth 100000 in
set_option maxHeartbeats 2000000 in
theorem mindex_any (A : Option Addr) (n c : Nat) (xs : List M) (w : World) (hg : GW w) (hl : xs.length = n) (hn : n ≤ 1000000) (hA : EM.Rd w A xs) :
    Calls Tryz.prog 80 #[.slice A n c, .func (.func 63) #[] #[]] w fun r w' => (∃ v : Int, r = .returned (.int .i64 v) ∧ (decide (0 ≤ v)) = xs.any (fun m => !tmB m)) ∧ Below w.heap.size w w' := by
  have HL := Lib.hid hl
  have HA := Lib.hid hA
  have HN := Lib.hid hn
  have HG := Lib.hid hg
  clear hl hA hn hg
  go_enter Tryz.func80, Tryz.ntmps80
  go_upto_region 2 with fail
  go_loopw [8] (fun iv wr => ∃ (k : Nat), k ≤ n ∧ iv = .int .i64 k ∧ Hid ((xs.take k).any (fun m => !tmB m) = false) ∧ Below w.heap.size w wr) (fun i _ => n - (intOf i).toNat)
  case atStart => exact ⟨0, by omega, rfl, Lib.hid rfl, Below.refl _ _⟩
  case round =>
    obtain ⟨k, hk, rfl, HAL, hb⟩ := hrel
    have HB := Lib.hid hb
    have hnn := HN.out
    clear hb
    by_cases h8 : k < n
    · have hk1 : (k : Int) < (n : Int) := by omega
      have hk0 : (0 : Int) ≤ (k : Int) := by omega
      have WK : IntKind.i64.wrap ((k : Int) + 1) = (k : Int) + 1 := IntWalk.i64_in _ (by omega)
      obtain ⟨x, hx⟩ : ∃ x, xs[k]? = some x := ⟨_, List.getElem?_eq_getElem (by rw [HL.out]; omega)⟩
      obtain ⟨b, off, rfl, hlt, g0, g1, g2, g3, g4, g5⟩ := em_at (HA.out.later HB.out) hx
      have HX := Lib.hid hx
      have AX := Lib.hid (tm_not x wr (HG.out.later HB.out))
      unfold M.v at AX
      clear hx hlt
      cases hh : (!tmB x)
      all_goals
        rw [hh] at AX
        have HH := Lib.hid hh
        clear hh
        go_wp2_with (first
          | (go_at_call 63; ((with_reducible refine AX.out.mono ?_); rintro e w1 ⟨rfl, b1⟩; have B1 := Lib.hid (bel_trans HB.out b1); clear b1))
          | fail)
        first
          | exact ⟨⟨k + 1, by omega, by simp, Lib.hid (any_take HAL.out HX.out HH.out), B1.out⟩, by simp [intOf]; omega⟩
          | (go_ret; exact ⟨⟨k, rfl, by rw [any_yes (p := fun m => !tmB m) HX.out HH.out]; simp⟩, B1.out⟩)
    · have hk1 : ¬ (k : Int) < (n : Int) := by omega
      have e : xs.take k = xs := List.take_of_length_le (by rw [HL.out]; omega)
      rw [e] at HAL
      go_wp2
      go_ret
      exact ⟨⟨-1, rfl, by rw [HAL.out]; decide⟩, HB.out⟩
set_option maxRecDepth 100000 in
set_option maxHeartbeats 2000000 in
theorem mcont_any (A : Option Addr) (n c : Nat) (xs : List M) (w : World) (hg : GW w) (hl : xs.length = n) (hn : n ≤ 1000000) (hA : EM.Rd w A xs) :
    Calls Tryz.prog 62 #[.slice A n c, .func (.func 63) #[] #[]] w fun r w' => r = .returned (.bool (xs.any (fun m => !tmB m))) ∧ Below w.heap.size w w' := by
  have P := Lib.hid (mindex_any A n c xs w hg hl hn hA)
  clear hl hn hA hg
  go_enter Tryz.func62, Tryz.ntmps62
  go_wp2_with (first
    | (go_at_call 80; ((with_reducible refine P.out.mono ?_); rintro e w1 ⟨⟨v, rfl, hv⟩, b1⟩; have B1 := Lib.hid b1; have HV := Lib.hid hv; clear b1 hv P))
    | fail)
  go_ret
  exact ⟨by rw [← HV.out]; rfl, B1.out⟩
end Go.Proofs.YtdebedeebmmleaaGreatDoor
namespace Go.Proofs.YtdebedeebmmleaaGreatDoor
open Go.RowKit Go.Maps
def nodeB (y : NdV) : Bool :=
  if y.k = 0 then decide (y.kids.length + y.piv.length + y.ms.length + y.bl.length = 0)
  else if y.k = 1 then decide (y.kids.length + y.piv.length + y.ms.length = 0)
  else if y.k = 2 then decide (y.bl.length = 0) && (decide (y.kids.length = y.piv.length + 1) && (!y.kids.any kdB && !y.ms.any (fun m => !tmB m)))
  else false
set_option maxHeartbeats 4000000 in
set_option maxRecDepth 100000 in
theorem tnode_any (x : NC) (hs : List Hd) (y : NdV) (w : World) (hg : GW w) (hN : NRd w x hs y) (hS : NSm y) :
    Calls Tryz.prog 34 #[nodeA x] w fun e w' => e = .returned (.bool (nodeB y)) ∧ Below w.heap.size w w' := by
  obtain ⟨W0, hW0⟩ : ∃ W0, W0 = w.alloc (nodeO x) := ⟨_, rfl⟩
  have B0 := Lib.hid (show Below w.heap.size w W0 by rw [hW0]; exact alb w _)
  have Z0 := Lib.hid (show W0.heap[w.heap.size]? = some (nodeO x) by rw [hW0]; exact heap_alloc_new w _)
  obtain ⟨c0, c1, c2, c3, c4⟩ := cells5 Z0.out
  have hxk := hN.k
  obtain ⟨nq, hnq⟩ : ∃ n, n = y.kids.length := ⟨_, rfl⟩
  obtain ⟨np, hnp⟩ : ∃ n, n = y.piv.length := ⟨_, rfl⟩
  obtain ⟨nm, hnm⟩ : ∃ n, n = y.ms.length := ⟨_, rfl⟩
  obtain ⟨nl, hnl⟩ : ∃ n, n = y.bl.length := ⟨_, rfl⟩
  have HM9 : Hid (x.m.n = nm) := Lib.hid (by rw [hN.m.1, hnm])
  rw [hxk] at c0
  rw [hN.p.1, ← hnp] at c1
  rw [hN.q.1, ← hnq] at c2
  rw [hN.m.1, ← hnm] at c3
  rw [hN.b.1, hN.b.2.2.1, ← hnl] at c4
  have hb : nq ≤ 400000 ∧ np ≤ 400000 ∧ nm ≤ 900000 ∧ nl ≤ 900000 := by have := hS.q; have := hS.p.1; have := hS.m.1; have := hS.b.1; omega
  have W1 : IntKind.i64.wrap ((nq : Int) + (np : Int)) = (nq : Int) + (np : Int) := IntWalk.i64_in _ (by omega)
  have W2 : IntKind.i64.wrap ((nq : Int) + (np : Int) + (nm : Int)) = (nq : Int) + (np : Int) + (nm : Int) := IntWalk.i64_in _ (by omega)
  have W3 : IntKind.i64.wrap ((nq : Int) + (np : Int) + (nm : Int) + (nl : Int)) = (nq : Int) + (np : Int) + (nm : Int) + (nl : Int) := IntWalk.i64_in _ (by omega)
  have W4 : IntKind.i64.wrap ((np : Int) + 1) = (np : Int) + 1 := IntWalk.i64_in _ (by omega)
  have KC := Lib.hid (kcont_any x.q.A nq x.q.c y.kids W0 hnq.symm (by omega) (hN.q.2.later B0.out))
  have MC := Lib.hid (fun V (b : Below W0.heap.size W0 V) => mcont_any x.m.A nm x.m.c y.ms V ((hg.later B0.out).later b) hnm.symm (by omega) ((hN.m.2.later B0.out).later b))
  unfold nodeB
  rw [← hnq, ← hnp, ← hnm, ← hnl]
  obtain ⟨k, hk⟩ : ∃ k, k = y.k := ⟨_, rfl⟩
  rw [← hk] at c0 ⊢
  obtain ⟨bk, hbk⟩ : ∃ b, b = y.kids.any kdB := ⟨_, rfl⟩
  obtain ⟨bm, hbm⟩ : ∃ b, b = y.ms.any (fun m => !tmB m) := ⟨_, rfl⟩
  rw [← hbk] at KC ⊢
  rw [← hbm] at MC ⊢
  clear hg hN hS hxk hnq hnp hnm hnl hk hbk hbm hb
  by_cases k0 : k = 0
  · subst k0
    rw [if_pos rfl]
    have e9 := Lib.hid (show (((nq : Int) + (np : Int) + (nm : Int) + (nl : Int)) == 0) = decide (nq + np + nm + nl = 0) by rw [Bool.eq_iff_iff]; simp; omega)
    go_enter Tryz.func34, Tryz.ntmps34
    go_upto_region 1 with fail
    rw [← hW0]
    clear hW0
    go_wp2
    go_ret
    exact ⟨by rw [← e9.out]; rfl, B0.out⟩
  rw [if_neg k0]
  by_cases k1 : k = 1
  · subst k1
    rw [if_pos rfl]
    have e9 := Lib.hid (show (((nq : Int) + (np : Int) + (nm : Int)) == 0) = decide (nq + np + nm = 0) by rw [Bool.eq_iff_iff]; simp; omega)
    go_enter Tryz.func34, Tryz.ntmps34
    go_upto_region 1 with fail
    rw [← hW0]
    clear hW0
    go_wp2
    go_ret
    exact ⟨by rw [← e9.out]; rfl, B0.out⟩
  rw [if_neg k1]
  by_cases k2 : k = 2
  · subst k2
    rw [if_pos rfl]
    by_cases h1 : nl = 0
    · have e1 : ((nl : Int) == 0) = true := by rw [h1]; rfl
      have H1 := Lib.hid h1
      clear h1
      by_cases h2 : nq = np + 1
      · have e2 : ((nq : Int) == (np : Int) + 1) = true := by rw [h2]; simp
        have H2 := Lib.hid h2
        clear h2
        cases bk with
        | true =>
          go_enter Tryz.func34, Tryz.ntmps34
          go_upto_region 1 with fail
          rw [← hW0]
          clear hW0
          go_wp2_with (first
            | (go_at_call 60; ((with_reducible refine KC.out.mono ?_); rintro e w1 ⟨rfl, b1⟩; have B1 := Lib.hid b1; clear b1))
            | fail)
          go_ret
          exact ⟨by simp, bel_trans B0.out B1.out⟩
        | false =>
          go_enter Tryz.func34, Tryz.ntmps34
          go_upto_region 1 with fail
          rw [← hW0]
          clear hW0
          go_wp2_with (first
            | (go_at_call 60; ((with_reducible refine KC.out.mono ?_); rintro e w1 ⟨rfl, b1⟩; have B1 := Lib.hid b1; have c3 := (cells5 (keep_bel b1 Z0.out)).2.2.2.1; rw [HM9.out] at c3; clear b1))
            | (go_at_call 62; ((with_reducible refine (MC.out _ B1.out).mono ?_); rintro e w2 ⟨rfl, b2⟩; have B2 := Lib.hid (bel_trans B1.out b2); clear b2))
            | fail)
          go_ret
          exact ⟨by simp [H1.out, H2.out], bel_trans B0.out B2.out⟩
      · have e2 : ((nq : Int) == (np : Int) + 1) = false := beq_eq_false_iff_ne.2 (by omega)
        go_enter Tryz.func34, Tryz.ntmps34
        go_upto_region 1 with fail
        rw [← hW0]
        clear hW0
        go_wp2
        go_ret
        exact ⟨by simp [h2], B0.out⟩
    · have e1 : ((nl : Int) == 0) = false := beq_eq_false_iff_ne.2 (by omega)
      go_enter Tryz.func34, Tryz.ntmps34
      go_upto_region 1 with fail
      rw [← hW0]
      clear hW0
      go_wp2
      go_ret
      exact ⟨by simp [h1], B0.out⟩
  · rw [if_neg k2]
    have e0 : (k == 0) = false := beq_eq_false_iff_ne.2 k0
    have e1 : (k == 1) = false := beq_eq_false_iff_ne.2 k1
    have e2 : (k == 2) = false := beq_eq_false_iff_ne.2 k2
    go_enter Tryz.func34, Tryz.ntmps34
    go_upto_region 1 with fail
    rw [← hW0]
    clear hW0
    go_wp2
    go_ret
    exact ⟨rfl, B0.out⟩
/-- A tree's nodes, read. -/
structure NT (w : World) (A : Option Addr) (ns : List NC) (ys : List NdV) : Prop where
  r : EN.Rd w A ns
  l : ns.length = ys.length
  e : ∀ (i : Nat) (x : NC) (y : NdV), ns[i]? = some x → ys[i]? = some y → ∃ hs, NRd w x hs y
theorem NT.later {w w' : World} {A : Option Addr} {ns : List NC} {ys : List NdV} (h : NT w A ns ys) (b : Below w.heap.size w w') : NT w' A ns ys :=
  ⟨h.r.later b, h.l, fun i x y hx hy => by obtain ⟨hs, q⟩ := h.e i x y hx hy; exact ⟨hs, q.later b⟩⟩
theorem en_at {w : World} {A : Option Addr} {xs : List NC} (h : EN.Rd w A xs) {i : Nat} {x : NC} (hi : xs[i]? = some x) : ∃ b off, A = some ⟨b, off, none⟩ ∧ b < w.heap.size ∧ w.cell? ⟨b, off + i * 5, none⟩ = some (.int .u8 x.k) ∧ w.cell? ⟨b, off + i * 5 + 1, none⟩ = some (.slice x.p.A x.p.n x.p.c) ∧ w.cell? ⟨b, off + i * 5 + 2, none⟩ = some (.slice x.q.A x.q.n x.q.c) ∧ w.cell? ⟨b, off + i * 5 + 3, none⟩ = some (.slice x.m.A x.m.n x.m.c) ∧ w.cell? ⟨b, off + i * 5 + 4, none⟩ = some (.slice x.b.A x.b.n x.b.c) := by
  obtain ⟨b, off, e, h1, h2⟩ := h.get hi
  exact ⟨b, off, e, h1, h2 0 _ rfl, h2 1 _ rfl, h2 2 _ rfl, h2 3 _ rfl, h2 4 _ rfl⟩
def toldAt (x : NdV × Nat) : Bool := nodeB x.1 && (decide (x.2 ≠ 0) || decide (x.1.k = 0))
def toldB (ys : List NdV) : Bool := decide (ys.length ≤ 4097) && ys.zipIdx.all toldAt
theorem zi_get {ys : List NdV} {k : Nat} {y : NdV} (h : ys[k]? = some y) : ys.zipIdx[k]? = some (y, k) := by rw [List.getElem?_zipIdx, h]; simp
theorem all_next {α : Type} {p : α → Bool} {xs : List α} {k : Nat} {x : α} (h : (xs.take k).all p = true) (hx : xs[k]? = some x) (hp : p x = true) : (xs.take (k + 1)).all p = true := by
  rw [List.take_add_one, hx, List.all_append, h]
  simp [hp]
theorem all_no {α : Type} {p : α → Bool} {xs : List α} {k : Nat} {x : α} (hx : xs[k]? = some x) (hp : p x = false) : xs.all p = false := List.all_eq_false.2 ⟨x, List.mem_of_getElem? hx, by simp [hp]⟩
set_option maxHeartbeats 4000000 in
set_option maxRecDepth 100000 in
theorem told_any (A : Option Addr) (n c : Nat) (ns : List NC) (ys : List NdV) (w : World) (hg : GW w) (hT : NT w A ns ys) (hl : ys.length = n) (hn : n ≤ 1000000) (hS : ∀ y ∈ ys, NSm y) :
    Calls Tryz.prog 18 #[.agg #[.slice A n c]] w fun e w' => e = .returned (.bool (toldB ys)) ∧ Below w.heap.size w w' := by
  have HG := Lib.hid hg
  have HT := Lib.hid hT
  have HL := Lib.hid (And.intro hl hn)
  have HS := Lib.hid hS
  obtain ⟨r, hr⟩ : ∃ r, toldB ys = r := ⟨_, rfl⟩
  rw [hr]
  unfold toldB at hr
  rw [hl] at hr
  obtain ⟨W0, hW0⟩ : ∃ W0, W0 = w.alloc (.cells #[.slice A n c] 24) := ⟨_, rfl⟩
  have B0 := Lib.hid (show Below w.heap.size w W0 by rw [hW0]; exact alb w _)
  have Z0 := Lib.hid (show W0.heap[w.heap.size]? = some (.cells #[.slice A n c] 24 (0, 0)) by rw [hW0]; exact heap_alloc_new w _)
  have c0 : W0.cell? ⟨w.heap.size, 0, none⟩ = some (.slice A n c) := cellh Z0.out rfl
  clear hg hT hl hS
  by_cases h4 : n ≤ 4097
  · have HR : Hid (ys.zipIdx.all toldAt = r) := Lib.hid (by rw [← hr]; simp [h4])
    have k4 : ¬ (4097 : Int) < (n : Int) := by omega
    clear hr hn
    go_enter Tryz.func18, Tryz.ntmps18
    go_upto_region 1 with fail
    rw [← hW0]
    clear hW0
    go_upto_region 4 with fail
    clear c0
    go_loopw [12] (fun iv wr => ∃ (k : Nat), k ≤ n ∧ iv = .int .i64 k ∧ Hid ((ys.zipIdx.take k).all toldAt = true) ∧ Below W0.heap.size W0 wr) (fun i _ => n - (intOf i).toNat)
    case atStart => exact ⟨0, by omega, rfl, Lib.hid rfl, Below.refl _ _⟩
    case round =>
      obtain ⟨k, hk, rfl, HAL, hb⟩ := hrel
      have HB := Lib.hid hb
      have BW := Lib.hid (bel_trans B0.out hb)
      have hnn := HL.out
      clear hb
      by_cases h8 : k < n
      · have hk1 : (k : Int) < (n : Int) := by omega
        have hk0 : (0 : Int) ≤ (k : Int) := by omega
        have WK : IntKind.i64.wrap ((k : Int) + 1) = (k : Int) + 1 := IntWalk.i64_in _ (by omega)
        obtain ⟨y, hy⟩ : ∃ y, ys[k]? = some y := ⟨_, List.getElem?_eq_getElem (by omega)⟩
        obtain ⟨x, hx⟩ : ∃ x, ns[k]? = some x := ⟨_, List.getElem?_eq_getElem (by have := HT.out.l; omega)⟩
        obtain ⟨hs, hn⟩ := HT.out.e k x y hx hy
        obtain ⟨b, off, rfl, hlt, g0, g1, g2, g3, g4⟩ := en_at (HT.out.r.later BW.out) hx
        obtain ⟨W3, hW3⟩ : ∃ W3, W3 = wr.alloc (nodeO x) := ⟨_, rfl⟩
        have B3 := Lib.hid (show Below wr.heap.size wr W3 by rw [hW3]; exact alb wr _)
        have Z3 := Lib.hid (show W3.heap[wr.heap.size]? = some (nodeO x) by rw [hW3]; exact heap_alloc_new wr _)
        have BW3 := Lib.hid (bel_trans BW.out B3.out)
        have TN := Lib.hid (tnode_any x hs y W3 (HG.out.later BW3.out) (hn.later BW3.out) (HS.out y (List.mem_of_getElem? hy)))
        have HX := Lib.hid (zi_get hy)
        have HYK := Lib.hid (show x.k = y.k from hn.k)
        clear hx hy hlt hn hnn
        go_upto_region 6 with fail
        rw [← hW3]
        clear hW3 g0 g1 g2 g3 g4
        obtain ⟨d0, d1, d2, d3, d4⟩ := cells5 Z3.out
        cases hh : nodeB y with
        | false =>
          rw [hh] at TN
          have HF : Hid (r = false) := Lib.hid (by rw [← HR.out]; exact all_no HX.out (by unfold toldAt; simp only; rw [hh]; rfl))
          clear hh
          go_wp2_with (first
            | (go_at_call 34; ((with_reducible refine TN.out.mono ?_); rintro e w4 ⟨rfl, b4⟩; have B4 := Lib.hid (bel_trans BW3.out b4); clear b4))
            | fail)
          go_ret
          exact ⟨by rw [HF.out]; try rfl, B4.out⟩
        | true =>
          rw [hh] at TN
          by_cases hk9 : k = 0
          · subst hk9
            by_cases hyz : y.k = 0
            · have HA2 := Lib.hid (all_next HAL.out HX.out (by unfold toldAt; simp only; rw [hh, hyz]; rfl))
              have ex : (x.k == 0) = true := by rw [HYK.out, hyz]; rfl
              clear hh hyz
              go_wp2_with (first
                | (go_at_call 34; ((with_reducible refine TN.out.mono ?_); rintro e w4 ⟨rfl, b4⟩; have B4 := Lib.hid (bel_trans (bel_trans HB.out B3.out) b4); have d0 := (cells5 (keep_bel b4 Z3.out)).1; clear b4))
                | fail)
              exact ⟨⟨0 + 1, by omega, by simp, HA2, B4.out⟩, by simp [intOf]; omega⟩
            · have HF : Hid (r = false) := Lib.hid (by rw [← HR.out]; exact all_no HX.out (by unfold toldAt; simp only; rw [hh, decide_eq_false hyz]; rfl))
              have ex : (x.k == 0) = false := beq_eq_false_iff_ne.2 (by rw [HYK.out]; exact hyz)
              clear hh hyz
              go_wp2_with (first
                | (go_at_call 34; ((with_reducible refine TN.out.mono ?_); rintro e w4 ⟨rfl, b4⟩; have B4 := Lib.hid (bel_trans (bel_trans HB.out B3.out) b4); have d0 := (cells5 (keep_bel b4 Z3.out)).1; clear b4))
                | fail)
              go_ret
              exact ⟨by rw [HF.out]; try rfl, bel_trans B0.out B4.out⟩
          · have HA2 := Lib.hid (all_next HAL.out HX.out (by unfold toldAt; simp only; rw [hh, decide_eq_true hk9]; rfl))
            have ek : ((k : Int) == 0) = false := beq_eq_false_iff_ne.2 (by omega)
            clear hh hk9
            go_wp2_with (first
              | (go_at_call 34; ((with_reducible refine TN.out.mono ?_); rintro e w4 ⟨rfl, b4⟩; have B4 := Lib.hid (bel_trans (bel_trans HB.out B3.out) b4); have d0 := (cells5 (keep_bel b4 Z3.out)).1; clear b4))
              | fail)
            exact ⟨⟨k + 1, by omega, by simp, HA2, B4.out⟩, by simp [intOf]; omega⟩
      · have hk1 : ¬ (k : Int) < (n : Int) := by omega
        have e : ys.zipIdx.take k = ys.zipIdx := List.take_of_length_le (by rw [List.length_zipIdx]; omega)
        rw [e, HR.out] at HAL
        go_wp2
        go_ret
        exact ⟨by rw [HAL.out]; try rfl, BW.out⟩
  · have HF : Hid (r = false) := Lib.hid (by rw [← hr]; simp [h4])
    have k4 : (4097 : Int) < (n : Int) := by omega
    clear hr hn
    go_enter Tryz.func18, Tryz.ntmps18
    go_upto_region 1 with fail
    rw [← hW0]
    clear hW0
    go_wp2
    go_ret
    exact ⟨by rw [HF.out]; try rfl, B0.out⟩
end Go.Proofs.YtdebedeebmmleaaGreatDoor
namespace Go.Proofs.YtdebedeebmmleaaGreatDoor
open Go.RowKit Go.Maps
def nodeF (x : NdV × Nat) : List UInt8 := nodeL x.2 x.1
theorem tm_of {m : M} (h : TMs m) : tmB m = true := by
  unfold tmB
  simp only [Bool.and_eq_true, decide_eq_true_eq]
  exact ⟨⟨h.q.1, h.q.2⟩, h.f⟩
theorem node_of {y : NdV} (h : TNd y) : nodeB y = true := by
  unfold nodeB
  rcases h with ⟨h0, h1, h2, h3, h4⟩ | ⟨h0, h1, h2, h3⟩ | ⟨h0, h1, h2, h3, h4⟩
  · rw [if_pos h0, h1, h2, h3, h4]; rfl
  · rw [if_neg (by omega), if_pos h0, h1, h2, h3]; rfl
  · rw [if_neg (by omega), if_neg (by omega), if_pos h0, h1]
    have e1 : y.kids.any kdB = false := by
      rw [List.any_eq_false]
      intro v hv
      have := h3 v hv
      unfold kdB
      simp
      omega
    have e2 : y.ms.any (fun m => !tmB m) = false := by
      rw [List.any_eq_false]
      intro m hm
      simp [tm_of (h4 m hm)]
    rw [e1, e2]
    simp [h2]
theorem told_of {ys : List NdV} (h : TAll ys) (hl : ys.length ≤ 4097) : toldB ys = true := by
  unfold toldB
  rw [Bool.and_eq_true]
  refine ⟨by simp [hl], ?_⟩
  rw [List.all_eq_true]
  intro x hx
  obtain ⟨i, hi⟩ := List.mem_iff_getElem?.1 hx
  rw [List.getElem?_zipIdx] at hi
  cases hq : ys[i]? with
  | none => rw [hq] at hi; cases hi
  | some y =>
    rw [hq] at hi
    simp only [Option.map_some, Option.some.injEq] at hi
    subst hi
    unfold toldAt
    simp only
    rw [node_of (h.2 y (List.mem_of_getElem? hq))]
    by_cases h0 : i = 0
    · subst h0
      rw [h.1 y hq]
      simp
    · simp [h0]
set_option maxHeartbeats 4000000 in
set_option maxRecDepth 100000 in
theorem print_ok (A : Option Addr) (n c : Nat) (ns : List NC) (ys : List NdV) (w : World) (hg : GW w) (hT : NT w A ns ys) (hl : ys.length = n) (hn : n ≤ 4097) (hS : ∀ y ∈ ys, NSm y) (hA : TAll ys) (ht : (dprL ys).length ≤ 4194304) :
    Calls Tryz.prog 9 #[.agg #[.slice A n c]] w fun e w' => e = .returned (.tuple #[.string ⟨(dprL ys).toArray⟩, .int .i64 0]) ∧ Below w.heap.size w w' := by
  have TD := told_any A n c ns ys
  rw [told_of hA (by omega)] at TD
  obtain ⟨l0, hl0⟩ : ∃ l0, l0 = lineL [wTree, itoaB (n : Int)] := ⟨_, rfl⟩
  have hpr : dprL ys = l0 ++ ys.zipIdx.flatMap nodeF := by rw [hl0, ← hl]; rfl
  obtain ⟨T, hT0⟩ : ∃ T, T = dprL ys := ⟨_, rfl⟩
  rw [← hT0] at ht hpr ⊢
  have HL := Lib.hid (fun k => (show (l0 ++ (ys.zipIdx.take k).flatMap nodeF).length ≤ 4194304 by
    have := fm_take nodeF ys.zipIdx k
    rw [hpr, List.length_append] at ht
    rw [List.length_append]
    omega))
  have HPR := Lib.hid hpr
  have HL0 := Lib.hid hl0
  have HNE : Hid (T ≠ []) := Lib.hid (by rw [hpr, hl0]; simp [line_ne])
  have HTL : Hid (¬ (4194304 : Int) < (T.length : Int)) := Lib.hid (by omega)
  have HG := Lib.hid hg
  have HT := Lib.hid hT
  have HLN := Lib.hid (And.intro hl hn)
  have HS := Lib.hid hS
  have HA := Lib.hid hA
  obtain ⟨W0, hW0⟩ : ∃ W0, W0 = w.alloc (.cells #[.slice A n c] 24) := ⟨_, rfl⟩
  have B0 := Lib.hid (show Below w.heap.size w W0 by rw [hW0]; exact alb w _)
  have Z0 := Lib.hid (show W0.heap[w.heap.size]? = some (.cells #[.slice A n c] 24 (0, 0)) by rw [hW0]; exact heap_alloc_new w _)
  have c0 : W0.cell? ⟨w.heap.size, 0, none⟩ = some (.slice A n c) := cellh Z0.out rfl
  have TD0 := Lib.hid (TD W0 (hg.later B0.out) (hT.later B0.out) hl (by omega) hS)
  clear hg hT hl hn hS hA ht hpr hT0 hl0 TD
  go_enter Tryz.func9, Tryz.ntmps9
  go_upto_region 1 with fail
  rw [← hW0]
  clear hW0
  go_upto_region 3 with (first
    | (go_at_call 18; ((with_reducible refine TD0.out.mono ?_); rintro e w1 ⟨rfl, b1⟩; have B1 := Lib.hid (bel_trans B0.out b1); have Z1 := Lib.hid (keep_bel b1 Z0.out); clear b1))
    | fail)
  obtain ⟨W2, hW2⟩ : ∃ W2, W2 = w1.alloc (.cells #[.pointer none, .slice none 0 0] 51) := ⟨_, rfl⟩
  obtain ⟨b, hb⟩ : ∃ b, b = w1.heap.size := ⟨_, rfl⟩
  have D2 := Lib.hid (show Bd 51 b b [] W2 by rw [hb, hW2]; exact Bd.new59 w1)
  have B2 := Lib.hid (show Below b w1 W2 by rw [hb, hW2]; exact alb w1 _)
  have HB2 := Lib.hid (show b < W2.heap.size by rw [hb, hW2]; simp)
  have HBW := Lib.hid (show w.heap.size < b by rw [hb]; exact heap_lt Z1.out)
  have G2 := Lib.hid (show GB b W2 from ⟨Nat.le_of_lt HB2.out, fun V hV => HG.out.later (B1.out.trans ((B2.out.trans hV).mono (Nat.le_of_lt HBW.out)))⟩)
  have NT2 := Lib.hid (show ∀ V, Below b W2 V → NT V A ns ys from fun V hV => HT.out.later (B1.out.trans ((B2.out.trans hV).mono (Nat.le_of_lt HBW.out))))
  have BW2 := Lib.hid (show ∀ V, Below b W2 V → Below w.heap.size w V from fun V hV => B1.out.trans ((B2.out.trans hV).mono (Nat.le_of_lt HBW.out)))
  have Z2 := Lib.hid (show ∀ V, Below b W2 V → V.cell? ⟨w.heap.size, 0, none⟩ = some (.slice A n c) from fun V hV => cellh (((B2.out.trans hV).block _ HBW.out).trans Z1.out) rfl)
  have P2 := Lib.hid (PK.start D2.out)
  clear c0
  go_upto_region 4 with fail
  rw [← hW2, ← hb]
  clear hW2 hb
  have c0 := Z2.out W2 (Below.refl _ _)
  go_upto_region 5 with (first
    | (go_at_call 20; ((with_reducible refine (itoa_any (n : Int) (by have := HLN.out; omega) (by have := HLN.out; omega) _ G2.out.gw).mono ?_); rintro e w3 ⟨rfl, b3⟩; have B3 := Lib.hid b3; clear b3))
    | (go_at_call 19; ((refine (line_any b b _ 2 2 [wTree, itoaB (n : Int)] [] _ rfl (by omega) (by omega) (WB.lit w3 #[.string wTree, .string (itoaB (n : Int))] [wTree, itoaB (n : Int)] rfl) (P2.out.later (bel_alloc B3.out _) G2.out.le).d (Nat.le_trans G2.out.le (bel_alloc B3.out _).size) (by simp) (by intro z hz; simp only [List.mem_cons, List.not_mem_nil, or_false] at hz; rcases hz with rfl | rfl <;> first | decide | (have := itoa_sz (n : Int) (by have := HLN.out; omega) (by have := HLN.out; omega); omega)) (by have := HB2.out; have := B3.out.size; omega)).mono ?_); rintro e w4 ⟨rfl, p4⟩; have P4 := Lib.hid ((P2.out.later (bel_alloc B3.out _) G2.out.le).then p4); clear p4))
    | fail)
  rw [List.nil_append, ← HL0.out] at P4
  replace c0 := Z2.out w4 P4.out.bl
  go_upto_region 6 with fail
  clear c0
  go_loopw [22] (fun kv wr => ∃ k : Nat, k ≤ n ∧ kv = .int .i64 k ∧ PK b b (l0 ++ (ys.zipIdx.take k).flatMap nodeF) W2 wr) (fun kv _ => n - (intOf kv).toNat)
  case atStart => exact ⟨0, by omega, rfl, by simpa using P4.out⟩
  case round =>
    obtain ⟨k, hk, rfl, hpk⟩ := hrel
    have HP := Lib.hid hpk
    clear hpk
    have hnn := HLN.out
    by_cases h8 : k < n
    · have hk1 : (k : Int) < (n : Int) := by omega
      have hk0 : (0 : Int) ≤ (k : Int) := by omega
      have WK : IntKind.i64.wrap ((k : Int) + 1) = (k : Int) + 1 := IntWalk.i64_in _ (by omega)
      obtain ⟨y, hy⟩ : ∃ y, ys[k]? = some y := ⟨_, List.getElem?_eq_getElem (by omega)⟩
      have hNT := NT2.out wr HP.out.bl
      obtain ⟨x, hx⟩ : ∃ x, ns[k]? = some x := ⟨_, List.getElem?_eq_getElem (by have := hNT.l; omega)⟩
      obtain ⟨b5, off, hAe, hlt, g0, g1, g2, g3, g4⟩ := en_at hNT.r hx
      obtain ⟨hs, hnr⟩ := HT.out.e k x y hx hy
      obtain ⟨W3, hW3⟩ : ∃ W3, W3 = wr.alloc (nodeO x) := ⟨_, rfl⟩
      have B3 := Lib.hid (show Below wr.heap.size wr W3 by rw [hW3]; exact alb wr _)
      have Z3 := Lib.hid (show W3.heap[wr.heap.size]? = some (nodeO x) by rw [hW3]; exact heap_alloc_new wr _)
      have P3 := Lib.hid (HP.out.later B3.out (Nat.le_trans G2.out.le HP.out.bl.size))
      have G3 := Lib.hid (G2.out.bel P3.out.bl)
      have HX := Lib.hid (fm_next nodeF (zi_get hy))
      have HLX := Lib.hid (show ((l0 ++ (ys.zipIdx.take k).flatMap nodeF) ++ nodeL k y).length ≤ 4194304 by have := HL.out (k + 1); rw [HX.out, ← List.append_assoc] at this; exact this)
      have HNV := Lib.hid (show ∀ V, Below b W3 V → NRd V x hs y from fun V hV => hnr.later (BW2.out V (P3.out.bl.trans hV)))
      have HYK := Lib.hid (show x.k = y.k from hnr.k)
      have HSY := Lib.hid (HS.out y (List.mem_of_getElem? hy))
      have HTY := HA.out.2 y (List.mem_of_getElem? hy)
      rw [hAe]
      clear hNT hx hy hlt hnr hnn hAe
      go_upto_region 8 with fail
      rw [← hW3]
      clear hW3 g0 g1 g2 g3 g4
      obtain ⟨d0, d1, d2, d3, d4⟩ := cells5 Z3.out
      rcases HTY with hty | hty | hty
      · have e1 : (x.k == 1) = false := beq_eq_false_iff_ne.2 (by rw [HYK.out, hty.1]; decide)
        have e2 : (x.k == 2) = false := beq_eq_false_iff_ne.2 (by rw [HYK.out, hty.1]; decide)
        have HZ := Lib.hid (show nodeF (y, k) = [] by unfold nodeF nodeL; simp only; rw [hty.1]; rfl)
        clear hty
        go_wp2
        exact ⟨⟨k + 1, by omega, rfl, by rw [HX.out, HZ.out, List.append_nil]; exact P3.out⟩, by simp [intOf]; omega⟩
      · have e1 : (x.k == 1) = true := by rw [HYK.out, hty.1]; rfl
        have LF := Lib.hid (leaf_any b b k x hs y _ W3 G3.out (by have := HLN.out; omega) hty.1 HNV.out HSY.out P3.out.d (Nat.lt_of_lt_of_le HB2.out P3.out.bl.size) HLX.out)
        clear hty
        go_wp2_with (first
          | (go_at_call 21; ((with_reducible refine LF.out.mono ?_); rintro e w5 ⟨rfl, p5⟩; have P5 := Lib.hid (P3.out.then p5); clear p5))
          | fail)
        exact ⟨⟨k + 1, by omega, rfl, by rw [HX.out, ← List.append_assoc]; exact P5.out⟩, by simp [intOf]; omega⟩
      · have e1 : (x.k == 1) = false := beq_eq_false_iff_ne.2 (by rw [HYK.out, hty.1]; decide)
        have e2 : (x.k == 2) = true := by rw [HYK.out, hty.1]; rfl
        have LF := Lib.hid (inner_pr b b k x hs y _ W3 G3.out (by have := HLN.out; omega) hty.1 ⟨hty.2.2.1, hty.2.2.2.1, hty.2.2.2.2⟩ HNV.out HSY.out P3.out.d (Nat.lt_of_lt_of_le HB2.out P3.out.bl.size) HLX.out)
        clear hty
        go_wp2_with (first
          | (go_at_call 22; ((with_reducible refine LF.out.mono ?_); rintro e w5 ⟨rfl, p5⟩; have P5 := Lib.hid (P3.out.then p5); clear p5))
          | fail)
        exact ⟨⟨k + 1, by omega, rfl, by rw [HX.out, ← List.append_assoc]; exact P5.out⟩, by simp [intOf]; omega⟩
    · have hke : k = n := by omega
      subst hke
      have hk1 : ¬ (k : Int) < (k : Int) := by omega
      have e : ys.zipIdx.take k = ys.zipIdx := List.take_of_length_le (by rw [List.length_zipIdx]; omega)
      rw [e, ← HPR.out] at HP
      have kT := HTL.out
      have LN := Lib.hid (len_any b b T wr HP.out.d)
      have SS := Lib.hid (string_some b b T wr HP.out.d HNE.out)
      clear e hnn
      go_wp2_with (first
        | (go_at_call 23; ((with_reducible refine LN.out.mono ?_); rintro e w7 ⟨rfl, hw⟩; (have hw2 := hw.symm; subst hw2; clear hw)))
        | (go_at_call 24; ((with_reducible refine SS.out.mono ?_); rintro e w8 ⟨rfl, b8, o8⟩; have B8 := Lib.hid (HP.out.bl.trans b8); clear b8 o8))
        | fail)
      refine bodyPost_ret (v := .tuple #[.string ⟨T.toArray⟩, .int .i64 0]) (by simp [results, Tryz.results9, go_sem]) rfl ⟨rfl, BW2.out _ B8.out⟩
end Go.Proofs.YtdebedeebmmleaaGreatDoor
