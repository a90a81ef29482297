/- Texts of the proof, one behind the other. -/
import Derived.Test.YtdebedeebmmleaaGreatDoorTc23
set_option linter.unusedVariables false
set_option linter.unusedSimpArgs false
namespace Go.Proofs.YtdebedeebmmleaaGreatDoor
open Go.RowKit Go.Maps
theorem gw_cells {w : World} (h : GW w) : w.cell? ⟨0, 0, none⟩ = some (.int .i64 2147483647) ∧ w.cell? ⟨0, 1, none⟩ = some (.int .i64 2147483647) ∧ w.cell? ⟨0, 2, none⟩ = some (.int .i64 0) ∧ w.cell? ⟨0, 3, none⟩ = some (.int .i64 0) ∧ w.cell? ⟨0, 4, none⟩ = some (.int .i64 0) ∧ w.cell? ⟨0, 5, none⟩ = some (.int .i64 0) ∧ w.cell? ⟨0, 6, none⟩ = some (.int .i64 0) ∧ w.cell? ⟨0, 7, none⟩ = some (.int .i64 0) ∧ w.cell? ⟨0, 8, none⟩ = some (.int .i64 0) :=
  ⟨h.an 0 _ rfl, h.an 1 _ rfl, h.an 2 _ rfl, h.an 3 _ rfl, h.an 4 _ rfl, h.an 5 _ rfl, h.an 6 _ rfl, h.an 7 _ rfl, h.an 8 _ rfl⟩
/-- A message's tick is in its range, and its form is good. -/
def tmB (m : M) : Bool := decide (-1099511627776 ≤ m.q) && decide (m.q ≤ 1099511627776) && decide (mF m.k m.dl 2147483647 2147483647 m.key m.too m.val ≠ 3)
set_option maxHeartbeats 2000000 in
set_option maxRecDepth 100000 in
theorem tmsg_any (m : M) (w : World) (hg : GW w) : Calls Tryz.prog 64 #[m.v] w fun e w' => e = .returned (.bool (tmB m)) ∧ Below w.heap.size w w' := by
  have HG := Lib.hid hg
  obtain ⟨k, q, key, too, val, dl⟩ := m
  unfold tmB M.v
  simp only
  obtain ⟨W0, hW0⟩ : ∃ W0, W0 = w.alloc (.cells #[.int .u8 k, .int .i64 q, .string key, .string too, .string val, .int .u64 dl] 73) := ⟨_, rfl⟩
  have B0 := Lib.hid (show Below w.heap.size w W0 by rw [hW0]; exact alb w _)
  have Z0 := Lib.hid (show W0.heap[w.heap.size]? = some (.cells #[.int .u8 k, .int .i64 q, .string key, .string too, .string val, .int .u64 dl] 73) by rw [hW0]; exact heap_alloc_new w _)
  obtain ⟨c0, c1, c2, c3, c4, c5⟩ := cells6 Z0.out
  obtain ⟨g0, g1, g2, g3, g4, g5, g6, g7, g8⟩ := gw_cells (hg.later B0.out)
  obtain ⟨a, ha⟩ : ∃ a, mF k dl 2147483647 2147483647 key too val = a := ⟨_, rfl⟩
  have MC := Lib.hid (mchk_any k q dl 2147483647 2147483647 0 0 0 0 0 0 0 key too val)
  unfold cfg at MC
  rw [ha] at MC ⊢
  clear hg ha
  by_cases h1 : -1099511627776 ≤ q
  · by_cases h2 : q ≤ 1099511627776
    · by_cases h3 : a = 3
      · subst h3
        go_enter Tryz.func64, Tryz.ntmps64
        go_upto_region 1 with fail
        rw [← hW0]
        clear hW0
        go_wp2_with (first
          | (go_at_call 81; ((with_reducible refine (MC.out _).mono ?_); rintro e w1 ⟨rfl, b1⟩; have B1 := Lib.hid (bel_trans B0.out b1); clear b1))
          | fail)
        go_ret
        exact ⟨by simp, B1.out⟩
      · have e3 : (a == 3) = false := beq_eq_false_iff_ne.2 h3
        go_enter Tryz.func64, Tryz.ntmps64
        go_upto_region 1 with fail
        rw [← hW0]
        clear hW0
        go_wp2_with (first
          | (go_at_call 81; ((with_reducible refine (MC.out _).mono ?_); rintro e w1 ⟨rfl, b1⟩; have B1 := Lib.hid (bel_trans B0.out b1); clear b1))
          | fail)
        go_ret
        exact ⟨by simp [h1, h2, h3], B1.out⟩
    · go_enter Tryz.func64, Tryz.ntmps64
      go_upto_region 1 with fail
      rw [← hW0]
      clear hW0
      go_wp2
      go_ret
      exact ⟨by simp; omega, B0.out⟩
  · go_enter Tryz.func64, Tryz.ntmps64
    go_upto_region 1 with fail
    rw [← hW0]
    clear hW0
    go_wp2
    go_ret
    exact ⟨by simp; omega, B0.out⟩
set_option maxHeartbeats 1000000 in
set_option maxRecDepth 100000 in
theorem tm_not (m : M) (w : World) (hg : GW w) : Calls Tryz.prog 63 #[m.v] w fun e w' => e = .returned (.bool (!tmB m)) ∧ Below w.heap.size w w' := by
  obtain ⟨W0, hW0⟩ : ∃ W0, W0 = w.alloc (msgO m) := ⟨_, rfl⟩
  have B0 := Lib.hid (show Below w.heap.size w W0 by rw [hW0]; exact alb w _)
  have Z0 := Lib.hid (show W0.heap[w.heap.size]? = some (msgO m) by rw [hW0]; exact heap_alloc_new w _)
  obtain ⟨c0, c1, c2, c3, c4, c5⟩ := cells6 Z0.out
  have TM := Lib.hid (tmsg_any m W0 (hg.later B0.out))
  unfold M.v at TM ⊢
  clear hg
  go_enter Tryz.func63, Tryz.ntmps63
  go_upto_region 1 with fail
  rw [← hW0]
  clear hW0
  go_wp2_with (first
    | (go_at_call 64; ((with_reducible refine TM.out.mono ?_); rintro e w1 ⟨rfl, b1⟩; have B1 := Lib.hid (bel_trans B0.out b1); clear b1))
    | fail)
  go_ret
  exact ⟨rfl, B1.out⟩
def kdB (v : Int) : Bool := decide (v < 0) || decide (2147483647 < v)
set_option maxHeartbeats 1000000 in
theorem kid_not (v : Int) (w : World) : Calls Tryz.prog 61 #[.int .i64 v] w fun e w' => e = .returned (.bool (kdB v)) ∧ Below w.heap.size w w' := by
  unfold kdB
  by_cases h1 : v < 0
  · go_enter Tryz.func61, Tryz.ntmps61
    go_wp2
    go_ret
    exact ⟨by simp [h1], Below.refl _ _⟩
  · by_cases h2 : 2147483647 < v
    · go_enter Tryz.func61, Tryz.ntmps61
      go_wp2
      go_ret
      exact ⟨by simp [h2], Below.refl _ _⟩
    · go_enter Tryz.func61, Tryz.ntmps61
      go_wp2
      go_ret
      exact ⟨by simp [h1, h2], Below.refl _ _⟩
theorem any_take {α : Type} {p : α → Bool} {xs : List α} {k : Nat} {x : α} (h : (xs.take k).any p = false) (hx : xs[k]? = some x) (hp : p x = false) : (xs.take (k + 1)).any p = false := by
  rw [List.take_add_one, hx, List.any_append, h]
  simp [hp]
theorem any_yes {α : Type} {p : α → Bool} {xs : List α} {k : Nat} {x : α} (hx : xs[k]? = some x) (hp : p x = true) : xs.any p = true := List.any_eq_true.2 ⟨x, List.mem_of_getElem? hx, hp⟩
set_option maxRecDepth 100000 in
set_option maxHeartbeats 2000000 in
theorem kindex_any (A : Option Addr) (n c : Nat) (xs : List Int) (w : World) (hl : xs.length = n) (hn : n ≤ 1000000) (hA : EI.Rd w A xs) :
    Calls Tryz.prog 79 #[.slice A n c, .func (.func 61) #[] #[]] w fun r w' => (∃ v : Int, r = .returned (.int .i64 v) ∧ (decide (0 ≤ v)) = xs.any kdB) ∧ Below w.heap.size w w' := by
  have HL := Lib.hid hl
  have HA := Lib.hid hA
  have HN := Lib.hid hn
  clear hl hA hn
  go_enter Tryz.func79, Tryz.ntmps79
  go_upto_region 2 with fail
  go_loopw [8] (fun iv wr => ∃ (k : Nat), k ≤ n ∧ iv = .int .i64 k ∧ Hid ((xs.take k).any kdB = false) ∧ Below w.heap.size w wr) (fun i _ => n - (intOf i).toNat)
  case atStart => exact ⟨0, by omega, rfl, Lib.hid rfl, Below.refl _ _⟩
  case round =>
    obtain ⟨k, hk, rfl, HAL, hb⟩ := hrel
    have HB := Lib.hid hb
    have hnn := HN.out
    clear hb
    by_cases h8 : k < n
    · have hk1 : (k : Int) < (n : Int) := by omega
      have hk0 : (0 : Int) ≤ (k : Int) := by omega
      have WK : IntKind.i64.wrap ((k : Int) + 1) = (k : Int) + 1 := IntWalk.i64_in _ (by omega)
      obtain ⟨x, hx⟩ : ∃ x, xs[k]? = some x := ⟨_, List.getElem?_eq_getElem (by rw [HL.out]; omega)⟩
      obtain ⟨b, off, rfl, hlt, g0⟩ := ei_at (HA.out.later HB.out) hx
      have HX := Lib.hid hx
      have AX := Lib.hid (kid_not x wr)
      clear hx hlt
      cases hh : kdB x
      all_goals
        rw [hh] at AX
        have HH := Lib.hid hh
        clear hh
        go_wp2_with (first
          | (go_at_call 61; ((with_reducible refine AX.out.mono ?_); rintro e w1 ⟨rfl, b1⟩; have B1 := Lib.hid (bel_trans HB.out b1); clear b1))
          | fail)
        first
          | exact ⟨⟨k + 1, by omega, by simp, Lib.hid (any_take HAL.out HX.out HH.out), B1.out⟩, by simp [intOf]; omega⟩
          | (go_ret; exact ⟨⟨k, rfl, by rw [any_yes HX.out HH.out]; simp⟩, B1.out⟩)
    · have hk1 : ¬ (k : Int) < (n : Int) := by omega
      have e : xs.take k = xs := List.take_of_length_le (by rw [HL.out]; omega)
      rw [e] at HAL
      go_wp2
      go_ret
      exact ⟨⟨-1, rfl, by rw [HAL.out]; decide⟩, HB.out⟩
set_option maxRecDepth 100000 in
set_option maxHeartbeats 2000000 in
theorem kcont_any (A : Option Addr) (n c : Nat) (xs : List Int) (w : World) (hl : xs.length = n) (hn : n ≤ 1000000) (hA : EI.Rd w A xs) :
    Calls Tryz.prog 60 #[.slice A n c, .func (.func 61) #[] #[]] w fun r w' => r = .returned (.bool (xs.any kdB)) ∧ Below w.heap.size w w' := by
  have P := Lib.hid (kindex_any A n c xs w hl hn hA)
  clear hl hn hA
  go_enter Tryz.func60, Tryz.ntmps60
  go_wp2_with (first
    | (go_at_call 79; ((with_reducible refine P.out.mono ?_); rintro e w1 ⟨⟨v, rfl, hv⟩, b1⟩; have B1 := Lib.hid b1; have HV := Lib.hid hv; clear b1 hv P))
    | fail)
  go_ret
  exact ⟨by rw [← HV.out]; rfl, B1.out⟩
set_option maxRecDepth 100000 in
set_option maxHeartbeats 2000000 in
theorem mindex_any (A : Option Addr) (n c : Nat) (xs : List M) (w : World) (hg : GW w) (hl : xs.length = n) (hn : n ≤ 1000000) (hA : EM.Rd w A xs) :
    Calls Tryz.prog 80 #[.slice A n c, .func (.func 63) #[] #[]] w fun r w' => (∃ v : Int, r = .returned (.int .i64 v) ∧ (decide (0 ≤ v)) = xs.any (fun m => !tmB m)) ∧ Below w.heap.size w w' := by
  have HL := Lib.hid hl
  have HA := Lib.hid hA
  have HN := Lib.hid hn
  have HG := Lib.hid hg
  clear hl hA hn hg
  go_enter Tryz.func80, Tryz.ntmps80
  go_upto_region 2 with fail
  go_loopw [8] (fun iv wr => ∃ (k : Nat), k ≤ n ∧ iv = .int .i64 k ∧ Hid ((xs.take k).any (fun m => !tmB m) = false) ∧ Below w.heap.size w wr) (fun i _ => n - (intOf i).toNat)
  case atStart => exact ⟨0, by omega, rfl, Lib.hid rfl, Below.refl _ _⟩
  case round =>
    obtain ⟨k, hk, rfl, HAL, hb⟩ := hrel
    have HB := Lib.hid hb
    have hnn := HN.out
    clear hb
    by_cases h8 : k < n
    · have hk1 : (k : Int) < (n : Int) := by omega
      have hk0 : (0 : Int) ≤ (k : Int) := by omega
      have WK : IntKind.i64.wrap ((k : Int) + 1) = (k : Int) + 1 := IntWalk.i64_in _ (by omega)
      obtain ⟨x, hx⟩ : ∃ x, xs[k]? = some x := ⟨_, List.getElem?_eq_getElem (by rw [HL.out]; omega)⟩
      obtain ⟨b, off, rfl, hlt, g0, g1, g2, g3, g4, g5⟩ := em_at (HA.out.later HB.out) hx
      have HX := Lib.hid hx
      have AX := Lib.hid (tm_not x wr (HG.out.later HB.out))
      unfold M.v at AX
      clear hx hlt
      cases hh : (!tmB x)
      all_goals
        rw [hh] at AX
        have HH := Lib.hid hh
        clear hh
        go_wp2_with (first
          | (go_at_call 63; ((with_reducible refine AX.out.mono ?_); rintro e w1 ⟨rfl, b1⟩; have B1 := Lib.hid (bel_trans HB.out b1); clear b1))
          | fail)
        first
          | exact ⟨⟨k + 1, by omega, by simp, Lib.hid (any_take HAL.out HX.out HH.out), B1.out⟩, by simp [intOf]; omega⟩
          | (go_ret; exact ⟨⟨k, rfl, by rw [any_yes (p := fun m => !tmB m) HX.out HH.out]; simp⟩, B1.out⟩)
    · have hk1 : ¬ (k : Int) < (n : Int) := by omega
      have e : xs.take k = xs := List.take_of_length_le (by rw [HL.out]; omega)
      rw [e] at HAL
      go_wp2
      go_ret
      exact ⟨⟨-1, rfl, by rw [HAL.out]; decide⟩, HB.out⟩
set_option maxRecDepth 100000 in
set_option maxHeartbeats 2000000 in
theorem mcont_any (A : Option Addr) (n c : Nat) (xs : List M) (w : World) (hg : GW w) (hl : xs.length = n) (hn : n ≤ 1000000) (hA : EM.Rd w A xs) :
    Calls Tryz.prog 62 #[.slice A n c, .func (.func 63) #[] #[]] w fun r w' => r = .returned (.bool (xs.any (fun m => !tmB m))) ∧ Below w.heap.size w w' := by
  have P := Lib.hid (mindex_any A n c xs w hg hl hn hA)
  clear hl hn hA hg
  go_enter Tryz.func62, Tryz.ntmps62
  go_wp2_with (first
    | (go_at_call 80; ((with_reducible refine P.out.mono ?_); rintro e w1 ⟨⟨v, rfl, hv⟩, b1⟩; have B1 := Lib.hid b1; have HV := Lib.hid hv; clear b1 hv P))
    | fail)
  go_ret
  exact ⟨by rw [← HV.out]; rfl, B1.out⟩
end Go.Proofs.YtdebedeebmmleaaGreatDoor
namespace Go.Proofs.YtdebedeebmmleaaGreatDoor
open Go.RowKit Go.Maps
def nodeB (y : NdV) : Bool :=
  if y.k = 0 then decide (y.kids.length + y.piv.length + y.ms.length + y.bl.length = 0)
  else if y.k = 1 then decide (y.kids.length + y.piv.length + y.ms.length = 0)
  else if y.k = 2 then decide (y.bl.length = 0) && (decide (y.kids.length = y.piv.length + 1) && (!y.kids.any kdB && !y.ms.any (fun m => !tmB m)))
  else false
set_option maxHeartbeats 4000000 in
set_option maxRecDepth 100000 in
theorem tnode_any (x : NC) (hs : List Hd) (y : NdV) (w : World) (hg : GW w) (hN : NRd w x hs y) (hS : NSm y) :
    Calls Tryz.prog 34 #[nodeA x] w fun e w' => e = .returned (.bool (nodeB y)) ∧ Below w.heap.size w w' := by
  obtain ⟨W0, hW0⟩ : ∃ W0, W0 = w.alloc (nodeO x) := ⟨_, rfl⟩
  have B0 := Lib.hid (show Below w.heap.size w W0 by rw [hW0]; exact alb w _)
  have Z0 := Lib.hid (show W0.heap[w.heap.size]? = some (nodeO x) by rw [hW0]; exact heap_alloc_new w _)
  obtain ⟨c0, c1, c2, c3, c4⟩ := cells5 Z0.out
  have hxk := hN.k
  obtain ⟨nq, hnq⟩ : ∃ n, n = y.kids.length := ⟨_, rfl⟩
  obtain ⟨np, hnp⟩ : ∃ n, n = y.piv.length := ⟨_, rfl⟩
  obtain ⟨nm, hnm⟩ : ∃ n, n = y.ms.length := ⟨_, rfl⟩
  obtain ⟨nl, hnl⟩ : ∃ n, n = y.bl.length := ⟨_, rfl⟩
  have HM9 : Hid (x.m.n = nm) := Lib.hid (by rw [hN.m.1, hnm])
  rw [hxk] at c0
  rw [hN.p.1, ← hnp] at c1
  rw [hN.q.1, ← hnq] at c2
  rw [hN.m.1, ← hnm] at c3
  rw [hN.b.1, hN.b.2.2.1, ← hnl] at c4
  have hb : nq ≤ 400000 ∧ np ≤ 400000 ∧ nm ≤ 900000 ∧ nl ≤ 900000 := by have := hS.q; have := hS.p.1; have := hS.m.1; have := hS.b.1; omega
  have W1 : IntKind.i64.wrap ((nq : Int) + (np : Int)) = (nq : Int) + (np : Int) := IntWalk.i64_in _ (by omega)
  have W2 : IntKind.i64.wrap ((nq : Int) + (np : Int) + (nm : Int)) = (nq : Int) + (np : Int) + (nm : Int) := IntWalk.i64_in _ (by omega)
  have W3 : IntKind.i64.wrap ((nq : Int) + (np : Int) + (nm : Int) + (nl : Int)) = (nq : Int) + (np : Int) + (nm : Int) + (nl : Int) := IntWalk.i64_in _ (by omega)
  have W4 : IntKind.i64.wrap ((np : Int) + 1) = (np : Int) + 1 := IntWalk.i64_in _ (by omega)
  have KC := Lib.hid (kcont_any x.q.A nq x.q.c y.kids W0 hnq.symm (by omega) (hN.q.2.later B0.out))
  have MC := Lib.hid (fun V (b : Below W0.heap.size W0 V) => mcont_any x.m.A nm x.m.c y.ms V ((hg.later B0.out).later b) hnm.symm (by omega) ((hN.m.2.later B0.out).later b))
  unfold nodeB
  rw [← hnq, ← hnp, ← hnm, ← hnl]
  obtain ⟨k, hk⟩ : ∃ k, k = y.k := ⟨_, rfl⟩
  rw [← hk] at c0 ⊢
  obtain ⟨bk, hbk⟩ : ∃ b, b = y.kids.any kdB := ⟨_, rfl⟩
  obtain ⟨bm, hbm⟩ : ∃ b, b = y.ms.any (fun m => !tmB m) := ⟨_, rfl⟩
  rw [← hbk] at KC ⊢
  rw [← hbm] at MC ⊢
  clear hg hN hS hxk hnq hnp hnm hnl hk hbk hbm hb
  by_cases k0 : k = 0
  · subst k0
    rw [if_pos rfl]
    have e9 := Lib.hid (show (((nq : Int) + (np : Int) + (nm : Int) + (nl : Int)) == 0) = decide (nq + np + nm + nl = 0) by rw [Bool.eq_iff_iff]; simp; omega)
    go_enter Tryz.func34, Tryz.ntmps34
    go_upto_region 1 with fail
    rw [← hW0]
    clear hW0
    go_wp2
    go_ret
    exact ⟨by rw [← e9.out]; rfl, B0.out⟩
  rw [if_neg k0]
  by_cases k1 : k = 1
  · subst k1
    rw [if_pos rfl]
    have e9 := Lib.hid (show (((nq : Int) + (np : Int) + (nm : Int)) == 0) = decide (nq + np + nm = 0) by rw [Bool.eq_iff_iff]; simp; omega)
    go_enter Tryz.func34, Tryz.ntmps34
    go_upto_region 1 with fail
    rw [← hW0]
    clear hW0
    go_wp2
    go_ret
    exact ⟨by rw [← e9.out]; rfl, B0.out⟩
  rw [if_neg k1]
  by_cases k2 : k = 2
  · subst k2
    rw [if_pos rfl]
    by_cases h1 : nl = 0
    · have e1 : ((nl : Int) == 0) = true := by rw [h1]; rfl
      have H1 := Lib.hid h1
      clear h1
      by_cases h2 : nq = np + 1
      · have e2 : ((nq : Int) == (np : Int) + 1) = true := by rw [h2]; simp
        have H2 := Lib.hid h2
        clear h2
        cases bk with
        | true =>
          go_enter Tryz.func34, Tryz.ntmps34
          go_upto_region 1 with fail
          rw [← hW0]
          clear hW0
          go_wp2_with (first
            | (go_at_call 60; ((with_reducible refine KC.out.mono ?_); rintro e w1 ⟨rfl, b1⟩; have B1 := Lib.hid b1; clear b1))
            | fail)
          go_ret
          exact ⟨by simp, bel_trans B0.out B1.out⟩
        | false =>
          go_enter Tryz.func34, Tryz.ntmps34
          go_upto_region 1 with fail
          rw [← hW0]
          clear hW0
          go_wp2_with (first
            | (go_at_call 60; ((with_reducible refine KC.out.mono ?_); rintro e w1 ⟨rfl, b1⟩; have B1 := Lib.hid b1; have c3 := (cells5 (keep_bel b1 Z0.out)).2.2.2.1; rw [HM9.out] at c3; clear b1))
            | (go_at_call 62; ((with_reducible refine (MC.out _ B1.out).mono ?_); rintro e w2 ⟨rfl, b2⟩; have B2 := Lib.hid (bel_trans B1.out b2); clear b2))
            | fail)
          go_ret
          exact ⟨by simp [H1.out, H2.out], bel_trans B0.out B2.out⟩
      · have e2 : ((nq : Int) == (np : Int) + 1) = false := beq_eq_false_iff_ne.2 (by omega)
        go_enter Tryz.func34, Tryz.ntmps34
        go_upto_region 1 with fail
        rw [← hW0]
        clear hW0
        go_wp2
        go_ret
        exact ⟨by simp [h2], B0.out⟩
    · have e1 : ((nl : Int) == 0) = false := beq_eq_false_iff_ne.2 (by omega)
      go_enter Tryz.func34, Tryz.ntmps34
      go_upto_region 1 with fail
      rw [← hW0]
      clear hW0
      go_wp2
      go_ret
      exact ⟨by simp [h1], B0.out⟩
  · rw [if_neg k2]
    have e0 : (k == 0) = false := beq_eq_false_iff_ne.2 k0
    have e1 : (k == 1) = false := beq_eq_false_iff_ne.2 k1
    have e2 : (k == 2) = false := beq_eq_false_iff_ne.2 k2
    go_enter Tryz.func34, Tryz.ntmps34
    go_upto_region 1 with fail
    rw [← hW0]
    clear hW0
    go_wp2
    go_ret
    exact ⟨rfl, B0.out⟩
/-- A tree's nodes, read. -/
structure NT (w : World) (A : Option Addr) (ns : List NC) (ys : List NdV) : Prop where
  r : EN.Rd w A ns
  l : ns.length = ys.length
  e : ∀ (i : Nat) (x : NC) (y : NdV), ns[i]? = some x → ys[i]? = some y → ∃ hs, NRd w x hs y
theorem NT.later {w w' : World} {A : Option Addr} {ns : List NC} {ys : List NdV} (h : NT w A ns ys) (b : Below w.heap.size w w') : NT w' A ns ys :=
  ⟨h.r.later b, h.l, fun i x y hx hy => by obtain ⟨hs, q⟩ := h.e i x y hx hy; exact ⟨hs, q.later b⟩⟩
theorem en_at {w : World} {A : Option Addr} {xs : List NC} (h : EN.Rd w A xs) {i : Nat} {x : NC} (hi : xs[i]? = some x) : ∃ b off, A = some ⟨b, off, none⟩ ∧ b < w.heap.size ∧ w.cell? ⟨b, off + i * 5, none⟩ = some (.int .u8 x.k) ∧ w.cell? ⟨b, off + i * 5 + 1, none⟩ = some (.slice x.p.A x.p.n x.p.c) ∧ w.cell? ⟨b, off + i * 5 + 2, none⟩ = some (.slice x.q.A x.q.n x.q.c) ∧ w.cell? ⟨b, off + i * 5 + 3, none⟩ = some (.slice x.m.A x.m.n x.m.c) ∧ w.cell? ⟨b, off + i * 5 + 4, none⟩ = some (.slice x.b.A x.b.n x.b.c) := by
  obtain ⟨b, off, e, h1, h2⟩ := h.get hi
  exact ⟨b, off, e, h1, h2 0 _ rfl, h2 1 _ rfl, h2 2 _ rfl, h2 3 _ rfl, h2 4 _ rfl⟩
def toldAt (x : NdV × Nat) : Bool := nodeB x.1 && (decide (x.2 ≠ 0) || decide (x.1.k = 0))
def toldB (ys : List NdV) : Bool := decide (ys.length ≤ 4097) && ys.zipIdx.all toldAt
theorem zi_get {ys : List NdV} {k : Nat} {y : NdV} (h : ys[k]? = some y) : ys.zipIdx[k]? = some (y, k) := by rw [List.getElem?_zipIdx, h]; simp
theorem all_next {α : Type} {p : α → Bool} {xs : List α} {k : Nat} {x : α} (h : (xs.take k).all p = true) (hx : xs[k]? = some x) (hp : p x = true) : (xs.take (k + 1)).all p = true := by
  rw [List.take_add_one, hx, List.all_append, h]
  simp [hp]
theorem all_no {α : Type} {p : α → Bool} {xs : List α} {k : Nat} {x : α} (hx : xs[k]? = some x) (hp : p x = false) : xs.all p = false := List.all_eq_false.2 ⟨x, List.mem_of_getElem? hx, by simp [hp]⟩
set_option maxHeartbeats 4000000 in
set_option maxRecDepth 100000 in
theorem told_any (A : Option Addr) (n c : Nat) (ns : List NC) (ys : List NdV) (w : World) (hg : GW w) (hT : NT w A ns ys) (hl : ys.length = n) (hn : n ≤ 1000000) (hS : ∀ y ∈ ys, NSm y) :
    Calls Tryz.prog 18 #[.agg #[.slice A n c]] w fun e w' => e = .returned (.bool (toldB ys)) ∧ Below w.heap.size w w' := by
  have HG := Lib.hid hg
  have HT := Lib.hid hT
  have HL := Lib.hid (And.intro hl hn)
  have HS := Lib.hid hS
  obtain ⟨r, hr⟩ : ∃ r, toldB ys = r := ⟨_, rfl⟩
  rw [hr]
  unfold toldB at hr
  rw [hl] at hr
  obtain ⟨W0, hW0⟩ : ∃ W0, W0 = w.alloc (.cells #[.slice A n c] 24) := ⟨_, rfl⟩
  have B0 := Lib.hid (show Below w.heap.size w W0 by rw [hW0]; exact alb w _)
  have Z0 := Lib.hid (show W0.heap[w.heap.size]? = some (.cells #[.slice A n c] 24 (0, 0)) by rw [hW0]; exact heap_alloc_new w _)
  have c0 : W0.cell? ⟨w.heap.size, 0, none⟩ = some (.slice A n c) := cellh Z0.out rfl
  clear hg hT hl hS
  by_cases h4 : n ≤ 4097
  · have HR : Hid (ys.zipIdx.all toldAt = r) := Lib.hid (by rw [← hr]; simp [h4])
    have k4 : ¬ (4097 : Int) < (n : Int) := by omega
    clear hr hn
    go_enter Tryz.func18, Tryz.ntmps18
    go_upto_region 1 with fail
    rw [← hW0]
    clear hW0
    go_upto_region 4 with fail
    clear c0
    go_loopw [12] (fun iv wr => ∃ (k : Nat), k ≤ n ∧ iv = .int .i64 k ∧ Hid ((ys.zipIdx.take k).all toldAt = true) ∧ Below W0.heap.size W0 wr) (fun i _ => n - (intOf i).toNat)
    case atStart => exact ⟨0, by omega, rfl, Lib.hid rfl, Below.refl _ _⟩
    case round =>
      obtain ⟨k, hk, rfl, HAL, hb⟩ := hrel
      have HB := Lib.hid hb
      have BW := Lib.hid (bel_trans B0.out hb)
      have hnn := HL.out
      clear hb
      by_cases h8 : k < n
      · have hk1 : (k : Int) < (n : Int) := by omega
        have hk0 : (0 : Int) ≤ (k : Int) := by omega
        have WK : IntKind.i64.wrap ((k : Int) + 1) = (k : Int) + 1 := IntWalk.i64_in _ (by omega)
        obtain ⟨y, hy⟩ : ∃ y, ys[k]? = some y := ⟨_, List.getElem?_eq_getElem (by omega)⟩
        obtain ⟨x, hx⟩ : ∃ x, ns[k]? = some x := ⟨_, List.getElem?_eq_getElem (by have := HT.out.l; omega)⟩
        obtain ⟨hs, hn⟩ := HT.out.e k x y hx hy
        obtain ⟨b, off, rfl, hlt, g0, g1, g2, g3, g4⟩ := en_at (HT.out.r.later BW.out) hx
        obtain ⟨W3, hW3⟩ : ∃ W3, W3 = wr.alloc (nodeO x) := ⟨_, rfl⟩
        have B3 := Lib.hid (show Below wr.heap.size wr W3 by rw [hW3]; exact alb wr _)
        have Z3 := Lib.hid (show W3.heap[wr.heap.size]? = some (nodeO x) by rw [hW3]; exact heap_alloc_new wr _)
        have BW3 := Lib.hid (bel_trans BW.out B3.out)
        have TN := Lib.hid (tnode_any x hs y W3 (HG.out.later BW3.out) (hn.later BW3.out) (HS.out y (List.mem_of_getElem? hy)))
        have HX := Lib.hid (zi_get hy)
        have HYK := Lib.hid (show x.k = y.k from hn.k)
        clear hx hy hlt hn hnn
        go_upto_region 6 with fail
        rw [← hW3]
        clear hW3 g0 g1 g2 g3 g4
        obtain ⟨d0, d1, d2, d3, d4⟩ := cells5 Z3.out
        cases hh : nodeB y with
        | false =>
          rw [hh] at TN
          have HF : Hid (r = false) := Lib.hid (by rw [← HR.out]; exact all_no HX.out (by unfold toldAt; simp only; rw [hh]; rfl))
          clear hh
          go_wp2_with (first
            | (go_at_call 34; ((with_reducible refine TN.out.mono ?_); rintro e w4 ⟨rfl, b4⟩; have B4 := Lib.hid (bel_trans BW3.out b4); clear b4))
            | fail)
          go_ret
          exact ⟨by rw [HF.out]; try rfl, B4.out⟩
        | true =>
          rw [hh] at TN
          by_cases hk9 : k = 0
          · subst hk9
            by_cases hyz : y.k = 0
            · have HA2 := Lib.hid (all_next HAL.out HX.out (by unfold toldAt; simp only; rw [hh, hyz]; rfl))
              have ex : (x.k == 0) = true := by rw [HYK.out, hyz]; rfl
              clear hh hyz
              go_wp2_with (first
                | (go_at_call 34; ((with_reducible refine TN.out.mono ?_); rintro e w4 ⟨rfl, b4⟩; have B4 := Lib.hid (bel_trans (bel_trans HB.out B3.out) b4); have d0 := (cells5 (keep_bel b4 Z3.out)).1; clear b4))
                | fail)
              exact ⟨⟨0 + 1, by omega, by simp, HA2, B4.out⟩, by simp [intOf]; omega⟩
            · have HF : Hid (r = false) := Lib.hid (by rw [← HR.out]; exact all_no HX.out (by unfold toldAt; simp only; rw [hh, decide_eq_false hyz]; rfl))
              have ex : (x.k == 0) = false := beq_eq_false_iff_ne.2 (by rw [HYK.out]; exact hyz)
              clear hh hyz
              go_wp2_with (first
                | (go_at_call 34; ((with_reducible refine TN.out.mono ?_); rintro e w4 ⟨rfl, b4⟩; have B4 := Lib.hid (bel_trans (bel_trans HB.out B3.out) b4); have d0 := (cells5 (keep_bel b4 Z3.out)).1; clear b4))
                | fail)
              go_ret
              exact ⟨by rw [HF.out]; try rfl, bel_trans B0.out B4.out⟩
          · have HA2 := Lib.hid (all_next HAL.out HX.out (by unfold toldAt; simp only; rw [hh, decide_eq_true hk9]; rfl))
            have ek : ((k : Int) == 0) = false := beq_eq_false_iff_ne.2 (by omega)
            clear hh hk9
            go_wp2_with (first
              | (go_at_call 34; ((with_reducible refine TN.out.mono ?_); rintro e w4 ⟨rfl, b4⟩; have B4 := Lib.hid (bel_trans (bel_trans HB.out B3.out) b4); have d0 := (cells5 (keep_bel b4 Z3.out)).1; clear b4))
              | fail)
            exact ⟨⟨k + 1, by omega, by simp, HA2, B4.out⟩, by simp [intOf]; omega⟩
      · have hk1 : ¬ (k : Int) < (n : Int) := by omega
        have e : ys.zipIdx.take k = ys.zipIdx := List.take_of_length_le (by rw [List.length_zipIdx]; omega)
        rw [e, HR.out] at HAL
        go_wp2
        go_ret
        exact ⟨by rw [HAL.out]; try rfl, BW.out⟩
  · have HF : Hid (r = false) := Lib.hid (by rw [← hr]; simp [h4])
    have k4 : (4097 : Int) < (n : Int) := by omega
    clear hr hn
    go_enter Tryz.func18, Tryz.ntmps18
    go_upto_region 1 with fail
    rw [← hW0]
    clear hW0
    go_wp2
    go_ret
    exact ⟨by rw [HF.out]; try rfl, B0.out⟩
end Go.Proofs.YtdebedeebmmleaaGreatDoor
namespace Go.Proofs.YtdebedeebmmleaaGreatDoor
open Go.RowKit Go.Maps
/-- A node with few things. -/
structure SmN (y : NdV) : Prop where
  q : y.kids.length ≤ 20
  p : y.piv.length ≤ 20
  m : y.ms.length ≤ 40
  b : y.bl.length ≤ 20
  l : ∀ l ∈ y.bl, l.length ≤ 20
def blN (bl : List (List EnV)) : Nat := (bl.map List.length).sum
def thAt (y : NdV) : Nat := y.ms.length + blN y.bl
def thN (ys : List NdV) : Nat := (ys.map thAt).sum
theorem blk_next {bl : List (List EnV)} {k : Nat} {l : List EnV} (h : bl[k]? = some l) : blN (bl.take (k + 1)) = blN (bl.take k) + l.length := by
  unfold blN; rw [List.take_add_one, h]; simp
theorem th_next {ys : List NdV} {k : Nat} {y : NdV} (h : ys[k]? = some y) : thN (ys.take (k + 1)) = thN (ys.take k) + thAt y := by
  unfold thN; rw [List.take_add_one, h]; simp
theorem blk_le : ∀ (bl : List (List EnV)), (∀ l ∈ bl, l.length ≤ 20) → blN bl ≤ 20 * bl.length
  | [], _ => by simp [blN]
  | l :: bl, h => by
    have ih := blk_le bl (fun x hx => h x (List.mem_cons_of_mem _ hx))
    have h1 := h l (by simp)
    unfold blN at ih ⊢
    rw [List.map_cons, List.sum_cons, List.length_cons]
    omega
theorem th_le : ∀ (ys : List NdV), (∀ y ∈ ys, SmN y) → thN ys ≤ 440 * ys.length
  | [], _ => by simp [thN]
  | y :: ys, h => by
    have ih := th_le ys (fun x hx => h x (List.mem_cons_of_mem _ hx))
    have h1 := h y (by simp)
    have h2 := blk_le y.bl h1.l
    have h3 := h1.m
    have h4 := h1.b
    unfold thN at ih ⊢
    rw [List.map_cons, List.sum_cons, List.length_cons]
    have h5 : thAt y ≤ 440 := by unfold thAt; omega
    omega
theorem mem_next {α : Type} {P : α → Prop} {xs : List α} {k : Nat} {x : α} (h : ∀ y ∈ xs.take k, P y) (hx : xs[k]? = some x) (hp : P x) : ∀ y ∈ xs.take (k + 1), P y := by
  intro y hy
  rw [List.take_add_one, hx] at hy
  rcases List.mem_append.1 hy with hy | hy
  · exact h y hy
  · simp at hy; subst hy; exact hp
/-- What few answers: true says so much. -/
def SmP (ys : List NdV) (e : Ending) : Prop := ∃ b, e = .returned (.bool b) ∧ (b = true → ys.length ≤ 40 ∧ (∀ y ∈ ys, SmN y) ∧ thN ys ≤ 200)
set_option maxHeartbeats 8000000 in
set_option maxRecDepth 100000 in
theorem small_any (A : Option Addr) (n c : Nat) (ns : List NC) (ys : List NdV) (w : World) (hT : NT w A ns ys) (hl : ys.length = n) :
    Calls Tryz.prog 16 #[.agg #[.slice A n c]] w fun e w' => SmP ys e ∧ Below w.heap.size w w' := by
  have HT := Lib.hid hT
  have HL := Lib.hid hl
  obtain ⟨W0, hW0⟩ : ∃ W0, W0 = w.alloc (.cells #[.slice A n c] 24) := ⟨_, rfl⟩
  have B0 := Lib.hid (show Below w.heap.size w W0 by rw [hW0]; exact alb w _)
  have Z0 := Lib.hid (show W0.heap[w.heap.size]? = some (.cells #[.slice A n c] 24 (0, 0)) by rw [hW0]; exact heap_alloc_new w _)
  have c0 : W0.cell? ⟨w.heap.size, 0, none⟩ = some (.slice A n c) := cellh Z0.out rfl
  clear hT hl
  by_cases h40 : n ≤ 40
  rotate_left
  · have k40 : (40 : Int) < (n : Int) := by omega
    go_enter Tryz.func16, Tryz.ntmps16
    go_upto_region 1 with fail
    rw [← hW0]
    clear hW0
    go_wp2
    go_ret
    exact ⟨⟨false, rfl, fun h => by cases h⟩, B0.out⟩
  have k40 : ¬ (40 : Int) < (n : Int) := by omega
  have HN40 := Lib.hid h40
  clear h40
  go_enter Tryz.func16, Tryz.ntmps16
  go_upto_region 1 with fail
  rw [← hW0]
  clear hW0
  go_upto_region 5 with fail
  clear c0 k40
  go_loopw [3, 4, 5, 6] (fun sv iv _ _ wr => ∃ i s : Nat, i ≤ n ∧ iv = .int .i64 i ∧ sv = .int .i64 (s : Int) ∧ Hid (s = thN (ys.take i) ∧ ∀ y ∈ ys.take i, SmN y) ∧ Below W0.heap.size W0 wr) (fun _ iv _ _ _ => n - (intOf iv).toNat)
  case atStart => exact ⟨0, 0, by omega, rfl, rfl, Lib.hid ⟨rfl, by simp⟩, Below.refl _ _⟩
  case round =>
    rename World => w4
    obtain ⟨i, s, hi, rfl, rfl, HS, hb⟩ := hrel
    have HB := Lib.hid hb
    clear hb
    have BW := Lib.hid (bel_trans B0.out HB.out)
    have hnn := HL.out
    have h40 := HN40.out
    have hsb : s ≤ 17600 := by
      have h1 := th_le _ HS.out.2
      rw [HS.out.1]
      rw [List.length_take] at h1
      omega
    have c0 : w4.cell? ⟨w.heap.size, 0, none⟩ = some (.slice A n c) := cellh (keep_bel HB.out Z0.out) rfl
    by_cases h8 : i < n
    · have q1 : (i : Int) < (n : Int) := by omega
      have q0 : (0 : Int) ≤ (i : Int) := by omega
      have WK : IntKind.i64.wrap ((i : Int) + 1) = (i : Int) + 1 := IntWalk.i64_in _ (by omega)
      obtain ⟨y, hy⟩ : ∃ y, ys[i]? = some y := ⟨_, List.getElem?_eq_getElem (by omega)⟩
      obtain ⟨x, hx⟩ : ∃ x, ns[i]? = some x := ⟨_, List.getElem?_eq_getElem (by have := HT.out.l; omega)⟩
      obtain ⟨hs, hN⟩ := HT.out.e i x y hx hy
      obtain ⟨b2, off, hA, hlt, g0, g1, g2, g3, g4⟩ := en_at (HT.out.r.later BW.out) hx
      rw [hA] at c0
      obtain ⟨nq, hnq⟩ : ∃ n, n = y.kids.length := ⟨_, rfl⟩
      obtain ⟨np, hnp⟩ : ∃ n, n = y.piv.length := ⟨_, rfl⟩
      obtain ⟨nm, hnm⟩ : ∃ n, n = y.ms.length := ⟨_, rfl⟩
      obtain ⟨nl, hnl⟩ : ∃ n, n = y.bl.length := ⟨_, rfl⟩
      have HNN := Lib.hid (show nq = y.kids.length ∧ np = y.piv.length ∧ nm = y.ms.length ∧ nl = y.bl.length from ⟨hnq, hnp, hnm, hnl⟩)
      have HX := Lib.hid (And.intro (th_next hy) hy)
      obtain ⟨W5, hW5⟩ : ∃ W5, W5 = w4.alloc (nodeO x) := ⟨_, rfl⟩
      have B5 := Lib.hid (show Below W0.heap.size W0 W5 by rw [hW5]; exact bel_alloc HB.out _)
      have Z5 := Lib.hid (show W5.heap[w4.heap.size]? = some (nodeO x) by rw [hW5]; exact heap_alloc_new w4 _)
      have BW5 := Lib.hid (bel_trans B0.out B5.out)
      have HNR := Lib.hid (hN.later BW5.out)
      have UP := Lib.hid (fun V (h : Below W5.heap.size W5 V) => (show V.cell? ⟨w4.heap.size, 1, none⟩ = some (.slice x.p.A np x.p.c) ∧ V.cell? ⟨w4.heap.size, 2, none⟩ = some (.slice x.q.A nq x.q.c) ∧ V.cell? ⟨w4.heap.size, 3, none⟩ = some (.slice x.m.A nm x.m.c) ∧ V.cell? ⟨w4.heap.size, 4, none⟩ = some (.slice x.b.A nl x.b.c) by
        obtain ⟨a0, a1, a2, a3, a4⟩ := cells5 (keep_bel h Z5.out)
        exact ⟨by rw [hnp, ← hN.p.1]; exact a1, by rw [hnq, ← hN.q.1]; exact a2, by rw [hnm, ← hN.m.1]; exact a3, by rw [hnl, ← hN.b.2.2.1, ← hN.b.1]; exact a4⟩))
      clear hx hy hN hA hlt hnq hnp hnm hnl hnn
      go_upto_region 8 with fail
      rw [← hW5]
      clear hW5 g0 g1 g2 g3 g4 c0
      obtain ⟨c1, c2, c3, c4⟩ := UP.out W5 (Below.refl _ _)
      by_cases h1 : nq ≤ 20
      rotate_left
      · have e1 : (20 : Int) < (nq : Int) := by omega
        clear h1
        go_wp2
        go_ret
        exact ⟨⟨false, rfl, fun h => by cases h⟩, BW5.out⟩
      have e1 : ¬ (20 : Int) < (nq : Int) := by omega
      by_cases h2 : np ≤ 20
      rotate_left
      · have e2 : (20 : Int) < (np : Int) := by omega
        clear h1 h2
        go_wp2
        go_ret
        exact ⟨⟨false, rfl, fun h => by cases h⟩, BW5.out⟩
      have e2 : ¬ (20 : Int) < (np : Int) := by omega
      by_cases h3 : nm ≤ 40
      rotate_left
      · have e3 : (40 : Int) < (nm : Int) := by omega
        clear h1 h2 h3
        go_wp2
        go_ret
        exact ⟨⟨false, rfl, fun h => by cases h⟩, BW5.out⟩
      have e3 : ¬ (40 : Int) < (nm : Int) := by omega
      by_cases h4 : nl ≤ 20
      rotate_left
      · have e4 : (20 : Int) < (nl : Int) := by omega
        clear h1 h2 h3 h4
        go_wp2
        go_ret
        exact ⟨⟨false, rfl, fun h => by cases h⟩, BW5.out⟩
      have e4 : ¬ (20 : Int) < (nl : Int) := by omega
      have WS : IntKind.i64.wrap ((s : Int) + (nm : Int)) = (s : Int) + (nm : Int) := IntWalk.i64_in _ (by omega)
      have HQ := Lib.hid (show nq ≤ 20 ∧ np ≤ 20 ∧ nm ≤ 40 ∧ nl ≤ 20 ∧ s ≤ 17600 from ⟨h1, h2, h3, h4, hsb⟩)
      clear h1 h2 h3 h4 hsb h40
      go_upto_region 12 with fail
      clear c1 c2 c3 c4 e1 e2 e3 e4 WS
      go_loopw [3, 6] (fun sv jv wr => ∃ j t : Nat, j ≤ nl ∧ jv = .int .i64 j ∧ sv = .int .i64 (t : Int) ∧ Hid (t = s + nm + blN (y.bl.take j) ∧ ∀ l ∈ y.bl.take j, l.length ≤ 20) ∧ Below W5.heap.size W5 wr) (fun _ jv _ => nl - (intOf jv).toNat)
      case atStart => exact ⟨0, s + nm, by omega, rfl, by simp, Lib.hid ⟨by simp [blN], by simp⟩, Below.refl _ _⟩
      case round =>
        rename World => w6
        obtain ⟨j, t, hj, rfl, rfl, HTT, hb⟩ := hrel
        have HB6 := Lib.hid hb
        clear hb
        obtain ⟨c1, c2, c3, c4⟩ := UP.out w6 HB6.out
        have hq := HQ.out
        have hnn := HNN.out
        have htb : t ≤ 18500 := by
          have h1 := blk_le _ HTT.out.2
          rw [List.length_take] at h1
          have := HTT.out.1
          omega
        by_cases h9 : j < nl
        · have j1 : (j : Int) < (nl : Int) := by omega
          have j0 : (0 : Int) ≤ (j : Int) := by omega
          have WJ : IntKind.i64.wrap ((j : Int) + 1) = (j : Int) + 1 := IntWalk.i64_in _ (by omega)
          have hbN := HNR.out.b
          obtain ⟨l0, hl0⟩ : ∃ u, y.bl[j]? = some u := ⟨_, List.getElem?_eq_getElem (by omega)⟩
          obtain ⟨h0, hh0⟩ : ∃ u, hs[j]? = some u := ⟨_, List.getElem?_eq_getElem (by omega)⟩
          obtain ⟨b3, off3, hA3, hlt3, g0⟩ := eh_at (hbN.2.1.later HB6.out) hh0
          obtain ⟨r1, r2⟩ := hbN.2.2.2 j h0 l0 hh0 hl0
          obtain ⟨m, hm⟩ : ∃ m, m = l0.length := ⟨_, rfl⟩
          rw [r1, ← hm] at g0
          rw [hA3] at c4
          have HX3 := Lib.hid (And.intro (blk_next hl0) hl0)
          have HM := Lib.hid hm
          clear hbN hl0 hh0 hA3 hlt3 r1 r2 hm hnn c1 c2 c3
          by_cases h5 : m ≤ 20
          · have e5 : ¬ (20 : Int) < (m : Int) := by omega
            have WS : IntKind.i64.wrap ((t : Int) + (m : Int)) = (t : Int) + (m : Int) := IntWalk.i64_in _ (by omega)
            have HTN := Lib.hid (show t + m = s + nm + blN (y.bl.take (j + 1)) ∧ ∀ l ∈ y.bl.take (j + 1), l.length ≤ 20 from ⟨by rw [HX3.out.1, HTT.out.1, ← HM.out]; omega, mem_next HTT.out.2 HX3.out.2 (by rw [← HM.out]; exact h5)⟩)
            clear h5 hq htb
            go_wp2
            exact ⟨⟨j + 1, t + m, by omega, by simp, by simp, HTN, HB6.out⟩, by simp [intOf]; omega⟩
          · have e5 : (20 : Int) < (m : Int) := by omega
            clear h5 hq htb
            go_wp2
            go_ret
            exact ⟨⟨false, rfl, fun h => by cases h⟩, bel_trans BW5.out HB6.out⟩
        · have hje : j = nl := by omega
          subst hje
          have j1 : ¬ (j : Int) < (j : Int) := by omega
          have HSN := Lib.hid (show t = thN (ys.take (i + 1)) ∧ ∀ y ∈ ys.take (i + 1), SmN y by
            have h1 := HTT.out
            rw [List.take_of_length_le (by omega)] at h1
            refine ⟨by rw [HX.out.1, h1.1, HS.out.1]; unfold thAt; omega, mem_next HS.out.2 HX.out.2 ⟨by omega, by omega, by omega, by omega, h1.2⟩⟩)
          clear hq htb hnn
          go_wp2
          exact ⟨⟨i + 1, t, by omega, by simp, rfl, HSN, bel_trans B5.out HB6.out⟩, by simp [intOf]; omega⟩
    · have hie : i = n := by omega
      subst hie
      have q1 : ¬ (i : Int) < (i : Int) := by omega
      have HSN := Lib.hid (show s = thN ys ∧ ∀ y ∈ ys, SmN y by have h1 := HS.out; rw [List.take_of_length_le (by omega)] at h1; exact h1)
      clear hnn hsb
      go_wp2
      go_ret
      exact ⟨⟨_, rfl, fun h => ⟨by have := HL.out; have := HN40.out; omega, HSN.out.2, by rw [← HSN.out.1]; simp at h; omega⟩⟩, BW.out⟩
end Go.Proofs.YtdebedeebmmleaaGreatDoor
