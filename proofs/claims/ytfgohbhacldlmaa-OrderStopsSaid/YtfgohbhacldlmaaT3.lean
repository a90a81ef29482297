/- Trees of maps in order: settle, the deep cases. -/
import Derived.Test.YtfgohbhacldlmaaT2
namespace Go.Proofs.Ytfgohbhacldlmaa
set_option linter.unusedSimpArgs false
open Go.RowKit
set_option linter.unusedVariables false

set_option maxHeartbeats 4000000 in
set_option maxRecDepth 100000 in
theorem settleA1 (b : Nat) (pll plr pt : Option Addr) (ll t : Tr ByteArray Int) (lk k : ByteArray) (lv v : Int) (w : World) (c : Nat) (pil pir : Option Addr) (il ir : Tr ByteArray Int) (ik : ByteArray) (iv : Int) (h0 : w.cell? ⟨b, 0, none⟩ = some (.string lk)) (h1 : w.cell? ⟨b, 1, none⟩ = some (.int .i64 lv)) (h2 : w.cell? ⟨b, 2, none⟩ = some (.int .i64 (((Tr.node ll lk lv (Tr.node il ik iv ir)).inorder.length : Nat) : Int))) (h3 : w.cell? ⟨b, 3, none⟩ = some (.pointer pll)) (h4 : w.cell? ⟨b, 4, none⟩ = some (.pointer plr)) (hpi : plr = some ⟨c, 0, none⟩) (c0 : w.cell? ⟨c, 0, none⟩ = some (.string ik)) (c1 : w.cell? ⟨c, 1, none⟩ = some (.int .i64 iv)) (c2 : w.cell? ⟨c, 2, none⟩ = some (.int .i64 (((Tr.node il ik iv ir).inorder.length : Nat) : Int))) (c3 : w.cell? ⟨c, 3, none⟩ = some (.pointer pil)) (c4 : w.cell? ⟨c, 4, none⟩ = some (.pointer pir)) (hil : IsT w pil il) (hir : IsT w pir ir) (ho : IsT w pll ll) (ht : IsT w pt t) (hn : (Tr.node ll lk lv (Tr.node il ik iv ir)).inorder.length + t.inorder.length ≤ 9000) (g : (Tr.node ll lk lv (Tr.node il ik iv ir)).inorder.length + 1 > 3 * (t.inorder.length + 1)) (g2 : ((Tr.node il ik iv ir).inorder.length + 1 ≥ 2 * (ll.inorder.length + 1))) :
    Calls Try.prog 58 #[.pointer (some ⟨b, 0, none⟩), .string k, .int .i64 v, .pointer pt] w (SetPost w ((Tr.node ll lk lv (Tr.node il ik iv ir)).inorder ++ (k, v) :: t.inorder)) := by
  subst hpi
  have hi : IsT w (some ⟨c, 0, none⟩) (Tr.node il ik iv ir) := ⟨c, pil, pir, rfl, c0, c1, c2, c3, c4, hil, hir⟩
  have hiz := Tr.size_node il ik iv ir
  have hL : IsT w (some ⟨b, 0, none⟩) (Tr.node ll lk lv (Tr.node il ik iv ir)) := ⟨b, pll, (some ⟨c, 0, none⟩), rfl, h0, h1, h2, h3, h4, ho, hi⟩
  have hsz := Tr.size_node ll lk lv (Tr.node il ik iv ir)
  have WB := Lib.hid (weight_any _ _ w hL (by omega))
  have WT := Lib.hid (weight_any _ _ w ht (by omega))
  have W1 := Lib.hid (weight_q _ _ w hi (by omega))
  have W2 := Lib.hid (weight_q _ _ w ho (by omega))
  have KP : Hid (∀ V, Below w.heap.size w V → V.cell? ⟨b, 0, none⟩ = some (.string lk) ∧ V.cell? ⟨b, 1, none⟩ = some (.int .i64 lv) ∧ V.cell? ⟨b, 3, none⟩ = some (.pointer pll) ∧ V.cell? ⟨b, 4, none⟩ = some (.pointer (some ⟨c, 0, none⟩)) ∧ V.cell? ⟨c, 0, none⟩ = some (.string ik) ∧ V.cell? ⟨c, 1, none⟩ = some (.int .i64 iv) ∧ V.cell? ⟨c, 3, none⟩ = some (.pointer pil) ∧ V.cell? ⟨c, 4, none⟩ = some (.pointer pir)) := Lib.hid (fun V hV => ⟨bel_later hV h0, bel_later hV h1, bel_later hV h3, bel_later hV h4, bel_later hV c0, bel_later hV c1, bel_later hV c3, bel_later hV c4⟩)
  have HO := Lib.hid ho
  have HT := Lib.hid ht
  have HIL := Lib.hid hil
  have HIR := Lib.hid hir
  have HN : Hid (ll.inorder.length + il.inorder.length + ir.inorder.length + t.inorder.length + 3 ≤ 10000) := Lib.hid (by omega)
  have q1 : (3 : Int) * ((t.inorder.length : Int) + 1) < ((Tr.node ll lk lv (Tr.node il ik iv ir)).inorder.length : Int) + 1 := by omega
  have q2 : (2 : Int) * ((ll.inorder.length : Int) + 1) ≤ ((Tr.node il ik iv ir).inorder.length : Int) + 1 := by omega
  have i1 : ((Tr.node ll lk lv (Tr.node il ik iv ir)).inorder.length : Int) ≤ 10000 := by omega
  have j1 : (0 : Int) ≤ ((Tr.node ll lk lv (Tr.node il ik iv ir)).inorder.length : Int) := by omega
  have i2 : (t.inorder.length : Int) ≤ 10000 := by omega
  have j2 : (0 : Int) ≤ (t.inorder.length : Int) := by omega
  have i3 : ((Tr.node il ik iv ir).inorder.length : Int) ≤ 10000 := by omega
  have j3 : (0 : Int) ≤ ((Tr.node il ik iv ir).inorder.length : Int) := by omega
  have i4 : (ll.inorder.length : Int) ≤ 10000 := by omega
  have j4 : (0 : Int) ≤ (ll.inorder.length : Int) := by omega
  clear hL hi ho ht hsz hn g g2 h0 h1 h2 hil hir c0 c1 c2 c3 c4 hiz
  go_enter Try.func58, Try.ntmps58
  go_wp2_with (first
    | (go_at_call 57; with_reducible refine WB.out.mono ?_; rintro e w1 ⟨rfl, rfl⟩)
    | (go_at_call 57; with_reducible refine WT.out.mono ?_; rintro e w1 ⟨rfl, rfl⟩)
    | fail)
  go_quiet ((first | (go_at_call 57; with_reducible exact W1.out _) | (go_at_call 57; with_reducible exact W2.out _)))
  go_wp2_with fail
  clear q1 q2 i1 i2 i3 i4 j1 j2 j3 j4 W1 W2 WB WT
  have hV : Hid (Below w.heap.size w (w.drewN nq)) := Lib.hid (bel_drewN (Below.refl _ _) _)
  generalize w.drewN nq = V at *
  have J1 := Lib.hid (fun W (hW : Below w.heap.size w W) => joinX pll pil ll il lk lv w W hW (HO.out.later hW) (HIL.out.later hW) (by have := HN.out; omega))
  have J2 := Lib.hid (fun W (hW : Below w.heap.size w W) => joinY pir pt ir t k v w W hW (HIR.out.later hW) (HT.out.later hW) (by have := HN.out; omega))
  have J3 := Lib.hid (fun W (hW : Below w.heap.size w W) q q' (hq : IsT W q (.node ll lk lv il)) (hq' : IsT W q' (.node ir k v t)) => joinX q q' (.node ll lk lv il) (.node ir k v t) ik iv w W hW hq hq' (by rw [Tr.size_node, Tr.size_node]; have := HN.out; omega))
  go_region_held3 (fun W => W.cell? ⟨b, 0, none⟩ = some (.string lk) ∧ W.cell? ⟨b, 1, none⟩ = some (.int .i64 lv) ∧ W.cell? ⟨b, 3, none⟩ = some (.pointer pll) ∧ W.cell? ⟨b, 4, none⟩ = some (.pointer (some ⟨c, 0, none⟩)) ∧ W.cell? ⟨c, 0, none⟩ = some (.string ik) ∧ W.cell? ⟨c, 1, none⟩ = some (.int .i64 iv) ∧ W.cell? ⟨c, 3, none⟩ = some (.pointer pil) ∧ W.cell? ⟨c, 4, none⟩ = some (.pointer pir))
    (first | exact KP.out _ (bel_dw hV.out) | exact KP.out _ (by assumption))
    (first
      | (go_at_call 59; with_reducible refine (J1.out _ (bel_dw hV.out)).mono ?_; clear J1; rintro e w1 ⟨⟨q1, rfl, t1⟩, b1⟩)
      | (go_at_call 59; with_reducible refine (J2.out _ b1).mono ?_; clear J2; rintro e w2 ⟨⟨q2, rfl, t2⟩, b2, bb⟩)
      | (go_at_call 59; with_reducible refine (J3.out _ b2 _ _ (t1.later bb) t2).mono ?_; clear J3; rintro e w3 ⟨⟨q3, rfl, t3⟩, b3⟩))
  go_wp2_with fail
  exact bodyPost_ret (v := .pointer q3) (by simp [results, Try.results58, go_sem]) rfl ⟨⟨q3, _, rfl, t3, by simp [Tr.inorder]⟩, b3⟩
set_option maxHeartbeats 4000000 in
set_option maxRecDepth 100000 in
theorem settleB1 (b : Nat) (pll plr pt : Option Addr) (lr t : Tr ByteArray Int) (lk k : ByteArray) (lv v : Int) (w : World) (c : Nat) (pil pir : Option Addr) (il ir : Tr ByteArray Int) (ik : ByteArray) (iv : Int) (h0 : w.cell? ⟨b, 0, none⟩ = some (.string lk)) (h1 : w.cell? ⟨b, 1, none⟩ = some (.int .i64 lv)) (h2 : w.cell? ⟨b, 2, none⟩ = some (.int .i64 (((Tr.node (Tr.node il ik iv ir) lk lv lr).inorder.length : Nat) : Int))) (h3 : w.cell? ⟨b, 3, none⟩ = some (.pointer pll)) (h4 : w.cell? ⟨b, 4, none⟩ = some (.pointer plr)) (hpi : pll = some ⟨c, 0, none⟩) (c0 : w.cell? ⟨c, 0, none⟩ = some (.string ik)) (c1 : w.cell? ⟨c, 1, none⟩ = some (.int .i64 iv)) (c2 : w.cell? ⟨c, 2, none⟩ = some (.int .i64 (((Tr.node il ik iv ir).inorder.length : Nat) : Int))) (c3 : w.cell? ⟨c, 3, none⟩ = some (.pointer pil)) (c4 : w.cell? ⟨c, 4, none⟩ = some (.pointer pir)) (hil : IsT w pil il) (hir : IsT w pir ir) (ho : IsT w plr lr) (ht : IsT w pt t) (hn : (Tr.node (Tr.node il ik iv ir) lk lv lr).inorder.length + t.inorder.length ≤ 9000) (g : (Tr.node (Tr.node il ik iv ir) lk lv lr).inorder.length + 1 > 3 * (t.inorder.length + 1)) (g2 : ((Tr.node il ik iv ir).inorder.length + 1 ≥ 2 * (lr.inorder.length + 1))) :
    Calls Try.prog 58 #[.pointer pt, .string k, .int .i64 v, .pointer (some ⟨b, 0, none⟩)] w (SetPost w (t.inorder ++ (k, v) :: (Tr.node (Tr.node il ik iv ir) lk lv lr).inorder)) := by
  subst hpi
  have hi : IsT w (some ⟨c, 0, none⟩) (Tr.node il ik iv ir) := ⟨c, pil, pir, rfl, c0, c1, c2, c3, c4, hil, hir⟩
  have hiz := Tr.size_node il ik iv ir
  have hL : IsT w (some ⟨b, 0, none⟩) (Tr.node (Tr.node il ik iv ir) lk lv lr) := ⟨b, (some ⟨c, 0, none⟩), plr, rfl, h0, h1, h2, h3, h4, hi, ho⟩
  have hsz := Tr.size_node (Tr.node il ik iv ir) lk lv lr
  have WB := Lib.hid (weight_any _ _ w hL (by omega))
  have WT := Lib.hid (weight_any _ _ w ht (by omega))
  have W1 := Lib.hid (weight_q _ _ w hi (by omega))
  have W2 := Lib.hid (weight_q _ _ w ho (by omega))
  have KP : Hid (∀ V, Below w.heap.size w V → V.cell? ⟨b, 0, none⟩ = some (.string lk) ∧ V.cell? ⟨b, 1, none⟩ = some (.int .i64 lv) ∧ V.cell? ⟨b, 3, none⟩ = some (.pointer (some ⟨c, 0, none⟩)) ∧ V.cell? ⟨b, 4, none⟩ = some (.pointer plr) ∧ V.cell? ⟨c, 0, none⟩ = some (.string ik) ∧ V.cell? ⟨c, 1, none⟩ = some (.int .i64 iv) ∧ V.cell? ⟨c, 3, none⟩ = some (.pointer pil) ∧ V.cell? ⟨c, 4, none⟩ = some (.pointer pir)) := Lib.hid (fun V hV => ⟨bel_later hV h0, bel_later hV h1, bel_later hV h3, bel_later hV h4, bel_later hV c0, bel_later hV c1, bel_later hV c3, bel_later hV c4⟩)
  have HO := Lib.hid ho
  have HT := Lib.hid ht
  have HIL := Lib.hid hil
  have HIR := Lib.hid hir
  have HN : Hid (lr.inorder.length + il.inorder.length + ir.inorder.length + t.inorder.length + 3 ≤ 10000) := Lib.hid (by omega)
  have q1 : (3 : Int) * ((t.inorder.length : Int) + 1) < ((Tr.node (Tr.node il ik iv ir) lk lv lr).inorder.length : Int) + 1 := by omega
  have q2 : (2 : Int) * ((lr.inorder.length : Int) + 1) ≤ ((Tr.node il ik iv ir).inorder.length : Int) + 1 := by omega
  have q3 : ¬ (3 : Int) * (((Tr.node (Tr.node il ik iv ir) lk lv lr).inorder.length : Int) + 1) < (t.inorder.length : Int) + 1 := by omega
  have i1 : ((Tr.node (Tr.node il ik iv ir) lk lv lr).inorder.length : Int) ≤ 10000 := by omega
  have j1 : (0 : Int) ≤ ((Tr.node (Tr.node il ik iv ir) lk lv lr).inorder.length : Int) := by omega
  have i2 : (t.inorder.length : Int) ≤ 10000 := by omega
  have j2 : (0 : Int) ≤ (t.inorder.length : Int) := by omega
  have i3 : ((Tr.node il ik iv ir).inorder.length : Int) ≤ 10000 := by omega
  have j3 : (0 : Int) ≤ ((Tr.node il ik iv ir).inorder.length : Int) := by omega
  have i4 : (lr.inorder.length : Int) ≤ 10000 := by omega
  have j4 : (0 : Int) ≤ (lr.inorder.length : Int) := by omega
  clear hL hi ho ht hsz hn g g2 h0 h1 h2 hil hir c0 c1 c2 c3 c4 hiz
  go_enter Try.func58, Try.ntmps58
  go_wp2_with (first
    | (go_at_call 57; with_reducible refine WB.out.mono ?_; rintro e w1 ⟨rfl, rfl⟩)
    | (go_at_call 57; with_reducible refine WT.out.mono ?_; rintro e w1 ⟨rfl, rfl⟩)
    | fail)
  go_quiet ((first | (go_at_call 57; with_reducible exact W1.out _) | (go_at_call 57; with_reducible exact W2.out _)))
  go_wp2_with fail
  clear q1 q2 i1 i2 i3 i4 j1 j2 j3 j4 W1 W2 WB WT q3
  have hV : Hid (Below w.heap.size w (w.drewN nq)) := Lib.hid (bel_drewN (Below.refl _ _) _)
  generalize w.drewN nq = V at *
  have J1 := Lib.hid (fun W (hW : Below w.heap.size w W) => joinX pt pil t il k v w W hW (HT.out.later hW) (HIL.out.later hW) (by have := HN.out; omega))
  have J2 := Lib.hid (fun W (hW : Below w.heap.size w W) => joinY pir plr ir lr lk lv w W hW (HIR.out.later hW) (HO.out.later hW) (by have := HN.out; omega))
  have J3 := Lib.hid (fun W (hW : Below w.heap.size w W) q q' (hq : IsT W q (.node t k v il)) (hq' : IsT W q' (.node ir lk lv lr)) => joinX q q' (.node t k v il) (.node ir lk lv lr) ik iv w W hW hq hq' (by rw [Tr.size_node, Tr.size_node]; have := HN.out; omega))
  go_region_held3 (fun W => W.cell? ⟨b, 0, none⟩ = some (.string lk) ∧ W.cell? ⟨b, 1, none⟩ = some (.int .i64 lv) ∧ W.cell? ⟨b, 3, none⟩ = some (.pointer (some ⟨c, 0, none⟩)) ∧ W.cell? ⟨b, 4, none⟩ = some (.pointer plr) ∧ W.cell? ⟨c, 0, none⟩ = some (.string ik) ∧ W.cell? ⟨c, 1, none⟩ = some (.int .i64 iv) ∧ W.cell? ⟨c, 3, none⟩ = some (.pointer pil) ∧ W.cell? ⟨c, 4, none⟩ = some (.pointer pir))
    (first | exact KP.out _ (bel_dw hV.out) | exact KP.out _ (by assumption))
    (first
      | (go_at_call 59; with_reducible refine (J1.out _ (bel_dw hV.out)).mono ?_; clear J1; rintro e w1 ⟨⟨q1, rfl, t1⟩, b1⟩)
      | (go_at_call 59; with_reducible refine (J2.out _ b1).mono ?_; clear J2; rintro e w2 ⟨⟨q2, rfl, t2⟩, b2, bb⟩)
      | (go_at_call 59; with_reducible refine (J3.out _ b2 _ _ (t1.later bb) t2).mono ?_; clear J3; rintro e w3 ⟨⟨q3, rfl, t3⟩, b3⟩))
  go_wp2_with fail
  exact bodyPost_ret (v := .pointer q3) (by simp [results, Try.results58, go_sem]) rfl ⟨⟨q3, _, rfl, t3, by simp [Tr.inorder]⟩, b3⟩
set_option maxHeartbeats 4000000 in
set_option maxRecDepth 100000 in
theorem settleC (pl pr : Option Addr) (l r : Tr ByteArray Int) (k : ByteArray) (v : Int) (w : World) (hl : IsT w pl l) (hr : IsT w pr r) (hn : l.inorder.length + r.inorder.length ≤ 9000) (g1 : ¬ (l.inorder.length + 1 > 3 * (r.inorder.length + 1))) (g2 : ¬ (r.inorder.length + 1 > 3 * (l.inorder.length + 1))) :
    Calls Try.prog 58 #[.pointer pl, .string k, .int .i64 v, .pointer pr] w (SetPost w (l.inorder ++ (k, v) :: r.inorder)) := by
  have WL := Lib.hid (weight_any _ _ w hl (by omega))
  have WR := Lib.hid (weight_any _ _ w hr (by omega))
  have J := Lib.hid (join_any pl pr l r k v w hl hr (by omega))
  have q1 : ¬ (3 : Int) * ((r.inorder.length : Int) + 1) < (l.inorder.length : Int) + 1 := by omega
  have q2 : ¬ (3 : Int) * ((l.inorder.length : Int) + 1) < (r.inorder.length : Int) + 1 := by omega
  have i1 : (l.inorder.length : Int) ≤ 10000 := by omega
  have j1 : (0 : Int) ≤ (l.inorder.length : Int) := by omega
  have i2 : (r.inorder.length : Int) ≤ 10000 := by omega
  have j2 : (0 : Int) ≤ (r.inorder.length : Int) := by omega
  clear hl hr g1 g2 hn
  go_enter Try.func58, Try.ntmps58
  go_wp2_with (first
    | (go_at_call 57; with_reducible refine WL.out.mono ?_; rintro e w1 ⟨rfl, rfl⟩)
    | (go_at_call 57; with_reducible refine WR.out.mono ?_; rintro e w1 ⟨rfl, rfl⟩)
    | (go_at_call 59; with_reducible refine J.out.mono ?_; rintro e w1 ⟨⟨q, rfl, t⟩, b⟩))
  exact bodyPost_ret (v := .pointer q) (by simp [results, Try.results58, go_sem]) rfl ⟨⟨q, _, rfl, t, by simp [Tr.inorder]⟩, b⟩
theorem settle_any (pl pr : Option Addr) (l r : Tr ByteArray Int) (k : ByteArray) (v : Int) (w : World) (hl : IsT w pl l) (hr : IsT w pr r) (hn : l.inorder.length + r.inorder.length ≤ 9000) :
    Calls Try.prog 58 #[.pointer pl, .string k, .int .i64 v, .pointer pr] w (SetPost w (l.inorder ++ (k, v) :: r.inorder)) := by
  by_cases g1 : l.inorder.length + 1 > 3 * (r.inorder.length + 1)
  · cases l with
    | leaf => simp [Tr.inorder] at g1 <;> omega
    | node ll lk lv lr =>
      obtain ⟨b, pll, plr, rfl, h0, h1, h2, h3, h4, hll, hlr⟩ := hl
      by_cases g2 : lr.inorder.length + 1 ≥ 2 * (ll.inorder.length + 1)
      · cases lr with
        | leaf => simp [Tr.inorder] at g2 <;> omega
        | node il ik iv ir =>
          obtain ⟨c, pil, pir, rfl, c0, c1, c2, c3, c4, hil, hir⟩ := hlr
          exact settleA1 b pll _ pr ll r lk k lv v w c pil pir il ir ik iv h0 h1 h2 h3 h4 rfl c0 c1 c2 c3 c4 hil hir hll hr hn g1 g2
      · exact settleA2 b pll plr pr ll lr r lk k lv v w h0 h1 h2 h3 h4 hll hlr hr hn g1 g2
  · by_cases g : r.inorder.length + 1 > 3 * (l.inorder.length + 1)
    · cases r with
      | leaf => simp [Tr.inorder] at g <;> omega
      | node ll lk lv lr =>
        obtain ⟨b, pll, plr, rfl, h0, h1, h2, h3, h4, hll, hlr⟩ := hr
        by_cases g2 : ll.inorder.length + 1 ≥ 2 * (lr.inorder.length + 1)
        · cases ll with
          | leaf => simp [Tr.inorder] at g2 <;> omega
          | node il ik iv ir =>
            obtain ⟨c, pil, pir, rfl, c0, c1, c2, c3, c4, hil, hir⟩ := hll
            exact settleB1 b _ plr pl lr l lk k lv v w c pil pir il ir ik iv h0 h1 h2 h3 h4 rfl c0 c1 c2 c3 c4 hil hir hlr hl (by omega) g g2
        · exact settleB2 b pll plr pl ll lr l lk k lv v w h0 h1 h2 h3 h4 hll hlr hl (by omega) g g2
    · exact settleC pl pr l r k v w hl hr hn g1 g
end Go.Proofs.Ytfgohbhacldlmaa
