/- Trees of maps in order: settle. -/
import Derived.Test.YtfgohbhacldlmaaT1
import Derived.Deep.RegionHeld3
namespace Go.Proofs.Ytfgohbhacldlmaa
set_option linter.unusedSimpArgs false
open Go.RowKit
set_option linter.unusedVariables false

theorem bel_dw {B : Nat} {w w1 : World} (h : Below B w w1) : Below B w w1.drew := ⟨h.os, h.tape, h.output, h.size, h.block⟩
theorem joinX (pl pr : Option Addr) (l r : Tr ByteArray Int) (k : ByteArray) (v : Int) (w W : World) (hw : Below w.heap.size w W) (hl : IsT W pl l) (hr : IsT W pr r) (hn : l.inorder.length + r.inorder.length ≤ 10000) :
    Calls Try.prog 59 #[.pointer pl, .string k, .int .i64 v, .pointer pr] W fun e w' => (∃ q, e = .returned (.pointer q) ∧ IsT w' q (.node l k v r)) ∧ Below w.heap.size w w' :=
  (join_any pl pr l r k v W hl hr hn).mono fun e w' h => ⟨h.1, bel_trans hw h.2⟩
theorem weight_q (p : Option Addr) (T : Tr ByteArray Int) (w : World) (h : IsT w p T) (hn : T.inorder.length ≤ 1000000) (n : Nat) : Calls Try.prog 57 #[.pointer p] (w.drewN n) fun e w'' => e = .returned (.int .i64 ((T.inorder.length : Int) + 1)) ∧ ∃ m, w'' = w.drewN m :=
  (weight_any p T (w.drewN n) (h.later (bel_drewN (Below.refl _ _) n)) hn).mono fun e w' h => ⟨h.1, n, h.2.symm⟩
abbrev SetPost (w : World) (L : List (ByteArray × Int)) (e : Ending) (w' : World) : Prop := (∃ q T, e = .returned (.pointer q) ∧ IsT w' q T ∧ T.inorder = L) ∧ Below w.heap.size w w'
theorem joinY (pl pr : Option Addr) (l r : Tr ByteArray Int) (k : ByteArray) (v : Int) (w W : World) (hw : Below w.heap.size w W) (hl : IsT W pl l) (hr : IsT W pr r) (hn : l.inorder.length + r.inorder.length ≤ 10000) :
    Calls Try.prog 59 #[.pointer pl, .string k, .int .i64 v, .pointer pr] W fun e w' => (∃ q, e = .returned (.pointer q) ∧ IsT w' q (.node l k v r)) ∧ Below w.heap.size w w' ∧ Below W.heap.size W w' :=
  (join_any pl pr l r k v W hl hr hn).mono fun e w' h => ⟨h.1, bel_trans hw h.2, h.2⟩
set_option maxHeartbeats 4000000 in
set_option maxRecDepth 100000 in
theorem settleA2 (b : Nat) (pll plr pt : Option Addr) (ll lr t : Tr ByteArray Int) (lk k : ByteArray) (lv v : Int) (w : World) (h0 : w.cell? ⟨b, 0, none⟩ = some (.string lk)) (h1 : w.cell? ⟨b, 1, none⟩ = some (.int .i64 lv)) (h2 : w.cell? ⟨b, 2, none⟩ = some (.int .i64 (((Tr.node ll lk lv lr).inorder.length : Nat) : Int))) (h3 : w.cell? ⟨b, 3, none⟩ = some (.pointer pll)) (h4 : w.cell? ⟨b, 4, none⟩ = some (.pointer plr)) (hll : IsT w pll ll) (hlr : IsT w plr lr) (ht : IsT w pt t) (hn : (Tr.node ll lk lv lr).inorder.length + t.inorder.length ≤ 9000) (g : (Tr.node ll lk lv lr).inorder.length + 1 > 3 * (t.inorder.length + 1)) (g2 : ¬ (lr.inorder.length + 1 ≥ 2 * (ll.inorder.length + 1))) :
    Calls Try.prog 58 #[.pointer (some ⟨b, 0, none⟩), .string k, .int .i64 v, .pointer pt] w (SetPost w ((Tr.node ll lk lv lr).inorder ++ (k, v) :: t.inorder)) := by
  have hi := hlr
  have ho := hll
  have hL : IsT w (some ⟨b, 0, none⟩) (Tr.node ll lk lv lr) := ⟨b, pll, plr, rfl, h0, h1, h2, h3, h4, hll, hlr⟩
  have hsz := Tr.size_node ll lk lv lr
  have WB := Lib.hid (weight_any _ _ w hL (by omega))
  have WT := Lib.hid (weight_any _ _ w ht (by omega))
  have W1 := Lib.hid (weight_q _ _ w hi (by omega))
  have W2 := Lib.hid (weight_q _ _ w ho (by omega))
  have KP : Hid (∀ V, Below w.heap.size w V → V.cell? ⟨b, 0, none⟩ = some (.string lk) ∧ V.cell? ⟨b, 1, none⟩ = some (.int .i64 lv) ∧ V.cell? ⟨b, 3, none⟩ = some (.pointer pll) ∧ V.cell? ⟨b, 4, none⟩ = some (.pointer plr)) := Lib.hid (fun V hV => ⟨bel_later hV h0, bel_later hV h1, bel_later hV h3, bel_later hV h4⟩)
  have HO := Lib.hid ho
  have HT := Lib.hid ht
  have HI := Lib.hid hi
  have HN : Hid (ll.inorder.length + lr.inorder.length + t.inorder.length + 3 ≤ 10000) := Lib.hid (by omega)
  have q1 : (3 : Int) * ((t.inorder.length : Int) + 1) < ((Tr.node ll lk lv lr).inorder.length : Int) + 1 := by omega
  have q2 : ¬ (2 : Int) * ((ll.inorder.length : Int) + 1) ≤ (lr.inorder.length : Int) + 1 := by omega
  have i1 : ((Tr.node ll lk lv lr).inorder.length : Int) ≤ 10000 := by omega
  have j1 : (0 : Int) ≤ ((Tr.node ll lk lv lr).inorder.length : Int) := by omega
  have i2 : (t.inorder.length : Int) ≤ 10000 := by omega
  have j2 : (0 : Int) ≤ (t.inorder.length : Int) := by omega
  have i3 : (lr.inorder.length : Int) ≤ 10000 := by omega
  have j3 : (0 : Int) ≤ (lr.inorder.length : Int) := by omega
  have i4 : (ll.inorder.length : Int) ≤ 10000 := by omega
  have j4 : (0 : Int) ≤ (ll.inorder.length : Int) := by omega
  clear hL hi ho ht hsz hn g g2 h0 h1 h2 hll hlr
  go_enter Try.func58, Try.ntmps58
  go_wp2_with (first
    | (go_at_call 57; with_reducible refine WB.out.mono ?_; rintro e w1 ⟨rfl, rfl⟩)
    | (go_at_call 57; with_reducible refine WT.out.mono ?_; rintro e w1 ⟨rfl, rfl⟩)
    | fail)
  go_quiet ((first | (go_at_call 57; with_reducible exact W1.out _) | (go_at_call 57; with_reducible exact W2.out _)))
  go_wp2_with fail
  clear q1 q2 i1 i2 i3 i4 j1 j2 j3 j4 W1 W2 WB WT
  have hV : Hid (Below w.heap.size w (w.drewN nq)) := Lib.hid (bel_drewN (Below.refl _ _) _)
  generalize w.drewN nq = V at *
  have J1 := Lib.hid (fun W (hW : Below w.heap.size w W) => joinX plr pt lr t k v w W hW (HI.out.later hW) (HT.out.later hW) (by have := HN.out; omega))
  have J2 := Lib.hid (fun W (hW : Below w.heap.size w W) q (hq : IsT W q (.node lr k v t)) => joinX pll q ll (.node lr k v t) lk lv w W hW (HO.out.later hW) hq (by rw [Tr.size_node]; have := HN.out; omega))
  go_region_held3 (fun W => W.cell? ⟨b, 0, none⟩ = some (.string lk) ∧ W.cell? ⟨b, 1, none⟩ = some (.int .i64 lv) ∧ W.cell? ⟨b, 3, none⟩ = some (.pointer pll) ∧ W.cell? ⟨b, 4, none⟩ = some (.pointer plr))
    (first | exact KP.out _ (bel_dw hV.out) | exact KP.out _ (by assumption))
    (first
      | (go_at_call 59; with_reducible refine (J1.out _ (bel_dw hV.out)).mono ?_; clear J1; rintro e w1 ⟨⟨q1, rfl, t1⟩, b1⟩)
      | (go_at_call 59; with_reducible refine (J2.out _ b1 _ t1).mono ?_; clear J2; rintro e w2 ⟨⟨q2, rfl, t2⟩, b2⟩))
  go_wp2_with fail
  exact bodyPost_ret (v := .pointer q2) (by simp [results, Try.results58, go_sem]) rfl ⟨⟨q2, _, rfl, t2, by simp [Tr.inorder]⟩, b2⟩
set_option maxHeartbeats 4000000 in
set_option maxRecDepth 100000 in
theorem settleB2 (b : Nat) (pll plr pt : Option Addr) (ll lr t : Tr ByteArray Int) (lk k : ByteArray) (lv v : Int) (w : World) (h0 : w.cell? ⟨b, 0, none⟩ = some (.string lk)) (h1 : w.cell? ⟨b, 1, none⟩ = some (.int .i64 lv)) (h2 : w.cell? ⟨b, 2, none⟩ = some (.int .i64 (((Tr.node ll lk lv lr).inorder.length : Nat) : Int))) (h3 : w.cell? ⟨b, 3, none⟩ = some (.pointer pll)) (h4 : w.cell? ⟨b, 4, none⟩ = some (.pointer plr)) (hll : IsT w pll ll) (hlr : IsT w plr lr) (ht : IsT w pt t) (hn : (Tr.node ll lk lv lr).inorder.length + t.inorder.length ≤ 9000) (g : (Tr.node ll lk lv lr).inorder.length + 1 > 3 * (t.inorder.length + 1)) (g2 : ¬ (ll.inorder.length + 1 ≥ 2 * (lr.inorder.length + 1))) :
    Calls Try.prog 58 #[.pointer pt, .string k, .int .i64 v, .pointer (some ⟨b, 0, none⟩)] w (SetPost w (t.inorder ++ (k, v) :: (Tr.node ll lk lv lr).inorder)) := by
  have hi := hll
  have ho := hlr
  have hL : IsT w (some ⟨b, 0, none⟩) (Tr.node ll lk lv lr) := ⟨b, pll, plr, rfl, h0, h1, h2, h3, h4, hll, hlr⟩
  have hsz := Tr.size_node ll lk lv lr
  have WB := Lib.hid (weight_any _ _ w hL (by omega))
  have WT := Lib.hid (weight_any _ _ w ht (by omega))
  have W1 := Lib.hid (weight_q _ _ w hi (by omega))
  have W2 := Lib.hid (weight_q _ _ w ho (by omega))
  have KP : Hid (∀ V, Below w.heap.size w V → V.cell? ⟨b, 0, none⟩ = some (.string lk) ∧ V.cell? ⟨b, 1, none⟩ = some (.int .i64 lv) ∧ V.cell? ⟨b, 3, none⟩ = some (.pointer pll) ∧ V.cell? ⟨b, 4, none⟩ = some (.pointer plr)) := Lib.hid (fun V hV => ⟨bel_later hV h0, bel_later hV h1, bel_later hV h3, bel_later hV h4⟩)
  have HO := Lib.hid ho
  have HT := Lib.hid ht
  have HI := Lib.hid hi
  have HN : Hid (ll.inorder.length + lr.inorder.length + t.inorder.length + 3 ≤ 10000) := Lib.hid (by omega)
  have q1 : (3 : Int) * ((t.inorder.length : Int) + 1) < ((Tr.node ll lk lv lr).inorder.length : Int) + 1 := by omega
  have q2 : ¬ (2 : Int) * ((lr.inorder.length : Int) + 1) ≤ (ll.inorder.length : Int) + 1 := by omega
  have q3 : ¬ (3 : Int) * (((Tr.node ll lk lv lr).inorder.length : Int) + 1) < (t.inorder.length : Int) + 1 := by omega
  have i1 : ((Tr.node ll lk lv lr).inorder.length : Int) ≤ 10000 := by omega
  have j1 : (0 : Int) ≤ ((Tr.node ll lk lv lr).inorder.length : Int) := by omega
  have i2 : (t.inorder.length : Int) ≤ 10000 := by omega
  have j2 : (0 : Int) ≤ (t.inorder.length : Int) := by omega
  have i3 : (ll.inorder.length : Int) ≤ 10000 := by omega
  have j3 : (0 : Int) ≤ (ll.inorder.length : Int) := by omega
  have i4 : (lr.inorder.length : Int) ≤ 10000 := by omega
  have j4 : (0 : Int) ≤ (lr.inorder.length : Int) := by omega
  clear hL hi ho ht hsz hn g g2 h0 h1 h2 hll hlr
  go_enter Try.func58, Try.ntmps58
  go_wp2_with (first
    | (go_at_call 57; with_reducible refine WB.out.mono ?_; rintro e w1 ⟨rfl, rfl⟩)
    | (go_at_call 57; with_reducible refine WT.out.mono ?_; rintro e w1 ⟨rfl, rfl⟩)
    | fail)
  go_quiet ((first | (go_at_call 57; with_reducible exact W1.out _) | (go_at_call 57; with_reducible exact W2.out _)))
  go_wp2_with fail
  clear q1 q2 i1 i2 i3 i4 j1 j2 j3 j4 W1 W2 WB WT q3
  have hV : Hid (Below w.heap.size w (w.drewN nq)) := Lib.hid (bel_drewN (Below.refl _ _) _)
  generalize w.drewN nq = V at *
  have J1 := Lib.hid (fun W (hW : Below w.heap.size w W) => joinX pt pll t ll k v w W hW (HT.out.later hW) (HI.out.later hW) (by have := HN.out; omega))
  have J2 := Lib.hid (fun W (hW : Below w.heap.size w W) q (hq : IsT W q (.node t k v ll)) => joinX q plr (.node t k v ll) lr lk lv w W hW hq (HO.out.later hW) (by rw [Tr.size_node]; have := HN.out; omega))
  go_region_held3 (fun W => W.cell? ⟨b, 0, none⟩ = some (.string lk) ∧ W.cell? ⟨b, 1, none⟩ = some (.int .i64 lv) ∧ W.cell? ⟨b, 3, none⟩ = some (.pointer pll) ∧ W.cell? ⟨b, 4, none⟩ = some (.pointer plr))
    (first | exact KP.out _ (bel_dw hV.out) | exact KP.out _ (by assumption))
    (first
      | (go_at_call 59; with_reducible refine (J1.out _ (bel_dw hV.out)).mono ?_; clear J1; rintro e w1 ⟨⟨q1, rfl, t1⟩, b1⟩)
      | (go_at_call 59; with_reducible refine (J2.out _ b1 _ t1).mono ?_; clear J2; rintro e w2 ⟨⟨q2, rfl, t2⟩, b2⟩))
  go_wp2_with fail
  exact bodyPost_ret (v := .pointer q2) (by simp [results, Try.results58, go_sem]) rfl ⟨⟨q2, _, rfl, t2, by simp [Tr.inorder]⟩, b2⟩
end Go.Proofs.Ytfgohbhacldlmaa
