/- Trees of maps in order: link, takeFirst, concat. -/
import Derived.Test.YtfgohbhacldlmaaT3
namespace Go.Proofs.Ytfgohbhacldlmaa
set_option linter.unusedSimpArgs false
open Go.RowKit
set_option linter.unusedVariables false

theorem set_from {w W : World} (hw : Below w.heap.size w W) {L : List (ByteArray × Int)} {e : Ending} {w' : World} (h : SetPost W L e w') : SetPost w L e w' := ⟨h.1, bel_trans hw h.2⟩
set_option maxHeartbeats 4000000 in
set_option maxRecDepth 100000 in
theorem link_n (n : Nat) : ∀ (pl pr : Option Addr) (l r : Tr ByteArray Int) (k : ByteArray) (v : Int) (w : World) (hl : IsT w pl l) (hr : IsT w pr r) (hn : l.inorder.length + r.inorder.length ≤ n) (h9 : n ≤ 8000),
    Calls Try.prog 46 #[.pointer pl, .string k, .int .i64 v, .pointer pr] w (SetPost w (l.inorder ++ (k, v) :: r.inorder)) := by
  induction n with
  | zero =>
    intro pl pr l r k v w hl hr hn h9
    have WL := Lib.hid (weight_any _ _ w hl (by omega))
    have WR := Lib.hid (weight_any _ _ w hr (by omega))
    have J := Lib.hid (join_any pl pr l r k v w hl hr (by omega))
    have e1 : (l.inorder.length : Int) = 0 := by omega
    have e2 : (r.inorder.length : Int) = 0 := by omega
    rw [e1] at WL
    rw [e2] at WR
    clear hl hr hn e1 e2
    go_enter Try.func46, Try.ntmps46
    go_wp2_with (first
      | (go_at_call 57; with_reducible refine WL.out.mono ?_; rintro e w1 ⟨rfl, rfl⟩)
      | (go_at_call 57; with_reducible refine WR.out.mono ?_; rintro e w1 ⟨rfl, rfl⟩)
      | (go_at_call 59; with_reducible refine J.out.mono ?_; rintro e w1 ⟨⟨q, rfl, t⟩, b⟩))
    exact bodyPost_ret (v := .pointer q) (by simp [results, Try.results46, go_sem]) rfl ⟨⟨q, _, rfl, t, by simp [Tr.inorder]⟩, b⟩
  | succ n ih =>
    intro pl pr l r k v w hl hr hn h9
    have WL := Lib.hid (weight_any _ _ w hl (by omega))
    have WR := Lib.hid (weight_any _ _ w hr (by omega))
    have i1 : (l.inorder.length : Int) ≤ 10000 := by omega
    have j1 : (0 : Int) ≤ (l.inorder.length : Int) := by omega
    have i2 : (r.inorder.length : Int) ≤ 10000 := by omega
    have j2 : (0 : Int) ≤ (r.inorder.length : Int) := by omega
    by_cases g1 : l.inorder.length + 1 > 3 * (r.inorder.length + 1)
    · cases l with
      | leaf => simp [Tr.inorder] at g1 <;> omega
      | node ll lk lv lr =>
        obtain ⟨b, pll, plr, rfl, h0, h1, h2, h3, h4, hll, hlr⟩ := hl
        have hsz := Tr.size_node ll lk lv lr
        have KP : Hid (∀ V, Below w.heap.size w V → V.cell? ⟨b, 0, none⟩ = some (.string lk) ∧ V.cell? ⟨b, 1, none⟩ = some (.int .i64 lv) ∧ V.cell? ⟨b, 3, none⟩ = some (.pointer pll) ∧ V.cell? ⟨b, 4, none⟩ = some (.pointer plr)) := Lib.hid (fun V hV => ⟨bel_later hV h0, bel_later hV h1, bel_later hV h3, bel_later hV h4⟩)
        have J1 := Lib.hid (fun W (hW : Below w.heap.size w W) => (ih plr pr lr r k v W (hlr.later hW) (hr.later hW) (by omega) (by omega)).mono (fun e w' h => set_from hW h))
        have J2 := Lib.hid (fun W (hW : Below w.heap.size w W) q T (hq : IsT W q T) (hT : T.inorder = lr.inorder ++ (k, v) :: r.inorder) => (settle_any pll q ll T lk lv W (hll.later hW) hq (by rw [hT]; simp; omega)).mono (fun e w' h => set_from hW h))
        have q1 : (3 : Int) * ((r.inorder.length : Int) + 1) < ((Tr.node ll lk lv lr).inorder.length : Int) + 1 := by omega
        have hV : Hid (Below w.heap.size w w.drew) := Lib.hid (bel_dw (Below.refl _ _))
        clear ih hr hll hlr h0 h1 h2 h3 h4 hn g1 hsz
        go_enter Try.func46, Try.ntmps46
        go_wp2_with (first
          | (go_at_call 57; with_reducible refine WL.out.mono ?_; rintro e w1 ⟨rfl, rfl⟩)
          | (go_at_call 57; with_reducible refine WR.out.mono ?_; rintro e w1 ⟨rfl, rfl⟩)
          | fail)
        clear q1 i1 i2 j1 j2 WL WR
        go_region_held3 (fun W => W.cell? ⟨b, 0, none⟩ = some (.string lk) ∧ W.cell? ⟨b, 1, none⟩ = some (.int .i64 lv) ∧ W.cell? ⟨b, 3, none⟩ = some (.pointer pll) ∧ W.cell? ⟨b, 4, none⟩ = some (.pointer plr))
          (first | exact KP.out _ hV.out | exact KP.out _ (by assumption))
          (first
            | (go_at_call 46; with_reducible refine (J1.out _ hV.out).mono ?_; clear J1; rintro e w1 ⟨⟨q1, T1, rfl, t1, e1⟩, b1⟩)
            | (go_at_call 58; with_reducible refine (J2.out _ b1 _ _ t1 e1).mono ?_; clear J2; rintro e w2 ⟨⟨q2, T2, rfl, t2, e2⟩, b2⟩))
        go_wp2_with fail
        exact bodyPost_ret (v := .pointer q2) (by simp [results, Try.results46, go_sem]) rfl ⟨⟨q2, T2, rfl, t2, by rw [e2, e1]; simp [Tr.inorder]⟩, b2⟩
    · have q1 : ¬ (3 : Int) * ((r.inorder.length : Int) + 1) < (l.inorder.length : Int) + 1 := by omega
      by_cases g : r.inorder.length + 1 > 3 * (l.inorder.length + 1)
      · cases r with
        | leaf => simp [Tr.inorder] at g <;> omega
        | node ll lk lv lr =>
          obtain ⟨b, pll, plr, rfl, h0, h1, h2, h3, h4, hll, hlr⟩ := hr
          have hsz := Tr.size_node ll lk lv lr
          have KP : Hid (∀ V, Below w.heap.size w V → V.cell? ⟨b, 0, none⟩ = some (.string lk) ∧ V.cell? ⟨b, 1, none⟩ = some (.int .i64 lv) ∧ V.cell? ⟨b, 3, none⟩ = some (.pointer pll) ∧ V.cell? ⟨b, 4, none⟩ = some (.pointer plr)) := Lib.hid (fun V hV => ⟨bel_later hV h0, bel_later hV h1, bel_later hV h3, bel_later hV h4⟩)
          have J1 := Lib.hid (fun W (hW : Below w.heap.size w W) => (ih pl pll l ll k v W (hl.later hW) (hll.later hW) (by omega) (by omega)).mono (fun e w' h => set_from hW h))
          have J2 := Lib.hid (fun W (hW : Below w.heap.size w W) q T (hq : IsT W q T) (hT : T.inorder = l.inorder ++ (k, v) :: ll.inorder) => (settle_any q plr T lr lk lv W hq (hlr.later hW) (by rw [hT]; simp; omega)).mono (fun e w' h => set_from hW h))
          have q2 : (3 : Int) * ((l.inorder.length : Int) + 1) < ((Tr.node ll lk lv lr).inorder.length : Int) + 1 := by omega
          have hV : Hid (Below w.heap.size w w.drew) := Lib.hid (bel_dw (Below.refl _ _))
          clear ih hl hll hlr h0 h1 h2 h3 h4 hn g g1 hsz
          go_enter Try.func46, Try.ntmps46
          go_wp2_with (first
            | (go_at_call 57; with_reducible refine WL.out.mono ?_; rintro e w1 ⟨rfl, rfl⟩)
            | (go_at_call 57; with_reducible refine WR.out.mono ?_; rintro e w1 ⟨rfl, rfl⟩)
            | fail)
          clear q1 q2 i1 i2 j1 j2 WL WR
          go_region_held3 (fun W => W.cell? ⟨b, 0, none⟩ = some (.string lk) ∧ W.cell? ⟨b, 1, none⟩ = some (.int .i64 lv) ∧ W.cell? ⟨b, 3, none⟩ = some (.pointer pll) ∧ W.cell? ⟨b, 4, none⟩ = some (.pointer plr))
            (first | exact KP.out _ hV.out | exact KP.out _ (by assumption))
            (first
              | (go_at_call 46; with_reducible refine (J1.out _ hV.out).mono ?_; clear J1; rintro e w1 ⟨⟨q1, T1, rfl, t1, e1⟩, b1⟩)
              | (go_at_call 58; with_reducible refine (J2.out _ b1 _ _ t1 e1).mono ?_; clear J2; rintro e w2 ⟨⟨q2, T2, rfl, t2, e2⟩, b2⟩))
          go_wp2_with fail
          exact bodyPost_ret (v := .pointer q2) (by simp [results, Try.results46, go_sem]) rfl ⟨⟨q2, T2, rfl, t2, by rw [e2, e1]; simp [Tr.inorder]⟩, b2⟩
      · have q2 : ¬ (3 : Int) * ((l.inorder.length : Int) + 1) < (r.inorder.length : Int) + 1 := by omega
        have J := Lib.hid (join_any pl pr l r k v w hl hr (by omega))
        clear ih hl hr hn g g1
        go_enter Try.func46, Try.ntmps46
        go_wp2_with (first
          | (go_at_call 57; with_reducible refine WL.out.mono ?_; rintro e w1 ⟨rfl, rfl⟩)
          | (go_at_call 57; with_reducible refine WR.out.mono ?_; rintro e w1 ⟨rfl, rfl⟩)
          | (go_at_call 59; with_reducible refine J.out.mono ?_; rintro e w1 ⟨⟨q, rfl, t⟩, b⟩))
        exact bodyPost_ret (v := .pointer q) (by simp [results, Try.results46, go_sem]) rfl ⟨⟨q, _, rfl, t, by simp [Tr.inorder]⟩, b⟩
theorem link_any (pl pr : Option Addr) (l r : Tr ByteArray Int) (k : ByteArray) (v : Int) (w W : World) (hw : Below w.heap.size w W) (hl : IsT W pl l) (hr : IsT W pr r) (hn : l.inorder.length + r.inorder.length ≤ 8000) :
    Calls Try.prog 46 #[.pointer pl, .string k, .int .i64 v, .pointer pr] W (SetPost w (l.inorder ++ (k, v) :: r.inorder)) :=
  (link_n 8000 pl pr l r k v W hl hr hn (Nat.le_refl _)).mono fun e w' h => set_from hw h
end Go.Proofs.Ytfgohbhacldlmaa
