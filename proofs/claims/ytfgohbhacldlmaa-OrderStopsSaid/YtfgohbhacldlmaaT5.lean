/- Trees of maps in order: takeFirst, concat, split. -/
import Derived.Test.YtfgohbhacldlmaaT4
namespace Go.Proofs.Ytfgohbhacldlmaa
set_option linter.unusedSimpArgs false
open Go.RowKit
set_option linter.unusedVariables false

/-- A node's key and value. -/
def Nd (w : World) (p : Option Addr) (k : ByteArray) (v : Int) : Prop := ∃ b, p = some ⟨b, 0, none⟩ ∧ w.cell? ⟨b, 0, none⟩ = some (.string k) ∧ w.cell? ⟨b, 1, none⟩ = some (.int .i64 v)
theorem Nd.later {w w' : World} {p : Option Addr} {k : ByteArray} {v : Int} (h : Nd w p k v) (hb : Below w.heap.size w w') : Nd w' p k v := by
  obtain ⟨b, e, h0, h1⟩ := h
  exact ⟨b, e, bel_later hb h0, bel_later hb h1⟩
theorem cmp_lt {a b : ByteArray} (h : ltS a b = true) : cmpF a b = -1 := by simp [cmpF, h]
theorem cmp_gt {a b : ByteArray} (h : ltS b a = true) : cmpF a b = 1 := by simp [cmpF, h, linS.asymm h]
theorem cmp_eq (a : ByteArray) : cmpF a a = 0 := by simp [cmpF, linS.irr]

/-- What takeFirst answers. -/
abbrev FstPost (w : World) (L : List (ByteArray × Int)) (e : Ending) (w' : World) : Prop := (∃ p q k v T, e = .returned (.tuple #[.pointer p, .pointer q]) ∧ Nd w' p k v ∧ IsT w' q T ∧ L = (k, v) :: T.inorder) ∧ Below w.heap.size w w'
set_option maxHeartbeats 4000000 in
set_option maxRecDepth 100000 in
theorem first_any (T : Tr ByteArray Int) : ∀ (p : Option Addr) (w : World) (h : IsT w p T) (h0 : T.inorder ≠ []) (hn : T.inorder.length ≤ 8000),
    Calls Try.prog 60 #[.pointer p] w (FstPost w T.inorder) := by
  induction T with
  | leaf => intro p w h h0; simp [Tr.inorder] at h0
  | node l k v r ihl ihr =>
    intro p w h h0 hn
    clear ihr
    obtain ⟨b, pl, pr, rfl, c0, c1, c2, c3, c4, hl, hr⟩ := h
    have hsz := Tr.size_node l k v r
    have hV : Hid (Below w.heap.size w w.drew) := Lib.hid (bel_dw (Below.refl _ _))
    cases l with
    | leaf =>
      obtain rfl : pl = none := hl
      have HR := Lib.hid hr
      have HN : Hid (Nd w (some ⟨b, 0, none⟩) k v) := Lib.hid ⟨b, rfl, c0, c1⟩
      clear ihl hr hn h0 c0 c1 c2 hsz
      go_enter Try.func60, Try.ntmps60
      go_wp2_with fail
      go_quiet (fail)
      go_wp2
      have hq : Below w.heap.size w (w.drewN nq) := bel_drewN (Below.refl _ _) _
      refine bodyPost_ret (v := .tuple #[.pointer (some ⟨b, 0, none⟩), .pointer pr]) (by simp [results, Try.results60, go_sem]) rfl ⟨⟨_, _, k, v, r, rfl, HN.out.later (bel_drewN (Below.refl _ _) _), HR.out.later (bel_drewN (Below.refl _ _) _), by simp [Tr.inorder]⟩, hq⟩
    | node ll lk lv lr =>
      have HR := Lib.hid (fun W (hW : Below w.heap.size w W) => hr.later hW)
      have KP : Hid (∀ V, Below w.heap.size w V → V.cell? ⟨b, 0, none⟩ = some (.string k) ∧ V.cell? ⟨b, 1, none⟩ = some (.int .i64 v) ∧ V.cell? ⟨b, 4, none⟩ = some (.pointer pr)) := Lib.hid (fun V hV => ⟨bel_later hV c0, bel_later hV c1, bel_later hV c4⟩)
      have C := Lib.hid (ihl pl w hl (by simp [Tr.inorder]) (by omega))
      obtain ⟨b2, _, _, rfl, _⟩ := hl
      have HZ := Lib.hid hsz
      have HN := Lib.hid hn
      clear ihl hr c0 c1 c2 c4 hsz h0 hn hV
      go_enter Try.func60, Try.ntmps60
      go_wp2_with (first
        | (go_at_call 60; with_reducible refine C.out.mono ?_; clear C; rintro e w1 ⟨⟨p1, q1, k1, v1, T1, rfl, n1, t1, e1⟩, b1⟩)
        | fail)
      have hV : Hid (Below w.heap.size w w1.drew) := Lib.hid (bel_dw b1)
      have J := Lib.hid (link_any q1 pr T1 r k v w1.drew w1.drew (Below.refl _ _) (t1.later (bel_dw (Below.refl _ _))) (HR.out _ hV.out) (by have h1 := HN.out; have h2 := HZ.out; rw [e1] at h2; simp at h2; omega))
      have N1 := Lib.hid (n1.later (bel_dw (Below.refl _ _)))
      have E1 := Lib.hid e1
      clear n1 t1 e1 b1
      go_region_held3 (fun W => W.cell? ⟨b, 0, none⟩ = some (.string k) ∧ W.cell? ⟨b, 1, none⟩ = some (.int .i64 v) ∧ W.cell? ⟨b, 4, none⟩ = some (.pointer pr))
        (first | exact KP.out _ hV.out | exact KP.out _ (by assumption))
        (first
          | (go_at_call 46; with_reducible refine J.out.mono ?_; clear J; rintro e w2 ⟨⟨q2, T2, rfl, t2, e2⟩, b2⟩; have b3 := hV.out.trans (b2.mono hV.out.size)))
      go_wp2_with fail
      exact bodyPost_ret (v := .tuple #[.pointer p1, .pointer q2]) (by simp [results, Try.results60, go_sem]) rfl ⟨⟨p1, q2, k1, v1, T2, rfl, N1.out.later b2, t2, by rw [e2]; simp only [Tr.inorder] at E1 ⊢; rw [E1.out]; simp⟩, b3⟩
set_option maxHeartbeats 4000000 in
set_option maxRecDepth 100000 in
theorem concat_any (pl pr : Option Addr) (l r : Tr ByteArray Int) (w : World) (hl : IsT w pl l) (hr : IsT w pr r) (hn : l.inorder.length + r.inorder.length ≤ 8000) :
    Calls Try.prog 47 #[.pointer pl, .pointer pr] w (SetPost w (l.inorder ++ r.inorder)) := by
  have HL := Lib.hid (fun W (hW : Below w.heap.size w W) => hl.later hW)
  cases r with
  | leaf =>
    obtain rfl : pr = none := hr
    clear hl hn
    go_enter Try.func47, Try.ntmps47
    go_wp2
    exact bodyPost_ret (v := .pointer pl) (by simp [results, Try.results47, go_sem]) rfl ⟨⟨pl, l, rfl, HL.out _ (Below.refl _ _), by simp [Tr.inorder]⟩, Below.refl _ _⟩
  | node rl rk rv rr =>
    have C := Lib.hid (first_any _ pr w hr (by simp [Tr.inorder]) (by omega))
    have HN := Lib.hid hn
    obtain ⟨b2, _, _, rfl, _⟩ := hr
    clear hl hn
    go_enter Try.func47, Try.ntmps47
    go_wp2_with (first
      | (go_at_call 60; with_reducible refine C.out.mono ?_; clear C; rintro e w1 ⟨⟨p1, q1, k1, v1, T1, rfl, n1, t1, e1⟩, b1⟩)
      | fail)
    obtain ⟨b, rfl, c0, c1⟩ := n1
    have hV : Hid (Below w.heap.size w w1.drew) := Lib.hid (bel_dw b1)
    have J := Lib.hid (link_any pl q1 l T1 k1 v1 w1.drew w1.drew (Below.refl _ _) (HL.out _ hV.out) (t1.later (bel_dw (Below.refl _ _))) (by have h1 := HN.out; rw [e1] at h1; simp at h1; omega))
    have KP : Hid (∀ V, Below w1.heap.size w1 V → V.cell? ⟨b, 0, none⟩ = some (.string k1) ∧ V.cell? ⟨b, 1, none⟩ = some (.int .i64 v1)) := Lib.hid (fun V hV => ⟨bel_later hV c0, bel_later hV c1⟩)
    have E1 := Lib.hid e1
    clear t1 e1 b1 c0 c1
    go_region_held3 (fun W => W.cell? ⟨b, 0, none⟩ = some (.string k1) ∧ W.cell? ⟨b, 1, none⟩ = some (.int .i64 v1))
      (first | exact KP.out _ (bel_dw (Below.refl _ _)) | exact KP.out _ (by assumption))
      (first
        | (go_at_call 46; with_reducible refine J.out.mono ?_; clear J; rintro e w2 ⟨⟨q2, T2, rfl, t2, e2⟩, b2⟩; have b3 := hV.out.trans (b2.mono hV.out.size); have b4 : Below w1.heap.size w1 w2 := bel_dr b2))
    go_wp2_with fail
    exact bodyPost_ret (v := .pointer q2) (by simp [results, Try.results47, go_sem]) rfl ⟨⟨q2, T2, rfl, t2, by rw [e2, E1.out]⟩, b3⟩
end Go.Proofs.Ytfgohbhacldlmaa
