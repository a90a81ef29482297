/- Trees of maps in order: split. -/
import Derived.Test.YtfgohbhacldlmaaT4
namespace Go.Proofs.Ytfgohbhacldlmaa
set_option linter.unusedSimpArgs false
open Go.RowKit
set_option linter.unusedVariables false

/-- The node of a key itself, if there is one. -/
def AtP (w : World) (p : Option Addr) (L : List (ByteArray × Int)) : Prop := (L = [] ∧ p = none) ∨ ∃ b k v, L = [(k, v)] ∧ p = some ⟨b, 0, none⟩ ∧ w.cell? ⟨b, 0, none⟩ = some (.string k) ∧ w.cell? ⟨b, 1, none⟩ = some (.int .i64 v)
theorem AtP.later {w w' : World} {p : Option Addr} {L : List (ByteArray × Int)} (h : AtP w p L) (hb : Below w.heap.size w w') : AtP w' p L := by
  rcases h with h | ⟨b, k, v, e, e2, h0, h1⟩
  · exact .inl h
  · exact .inr ⟨b, k, v, e, e2, bel_later hb h0, bel_later hb h1⟩
theorem cmp_lt' {a b : ByteArray} (h : ltS a b = true) : cmpF a b = -1 := by simp [cmpF, h]
theorem cmp_gt' {a b : ByteArray} (h : ltS b a = true) : cmpF a b = 1 := by simp [cmpF, h, linS.asymm h]
theorem cmp_eq' (a : ByteArray) : cmpF a a = 0 := by simp [cmpF, linS.irr]
/-- What split answers. -/
abbrev SplPost (w : World) (k : ByteArray) (L : List (ByteArray × Int)) (e : Ending) (w' : World) : Prop := (∃ q1 q2 q3 T1 T3, e = .returned (.tuple #[.pointer q1, .pointer q2, .pointer q3]) ∧ IsT w' q1 T1 ∧ T1.inorder = below ltS k L ∧ AtP w' q2 (atk ltS k L) ∧ IsT w' q3 T3 ∧ T3.inorder = above ltS k L) ∧ Below w.heap.size w w'
set_option maxHeartbeats 4000000 in
set_option maxRecDepth 100000 in
theorem split_any (k : ByteArray) (T : Tr ByteArray Int) : ∀ (p : Option Addr) (w : World) (h : IsT w p T) (hs : Srt ltS T.inorder) (hn : T.inorder.length ≤ 8000),
    Calls Try.prog 40 #[.pointer p, .string k] w (SplPost w k T.inorder) := by
  induction T with
  | leaf =>
    intro p w h hs hn
    obtain rfl : p = none := h
    clear hs hn
    go_enter Try.func40, Try.ntmps40
    go_wp2
    exact bodyPost_ret (v := .tuple #[.pointer none, .pointer none, .pointer none]) (by simp [results, Try.results40, go_sem]) rfl ⟨⟨none, none, none, .leaf, .leaf, rfl, rfl, rfl, .inl ⟨rfl, rfl⟩, rfl, rfl⟩, Below.refl _ _⟩
  | node l nk nv r ihl ihr =>
    intro p w h hs hn
    obtain ⟨b, pl, pr, rfl, c0, c1, c2, c3, c4, hl, hr⟩ := h
    have hsz := Tr.size_node l nk nv r
    have C := Lib.hid (cmp_any k nk w)
    rcases linS.tri k nk with hk | hk | hk
    · rw [cmp_lt' hk] at C
      have CL := Lib.hid (ihl pl w hl hs.left (by omega))
      have HR := Lib.hid (fun W (hW : Below w.heap.size w W) => hr.later hW)
      have KP : Hid (∀ V, Below w.heap.size w V → V.cell? ⟨b, 0, none⟩ = some (.string nk) ∧ V.cell? ⟨b, 1, none⟩ = some (.int .i64 nv) ∧ V.cell? ⟨b, 4, none⟩ = some (.pointer pr)) := Lib.hid (fun V hV => ⟨bel_later hV c0, bel_later hV c1, bel_later hV c4⟩)
      have PT := Lib.hid (cut_lt linS hs hk)
      have HB : Hid ((above ltS k l.inorder).length + r.inorder.length ≤ 8000) := Lib.hid (by have := List.length_filter_le (fun x => ltS k x.1) l.inorder; simp only [above]; omega)
      clear ihl ihr hl hr hs hn hsz c1 c2 c4 hk
      go_enter Try.func40, Try.ntmps40
      go_wp2_with (first
        | (go_at_call 38; with_reducible refine C.out.mono ?_; clear C; rintro e w0 ⟨rfl, rfl⟩)
        | (go_at_call 40; with_reducible refine CL.out.mono ?_; clear CL; rintro e w1 ⟨⟨q1, q2, q3, T1, T3, rfl, t1, e1, a2, t3, e3⟩, b1⟩)
        | fail)
      have hV : Hid (Below w.heap.size w w1.drew) := Lib.hid (bel_dw b1)
      have B1 : Hid (Below w1.heap.size w1 w1.drew) := Lib.hid (bel_dw (Below.refl _ _))
      have J := Lib.hid (link_any q3 pr T3 r nk nv w1.drew w1.drew (Below.refl _ _) (t3.later B1.out) (HR.out _ hV.out) (by rw [e3]; exact HB.out))
      have H1 := Lib.hid t1
      have H2 := Lib.hid a2
      have E := Lib.hid (show T1.inorder = _ ∧ T3.inorder = _ from ⟨e1, e3⟩)
      clear t1 a2 t3 e1 e3 b1 c0 c3
      go_region_held3 (fun W => W.cell? ⟨b, 0, none⟩ = some (.string nk) ∧ W.cell? ⟨b, 1, none⟩ = some (.int .i64 nv) ∧ W.cell? ⟨b, 4, none⟩ = some (.pointer pr))
        (first | exact KP.out _ hV.out | exact KP.out _ (by assumption))
        (first
          | (go_at_call 46; with_reducible refine J.out.mono ?_; clear J; rintro e w2 ⟨⟨q4, T4, rfl, t4, e4⟩, b2⟩; have b3 := hV.out.trans (b2.mono hV.out.size)))
      go_wp2_with fail
      have b4 : Below w1.heap.size w1 w2 := B1.out.trans b2
      exact bodyPost_ret (v := .tuple #[.pointer q1, .pointer q2, .pointer q4]) (by simp [results, Try.results40, go_sem]) rfl ⟨⟨q1, q2, q4, T1, T4, rfl, H1.out.later b4, by rw [E.out.1]; exact PT.out.1.symm, by simp only [Tr.inorder]; rw [PT.out.2.2]; exact H2.out.later b4, t4, by rw [e4, E.out.2]; exact PT.out.2.1.symm⟩, b3⟩
    · subst hk
      rw [cmp_eq'] at C
      have PT := Lib.hid (cut_eq linS hs rfl)
      have HL := Lib.hid (fun W (hW : Below w.heap.size w W) => hl.later hW)
      have HR := Lib.hid (fun W (hW : Below w.heap.size w W) => hr.later hW)
      have KP : Hid (∀ V, Below w.heap.size w V → V.cell? ⟨b, 0, none⟩ = some (.string k) ∧ V.cell? ⟨b, 1, none⟩ = some (.int .i64 nv)) := Lib.hid (fun V hV => ⟨bel_later hV c0, bel_later hV c1⟩)
      clear ihl ihr hl hr hs hn hsz c1 c2
      go_enter Try.func40, Try.ntmps40
      go_wp2_with (first
        | (go_at_call 38; with_reducible refine C.out.mono ?_; clear C; rintro e w0 ⟨rfl, rfl⟩)
        | fail)
      go_quiet (fail)
      go_wp2
      have hq : Below w.heap.size w (w.drewN nq) := bel_drewN (Below.refl _ _) _
      obtain ⟨k0, k1⟩ := KP.out _ hq
      exact bodyPost_ret (v := .tuple #[.pointer pl, .pointer (some ⟨b, 0, none⟩), .pointer pr]) (by simp [results, Try.results40, go_sem]) rfl ⟨⟨pl, _, pr, l, r, rfl, HL.out _ hq, PT.out.1.symm, .inr ⟨b, k, nv, PT.out.2.2, rfl, k0, k1⟩, HR.out _ hq, PT.out.2.1.symm⟩, hq⟩
    · rw [cmp_gt' hk] at C
      have CL := Lib.hid (ihr pr w hr hs.right.tail (by omega))
      have HL := Lib.hid (fun W (hW : Below w.heap.size w W) => hl.later hW)
      have KP : Hid (∀ V, Below w.heap.size w V → V.cell? ⟨b, 0, none⟩ = some (.string nk) ∧ V.cell? ⟨b, 1, none⟩ = some (.int .i64 nv) ∧ V.cell? ⟨b, 3, none⟩ = some (.pointer pl)) := Lib.hid (fun V hV => ⟨bel_later hV c0, bel_later hV c1, bel_later hV c3⟩)
      have PT := Lib.hid (cut_gt linS hs hk)
      have HB : Hid (l.inorder.length + (below ltS k r.inorder).length ≤ 8000) := Lib.hid (by have := List.length_filter_le (fun x => ltS x.1 k) r.inorder; simp only [below]; omega)
      clear ihl ihr hl hr hs hn hsz c1 c2 c3 hk
      go_enter Try.func40, Try.ntmps40
      go_wp2_with (first
        | (go_at_call 38; with_reducible refine C.out.mono ?_; clear C; rintro e w0 ⟨rfl, rfl⟩)
        | (go_at_call 40; with_reducible refine CL.out.mono ?_; clear CL; rintro e w1 ⟨⟨q1, q2, q3, T1, T3, rfl, t1, e1, a2, t3, e3⟩, b1⟩)
        | fail)
      have hV : Hid (Below w.heap.size w w1.drew) := Lib.hid (bel_dw b1)
      have B1 : Hid (Below w1.heap.size w1 w1.drew) := Lib.hid (bel_dw (Below.refl _ _))
      have J := Lib.hid (link_any pl q1 l T1 nk nv w1.drew w1.drew (Below.refl _ _) (HL.out _ hV.out) (t1.later B1.out) (by rw [e1]; exact HB.out))
      have H3 := Lib.hid t3
      have H2 := Lib.hid a2
      have E := Lib.hid (show T1.inorder = _ ∧ T3.inorder = _ from ⟨e1, e3⟩)
      clear t1 a2 t3 e1 e3 b1 c0 c4
      go_region_held3 (fun W => W.cell? ⟨b, 0, none⟩ = some (.string nk) ∧ W.cell? ⟨b, 1, none⟩ = some (.int .i64 nv) ∧ W.cell? ⟨b, 3, none⟩ = some (.pointer pl))
        (first | exact KP.out _ hV.out | exact KP.out _ (by assumption))
        (first
          | (go_at_call 46; with_reducible refine J.out.mono ?_; clear J; rintro e w2 ⟨⟨q4, T4, rfl, t4, e4⟩, b2⟩; have b3 := hV.out.trans (b2.mono hV.out.size)))
      go_wp2_with fail
      have b4 : Below w1.heap.size w1 w2 := B1.out.trans b2
      exact bodyPost_ret (v := .tuple #[.pointer q4, .pointer q2, .pointer q3]) (by simp [results, Try.results40, go_sem]) rfl ⟨⟨q4, q2, q3, T4, T3, rfl, t4, by rw [e4, E.out.1]; exact PT.out.1.symm, by simp only [Tr.inorder]; rw [PT.out.2.2]; exact H2.out.later b4, H3.out.later b4, by rw [E.out.2]; exact PT.out.2.1.symm⟩, b3⟩
end Go.Proofs.Ytfgohbhacldlmaa
