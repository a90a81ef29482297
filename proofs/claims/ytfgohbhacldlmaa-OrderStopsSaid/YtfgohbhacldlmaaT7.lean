/- Maps in order: the map as a list of pairs; New, Len, Put, Get. -/
import Derived.Test.YtfgohbhacldlmaaT6
import Derived.RangeFuncBox

namespace Go.Proofs.Ytfgohbhacldlmaa
set_option linter.unusedSimpArgs false
open Go.RowKit
set_option linter.unusedVariables false

/-- The map at N has just these pairs, in order. -/
def MapIs (w : World) (N : Nat) (L : List (ByteArray × Int)) : Prop := ∃ p T, Boxed w N 65 (.pointer p) ∧ IsT w p T ∧ T.inorder = L
theorem MapIs.lt {w : World} {N : Nat} {L : List (ByteArray × Int)} (h : MapIs w N L) : N < w.heap.size := by
  obtain ⟨p, T, h, _⟩ := h
  exact h.lt
theorem boxed_later {w w' : World} {N : Nat} {t : TypeId} {v : Value} (h : Boxed w N t v) (hb : Below w.heap.size w w') : Boxed w' N t v := (hb.block N h.lt).trans h
theorem boxed_two {w : World} {N : Nat} {t : TypeId} {v : Value} (h : Boxed w N t v) : w.cell? ⟨N, 2, none⟩ = none := by simp [World.cell?, show w.heap[N]? = _ from h]
theorem MapIs.later {w w' : World} {N : Nat} {L : List (ByteArray × Int)} (h : MapIs w N L) (hb : Below w.heap.size w w') : MapIs w' N L := by
  obtain ⟨p, T, h1, h2, h3⟩ := h
  exact ⟨p, T, boxed_later h1 hb, h2.later hb, h3⟩
/-- What is done to one map leaves another as it is. -/
theorem MapIs.other {w w' : World} {N M : Nat} {L L' : List (ByteArray × Int)} (h : MapIs w N L) (hM : MapIs w M L') (hne : N ≠ M) (hg : w.grownBy w' (some M)) : MapIs w' N L := by
  obtain ⟨p, T, h1, h2, h3⟩ := h
  obtain ⟨_, _, k1, _⟩ := hM
  exact ⟨p, T, h1.kept hg (by intro e; cases e; exact hne rfl), h2.grown hg (boxed_two k1), h3⟩
theorem map_set {w W : World} {N : Nat} {q : Option Addr} {T : Tr ByteArray Int} {v : Value} (h : Boxed w N 65 v) (hb : Below w.heap.size w W) (ht : IsT W q T) :
    MapIs (W.setCell ⟨N, 0, none⟩ (.pointer q)) N T.inorder ∧ w.grownBy (W.setCell ⟨N, 0, none⟩ (.pointer q)) (some N) := by
  have hW := boxed_later h hb
  have hg := grownBy_setCell' W N (.pointer q)
  exact ⟨⟨q, T, hW.set _, ht.grown hg (boxed_two hW), rfl⟩, (bel_grown hb _).trans hg⟩
set_option maxHeartbeats 1000000 in
theorem new_any (w : World) : Calls Try.prog 9 #[] w fun e w' => e = .returned (.pointer (some ⟨w.heap.size, 0, none⟩)) ∧ MapIs w' w.heap.size [] ∧ Below w.heap.size w w' ∧ w'.heap.size = w.heap.size + 1 := by
  go_enter Try.func9, Try.ntmps9
  go_wp2
  refine bodyPost_ret (v := .pointer (some ⟨w.heap.size, 0, none⟩)) (by simp [results, Try.results9, go_sem]) rfl ⟨rfl, ⟨none, .leaf, Boxed.new _ _ _, rfl, rfl⟩, bel_alloc (Below.refl _ _) _, by simp⟩
set_option maxHeartbeats 1000000 in
theorem len_any (N : Nat) (L : List (ByteArray × Int)) (w : World) (h : MapIs w N L) : Calls Try.prog 11 #[.pointer (some ⟨N, 0, none⟩)] w fun e w' => e = .returned (.int .i64 (L.length : Int)) ∧ w = w' := by
  obtain ⟨p, T, h1, h2, rfl⟩ := h
  have c0 := h1.cell
  have C := Lib.hid (size_any p T w h2)
  clear h1 h2
  go_enter Try.func11, Try.ntmps11
  go_wp2_with (go_at_call 36; refine C.out.mono ?_; rintro e w1 ⟨rfl, rfl⟩)
  exact bodyPost_ret (v := .int .i64 _) (by simp [results, Try.results11, go_sem]; try rfl) rfl ⟨rfl, rfl⟩
set_option maxHeartbeats 2000000 in
set_option maxRecDepth 100000 in
theorem put_any (N : Nat) (L : List (ByteArray × Int)) (k : ByteArray) (v : Int) (w : World) (h : MapIs w N L) (hs : Srt ltS L) (hn : L.length ≤ 1000) :
    Calls Try.prog 27 #[.pointer (some ⟨N, 0, none⟩), .string k, .int .i64 v] w fun e w' => e = .returned (.bool (atk ltS k L).isEmpty) ∧ MapIs w' N (putL ltS k v L) ∧ w.grownBy w' (some N) := by
  obtain ⟨p, T, h1, h2, rfl⟩ := h
  have HB := Lib.hid h1
  have c0 := h1.cell
  have C := Lib.hid (split_any k T p w h2 hs (by omega))
  have HL := Lib.hid (srt_len linS hs k)
  have HN := Lib.hid hn
  clear h1 h2 hs hn
  go_enter Try.func27, Try.ntmps27
  go_wp2_with (first
    | (go_at_call 40; with_reducible refine C.out.mono ?_; clear C; rintro e w1 ⟨⟨q1, q2, q3, T1, T3, rfl, t1, e1, a2, t3, e3⟩, b1⟩; have J := Lib.hid (link_any q1 q3 T1 T3 k v w w1 b1 t1 t3 (by rw [e1, e3]; have h1 := HL.out; have h2 := HN.out; omega)); have A2 := Lib.hid a2; have E := Lib.hid (show T1.inorder = _ ∧ T3.inorder = _ from ⟨e1, e3⟩); clear t1 t3 a2 e1 e3 b1)
    | (go_at_call 46; with_reducible refine J.out.mono ?_; clear J; rintro e w2 ⟨⟨q4, T4, rfl, t4, e4⟩, b2⟩; have d0 := (boxed_later HB.out b2).cell; have d1 := (boxed_later HB.out b2).frozen; have B2 := Lib.hid b2; have H4 := Lib.hid t4; clear b2 t4)
    | fail)
  have A2' := A2.out
  obtain ⟨m1, m2⟩ := map_set HB.out B2.out H4.out
  rw [e4, E.out.1, E.out.2] at m1
  rcases A2' with ⟨ha, rfl⟩ | ⟨b, k', v', ha, rfl, _, _⟩
  · go_wp2
    exact bodyPost_ret (v := .bool true) (by simp [results, Try.results27, go_sem]) rfl ⟨by rw [ha]; rfl, m1, m2⟩
  · go_wp2
    exact bodyPost_ret (v := .bool false) (by simp [results, Try.results27, go_sem]) rfl ⟨by rw [ha]; rfl, m1, m2⟩
/-- How many nodes a tree has, read off the memory. -/
def msz (v : Value) (W : World) : Nat :=
  match v with
  | .pointer (some a) => (match W.cell? ⟨a.block, 2, none⟩ with
    | some (.int _ n) => n.toNat
    | _ => 0)
  | _ => 0
theorem msz_eq {W : World} {p : Option Addr} {T : Tr ByteArray Int} (h : IsT W p T) : msz (.pointer p) W = T.inorder.length := by
  cases T with
  | leaf => obtain rfl : p = none := h; rfl
  | node l k v r =>
    obtain ⟨b, pl, pr, rfl, h0, h1, h2, _⟩ := h
    simp only [msz, h2]; omega
/-- What Get answers. -/
def getV (k : ByteArray) (L : List (ByteArray × Int)) : Value :=
  match atk ltS k L with
  | [] => .tuple #[.int .i64 0, .bool false]
  | x :: _ => .tuple #[.int .i64 x.2, .bool true]
set_option maxHeartbeats 2000000 in
set_option maxRecDepth 100000 in
theorem get_any (N : Nat) (L : List (ByteArray × Int)) (k : ByteArray) (w : World) (h : MapIs w N L) (hs : Srt ltS L) :
    Calls Try.prog 26 #[.pointer (some ⟨N, 0, none⟩), .string k] w fun e w' => e = .returned (getV k L) ∧ Below w.heap.size w w' := by
  obtain ⟨p, T, h1, h2, rfl⟩ := h
  have HB := Lib.hid h1
  have c0 := h1.cell
  have H2 := Lib.hid h2
  have HS := Lib.hid hs
  clear h1 h2 hs
  go_enter Try.func26, Try.ntmps26
  go_wp2
  go_loopw [7] (fun iv wr => ∃ q T', iv = .pointer q ∧ IsT w q T' ∧ Srt ltS T'.inorder ∧ atk ltS k T'.inorder = atk ltS k T.inorder ∧ wr = w) (fun i wr => msz i wr)
  case atStart => exact ⟨p, T, rfl, H2.out, HS.out, rfl, rfl⟩
  case round =>
    obtain ⟨q, T', rfl, ht, hs, ha, rfl⟩ := hrel
    have HA := Lib.hid ha
    clear ha
    cases T' with
    | leaf =>
      obtain rfl : q = none := ht
      go_wp2
      have e : getV k T.inorder = .tuple #[.int .i64 0, .bool false] := by simp only [getV, ← HA.out]; rfl
      refine bodyPost_ret (v := .tuple #[.int .i64 0, .bool false]) (by simp [results, Try.results26, go_sem]) rfl ⟨by rw [e], Below.refl _ _⟩
    | node l nk nv r =>
      have HT := Lib.hid (msz_eq ht)
      obtain ⟨b, pl, pr, rfl, d0, d1, d2, d3, d4, hl, hr⟩ := ht
      have hsz := Tr.size_node l nk nv r
      have HL := Lib.hid hl
      have HR := Lib.hid hr
      have C := Lib.hid (cmp_any k nk wr)
      rcases linS.tri k nk with hk | hk | hk
      · rw [cmp_lt' hk] at C
        have PT := Lib.hid (cut_lt linS hs hk).2.2
        have HSL := Lib.hid hs.left
        have HZ := Lib.hid hsz
        clear hl hr hs hsz hk
        go_wp2_with (go_at_call 38; with_reducible refine C.out.mono ?_; clear C; rintro e w0 ⟨rfl, rfl⟩)
        refine ⟨⟨pl, l, rfl, HL.out, HSL.out, by rw [← HA.out]; exact PT.out.symm, trivial⟩, ?_⟩
        rw [msz_eq HL.out, HT.out, HZ.out]; omega
      · subst hk
        rw [cmp_eq'] at C
        have PT := Lib.hid (cut_eq linS hs rfl).2.2
        clear hl hr hs hsz
        go_wp2_with (go_at_call 38; with_reducible refine C.out.mono ?_; clear C; rintro e w0 ⟨rfl, rfl⟩)
        have e : getV k T.inorder = .tuple #[.int .i64 nv, .bool true] := by
          have h := HA.out
          simp only [Tr.inorder] at h
          rw [PT.out] at h
          simp only [getV, ← h]
        refine bodyPost_ret (v := .tuple #[.int .i64 nv, .bool true]) (by simp [results, Try.results26, go_sem]) rfl ⟨by rw [e], Below.refl _ _⟩
      · rw [cmp_gt' hk] at C
        have PT := Lib.hid (cut_gt linS hs hk).2.2
        have HSR := Lib.hid hs.right.tail
        have HZ := Lib.hid hsz
        clear hl hr hs hsz hk
        go_wp2_with (go_at_call 38; with_reducible refine C.out.mono ?_; clear C; rintro e w0 ⟨rfl, rfl⟩)
        refine ⟨⟨pr, r, rfl, HR.out, HSR.out, by rw [← HA.out]; exact PT.out.symm, trivial⟩, ?_⟩
        rw [msz_eq HR.out, HT.out, HZ.out]; omega
end Go.Proofs.Ytfgohbhacldlmaa
