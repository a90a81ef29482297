/- Maps in order: Drop, Cut, Place, At, Fork. -/
import Derived.Test.YtfgohbhacldlmaaT5
import Derived.Test.YtfgohbhacldlmaaT7
namespace Go.Proofs.Ytfgohbhacldlmaa
set_option linter.unusedSimpArgs false
open Go.RowKit
set_option linter.unusedVariables false

theorem AtP.nil {w : World} {p : Option Addr} {L : List (ByteArray × Int)} (h : AtP w p L) (e : L = []) : p = none := by
  rcases h with ⟨_, h⟩ | ⟨b, k', v', h, _⟩
  · exact h
  · rw [e] at h; cases h
theorem AtP.cons {w : World} {p : Option Addr} {L r : List (ByteArray × Int)} {x : ByteArray × Int} (h : AtP w p L) (e : L = x :: r) : ∃ b, p = some ⟨b, 0, none⟩ ∧ r = [] ∧ w.cell? ⟨b, 0, none⟩ = some (.string x.1) ∧ w.cell? ⟨b, 1, none⟩ = some (.int .i64 x.2) := by
  rcases h with ⟨h, _⟩ | ⟨b, k', v', h, h2, h3, h4⟩
  · rw [e] at h; cases h
  · rw [e] at h; cases h; exact ⟨b, h2, rfl, h3, h4⟩
theorem AtP.nd {w : World} {p : Option Addr} {k : ByteArray} {v : Int} (h : AtP w p [(k, v)]) : Nd w p k v := by
  rcases h with ⟨h, _⟩ | ⟨b, k', v', e, e2, h0, h1⟩
  · cases h
  · cases e; exact ⟨b, e2, h0, h1⟩
set_option maxHeartbeats 2000000 in
set_option maxRecDepth 100000 in
theorem drop_any (N : Nat) (L : List (ByteArray × Int)) (k : ByteArray) (w : World) (h : MapIs w N L) (hs : Srt ltS L) (hn : L.length ≤ 1000) :
    Calls Try.prog 28 #[.pointer (some ⟨N, 0, none⟩), .string k] w fun e w' => e = .returned (.bool (!(atk ltS k L).isEmpty)) ∧ MapIs w' N (dropL ltS k L) ∧ w.grownBy w' (some N) := by
  have HM := Lib.hid h
  obtain ⟨p, T, h1, h2, rfl⟩ := h
  have HB := Lib.hid h1
  have c0 := h1.cell
  have HL := Lib.hid (srt_len linS hs k)
  have HN := Lib.hid hn
  have HS := Lib.hid (srt_parts linS hs k).1
  rcases hp : atk ltS k T.inorder with _ | ⟨x, rest⟩
  · have C := Lib.hid (split_any k T p w h2 hs (by omega))
    clear h1 h2 hs hn
    have HP := Lib.hid hp
    clear hp
    go_enter Try.func28, Try.ntmps28
    go_wp2_with (first
      | (go_at_call 40; with_reducible refine C.out.mono ?_; clear C; rintro e w1 ⟨⟨q1, q2, q3, T1, T3, rfl, t1, e1, a2, t3, e3⟩, b1⟩; obtain rfl := a2.nil HP.out; have B1 := Lib.hid b1; clear t1 t3 a2 e1 e3 b1)
      | fail)
    exact bodyPost_ret (v := .bool false) (by simp [results, Try.results28, go_sem]) rfl ⟨rfl, by have h := HM.out.later B1.out; have e := HS.out; rw [HP.out, List.append_nil] at e; rw [← e] at h; exact h, bel_grown B1.out _⟩
  · have C := Lib.hid (split_any k T p w h2 hs (by omega))
    clear h1 h2 hs hn
    have HP := Lib.hid hp
    clear hp
    go_enter Try.func28, Try.ntmps28
    go_wp2_with (first
      | (go_at_call 40; with_reducible refine C.out.mono ?_; clear C; rintro e w1 ⟨⟨q1, q2, q3, T1, T3, rfl, t1, e1, a2, t3, e3⟩, b1⟩; obtain ⟨bb, rfl, _⟩ := a2.cons HP.out; have J := Lib.hid ((concat_any q1 q3 T1 T3 w1 t1 t3 (by rw [e1, e3]; have h1 := HL.out; have h2 := HN.out; omega)).mono (fun e w' h => set_from b1 h)); have E := Lib.hid (show T1.inorder = _ ∧ T3.inorder = _ from ⟨e1, e3⟩); clear t1 t3 a2 e1 e3 b1)
      | (go_at_call 47; with_reducible refine J.out.mono ?_; clear J; rintro e w2 ⟨⟨q4, T4, rfl, t4, e4⟩, b2⟩; have d0 := (boxed_later HB.out b2).cell; have d1 := (boxed_later HB.out b2).frozen; have B2 := Lib.hid b2; have H4 := Lib.hid t4; clear b2 t4)
      | fail)
    obtain ⟨m1, m2⟩ := map_set HB.out B2.out H4.out
    rw [e4, E.out.1, E.out.2] at m1
    exact bodyPost_ret (v := .bool true) (by simp [results, Try.results28, go_sem]) rfl ⟨rfl, m1, m2⟩
/-- How many keys are below one. -/
def plc (k : ByteArray) (L : List (ByteArray × Int)) : Nat := (below ltS k L).length
set_option maxHeartbeats 2000000 in
set_option maxRecDepth 100000 in
theorem place_any (N : Nat) (L : List (ByteArray × Int)) (k : ByteArray) (w : World) (h : MapIs w N L) (hs : Srt ltS L) (hn : L.length ≤ 1000) :
    Calls Try.prog 17 #[.pointer (some ⟨N, 0, none⟩), .string k] w fun e w' => e = .returned (.int .i64 (plc k L : Int)) ∧ Below w.heap.size w w' := by
  obtain ⟨p, T, h1, h2, rfl⟩ := h
  have c0 := h1.cell
  have H2 := Lib.hid h2
  have HS := Lib.hid hs
  have HN := Lib.hid hn
  clear h1 h2 hs hn
  go_enter Try.func17, Try.ntmps17
  go_wp2
  go_loopw [5, 6] (fun iv qv wr => ∃ (acc : Nat) (q : Option Addr) (T' : Tr ByteArray Int), iv = .int .i64 (acc : Int) ∧ qv = .pointer q ∧ IsT w q T' ∧ Srt ltS T'.inorder ∧ acc + plc k T'.inorder = plc k T.inorder ∧ acc + T'.inorder.length ≤ 1000 ∧ wr = w) (fun _ qv wr => msz qv wr)
  case atStart => exact ⟨0, p, T, rfl, rfl, H2.out, HS.out, by simp, by have := HN.out; omega, rfl⟩
  case round =>
    obtain ⟨acc, q, T', rfl, rfl, ht, hs, ha, hb, rfl⟩ := hrel
    have HA := Lib.hid ha
    have HB := Lib.hid hb
    clear ha
    cases T' with
    | leaf =>
      obtain rfl : q = none := ht
      have e : plc k T.inorder = acc := by rw [← HA.out]; simp [plc, below, Tr.inorder]
      go_wp2
      refine bodyPost_ret (v := .int .i64 (acc : Int)) (by simp [results, Try.results17, go_sem]) rfl ⟨by rw [e], Below.refl _ _⟩
    | node l nk nv r =>
      have HT := Lib.hid (msz_eq ht)
      obtain ⟨b, pl, pr, rfl, d0, d1, d2, d3, d4, hl, hr⟩ := ht
      have hsz := Tr.size_node l nk nv r
      have HL := Lib.hid hl
      have HR := Lib.hid hr
      have C := Lib.hid (cmp_any nk k wr)
      have Z := Lib.hid (size_any pl l wr hl)
      rcases linS.tri nk k with hk | hk | hk
      · rw [cmp_lt' hk] at C
        have PT := Lib.hid (cut_gt linS hs hk).1
        have HSR := Lib.hid hs.right.tail
        have HZ := Lib.hid hsz
        have i1 : (l.inorder.length : Int) ≤ 1000 := by omega
        have i2 : (0 : Int) ≤ (l.inorder.length : Int) := by omega
        have i3 : (acc : Int) ≤ 1000 := by omega
        have i4 : (0 : Int) ≤ (acc : Int) := by omega
        clear hl hr hs hsz hk hb
        go_wp2_with (first
          | (go_at_call 38; with_reducible refine C.out.mono ?_; clear C; rintro e w0 ⟨rfl, rfl⟩)
          | (go_at_call 36; with_reducible refine Z.out.mono ?_; clear Z; rintro e w0 ⟨rfl, rfl⟩))
        refine ⟨⟨acc + (l.inorder.length + 1), pr, r, by simp, rfl, HR.out, HSR.out, ?_, ?_, trivial⟩, ?_⟩
        · rw [← HA.out]; simp only [plc, Tr.inorder]; rw [PT.out]; simp; omega
        · have := HB.out; rw [HZ.out] at this; omega
        · rw [msz_eq HR.out, HT.out, HZ.out]; omega
      · subst hk
        rw [cmp_eq'] at C
        have PT := Lib.hid (cut_eq linS hs rfl).1
        have HSL := Lib.hid hs.left
        have E : Hid (below ltS nk l.inorder = l.inorder) := Lib.hid (fa hs.mid.1)
        have HZ := Lib.hid hsz
        clear hl hr hs hsz hb
        go_wp2_with (go_at_call 38; with_reducible refine C.out.mono ?_; clear C; rintro e w0 ⟨rfl, rfl⟩)
        refine ⟨⟨acc, pl, l, rfl, rfl, HL.out, HSL.out, ?_, ?_, trivial⟩, ?_⟩
        · rw [← HA.out]; simp only [plc, Tr.inorder]; rw [PT.out, E.out]
        · have := HB.out; rw [HZ.out] at this; omega
        · rw [msz_eq HL.out, HT.out, HZ.out]; omega
      · rw [cmp_gt' hk] at C
        have PT := Lib.hid (cut_lt linS hs hk).1
        have HSL := Lib.hid hs.left
        have HZ := Lib.hid hsz
        clear hl hr hs hsz hk hb
        go_wp2_with (go_at_call 38; with_reducible refine C.out.mono ?_; clear C; rintro e w0 ⟨rfl, rfl⟩)
        refine ⟨⟨acc, pl, l, rfl, rfl, HL.out, HSL.out, ?_, ?_, trivial⟩, ?_⟩
        · rw [← HA.out]; simp only [plc, Tr.inorder]; rw [PT.out]
        · have := HB.out; rw [HZ.out] at this; omega
        · rw [msz_eq HL.out, HT.out, HZ.out]; omega
set_option maxHeartbeats 2000000 in
set_option maxRecDepth 100000 in
theorem at_neg (N : Nat) (i : Int) (w : World) (hi : i < 0) :
    Calls Try.prog 16 #[.pointer (some ⟨N, 0, none⟩), .int .i64 i] w fun e w' => e = .returned (.tuple #[.string ⟨#[]⟩, .int .i64 0, .bool false]) ∧ Below w.heap.size w w' := by
  go_enter Try.func16, Try.ntmps16
  go_wp2
  exact bodyPost_ret (v := .tuple #[.string ⟨#[]⟩, .int .i64 0, .bool false]) (by simp [results, Try.results16, go_sem]) rfl ⟨rfl, Below.refl _ _⟩
set_option maxHeartbeats 2000000 in
set_option maxRecDepth 100000 in
theorem at_in (N : Nat) (L : List (ByteArray × Int)) (i : Nat) (x : ByteArray × Int) (w : World) (h : MapIs w N L) (hi : L[i]? = some x) (hn : L.length ≤ 1000) :
    Calls Try.prog 16 #[.pointer (some ⟨N, 0, none⟩), .int .i64 i] w fun e w' => e = .returned (.tuple #[.string x.1, .int .i64 x.2, .bool true]) ∧ Below w.heap.size w w' := by
  obtain ⟨p, T, h1, h2, rfl⟩ := h
  have c0 := h1.cell
  have H2 := Lib.hid h2
  have hlt : i < T.inorder.length := (List.getElem?_eq_some_iff.1 hi).1
  have Z := Lib.hid (size_any p T w h2)
  have i1 : ¬ ((i : Int) < 0) := by omega
  have i2 : ¬ ((T.inorder.length : Int) ≤ (i : Int)) := by omega
  have i3 : decide (T.inorder.length ≤ i) = false := by simp; omega
  have HI := Lib.hid hi
  have HN := Lib.hid (show T.inorder.length ≤ 1000 ∧ i < T.inorder.length from ⟨hn, hlt⟩)
  clear h1 h2 hn hi hlt
  go_enter Try.func16, Try.ntmps16
  go_wp2_with (go_at_call 36; with_reducible refine Z.out.mono ?_; clear Z; rintro e w0 ⟨rfl, rfl⟩)
  go_loopw [1, 9] (fun iv nv wr => ∃ (j : Nat) (q : Option Addr) (T' : Tr ByteArray Int), iv = .int .i64 (j : Int) ∧ nv = .pointer q ∧ IsT w q T' ∧ T'.inorder[j]? = some x ∧ T'.inorder.length ≤ 1000 ∧ wr = w) (fun _ nv wr => msz nv wr)
  case atStart => exact ⟨i, p, T, rfl, rfl, H2.out, HI.out, HN.out.1, rfl⟩
  case round =>
    obtain ⟨j, q, T', rfl, rfl, ht, hj, hb, rfl⟩ := hrel
    cases T' with
    | leaf => simp [Tr.inorder] at hj
    | node l nk nv r =>
      have HT := Lib.hid (msz_eq ht)
      obtain ⟨b, pl, pr, rfl, d0, d1, d2, d3, d4, hl, hr⟩ := ht
      have hsz := Tr.size_node l nk nv r
      have HL := Lib.hid hl
      have HR := Lib.hid hr
      have Z := Lib.hid (size_any pl l wr hl)
      have HJ := Lib.hid hj
      have HZ := Lib.hid hsz
      have HB := Lib.hid hb
      have i1 : (l.inorder.length : Int) ≤ 1000 := by omega
      have i2 : (0 : Int) ≤ (l.inorder.length : Int) := by omega
      have hjl : j < (Tr.node l nk nv r).inorder.length := (List.getElem?_eq_some_iff.1 hj).1
      have i3 : (j : Int) ≤ 1000 := by omega
      have i4 : (0 : Int) ≤ (j : Int) := by omega
      clear hl hr hj hb
      rcases Nat.lt_trichotomy j l.inorder.length with hlt | heq | hgt
      · have k1 : ((j : Int) == (l.inorder.length : Int)) = false := by simp; omega
        have k2 : (j : Int) < (l.inorder.length : Int) := by omega
        clear hsz hjl
        go_wp2_with (go_at_call 36; with_reducible refine Z.out.mono ?_; rintro e w0 ⟨rfl, rfl⟩)
        refine ⟨⟨j, pl, l, rfl, rfl, HL.out, ?_, by have h1 := HB.out; have h2 := HZ.out; omega, trivial⟩, ?_⟩
        · have h := HJ.out; simp only [Tr.inorder] at h; rw [List.getElem?_append_left hlt] at h; exact h
        · have h1 := msz_eq HL.out
          have h2 := HT.out
          have h3 := HZ.out
          show msz (.pointer pl) wr < msz (.pointer (some ⟨b, 0, none⟩)) wr
          omega
      · subst heq
        have k1 : ((l.inorder.length : Int) == (l.inorder.length : Int)) = true := by simp
        have hx : x = (nk, nv) := by have h := HJ.out; simp [Tr.inorder] at h; exact h.symm
        subst hx
        clear hsz hjl
        go_wp2_with (first | (go_at_call 36; with_reducible refine Z.out.mono ?_; rintro e w0 ⟨rfl, rfl⟩) | fail)
        go_quiet (fail)
        go_wp2
        exact bodyPost_ret (v := .tuple #[.string nk, .int .i64 nv, .bool true]) (by simp [results, Try.results16, go_sem]) rfl ⟨rfl, bel_drewN (Below.refl _ _) _⟩
      · have k1 : ((j : Int) == (l.inorder.length : Int)) = false := by simp; omega
        have k2 : ¬ (j : Int) < (l.inorder.length : Int) := by omega
        have k3 : (j : Int) - ((l.inorder.length : Int) + 1) = ((j - (l.inorder.length + 1) : Nat) : Int) := by omega
        clear hsz hjl
        go_wp2_with (go_at_call 36; with_reducible refine Z.out.mono ?_; rintro e w0 ⟨rfl, rfl⟩)
        refine ⟨⟨j - (l.inorder.length + 1), pr, r, rfl, rfl, HR.out, ?_, by have h1 := HB.out; have h2 := HZ.out; omega, trivial⟩, ?_⟩
        · have h := HJ.out; simp only [Tr.inorder] at h; rw [List.getElem?_append_right (by omega)] at h
          rw [show j - l.inorder.length = (j - (l.inorder.length + 1)) + 1 by omega] at h; simpa using h
        · have h1 := msz_eq HR.out
          have h2 := HT.out
          have h3 := HZ.out
          show msz (.pointer pr) wr < msz (.pointer (some ⟨b, 0, none⟩)) wr
          omega
set_option maxHeartbeats 2000000 in
set_option maxRecDepth 100000 in
theorem at_big (N : Nat) (L : List (ByteArray × Int)) (i : Int) (w : World) (h : MapIs w N L) (h0 : 0 ≤ i) (hi : (L.length : Int) ≤ i) :
    Calls Try.prog 16 #[.pointer (some ⟨N, 0, none⟩), .int .i64 i] w fun e w' => e = .returned (.tuple #[.string ⟨#[]⟩, .int .i64 0, .bool false]) ∧ Below w.heap.size w w' := by
  obtain ⟨p, T, h1, h2, rfl⟩ := h
  have c0 := h1.cell
  have Z := Lib.hid (size_any p T w h2)
  have i1 : ¬ (i < 0) := by omega
  clear h1 h2
  go_enter Try.func16, Try.ntmps16
  go_wp2_with (go_at_call 36; with_reducible refine Z.out.mono ?_; clear Z; rintro e w0 ⟨rfl, rfl⟩)
  exact bodyPost_ret (v := .tuple #[.string ⟨#[]⟩, .int .i64 0, .bool false]) (by simp [results, Try.results16, go_sem]) rfl ⟨rfl, Below.refl _ _⟩
/-- What At answers. -/
def atV (L : List (ByteArray × Int)) (i : Int) : Value := if 0 ≤ i then (match L[i.toNat]? with | some x => .tuple #[.string x.1, .int .i64 x.2, .bool true] | none => .tuple #[.string ⟨#[]⟩, .int .i64 0, .bool false]) else .tuple #[.string ⟨#[]⟩, .int .i64 0, .bool false]
theorem at_any (N : Nat) (L : List (ByteArray × Int)) (i : Int) (w : World) (h : MapIs w N L) (hn : L.length ≤ 1000) :
    Calls Try.prog 16 #[.pointer (some ⟨N, 0, none⟩), .int .i64 i] w fun e w' => e = .returned (atV L i) ∧ Below w.heap.size w w' := by
  unfold atV
  split
  next h0 =>
    cases hx : L[i.toNat]? with
    | some x =>
      have hh := at_in N L i.toNat x w h hx hn
      rw [Int.toNat_of_nonneg h0] at hh
      exact hh
    | none => exact at_big N L i w h h0 (by have := List.getElem?_eq_none_iff.1 hx; omega)
  next h0 => exact at_neg N i w (by omega)
set_option maxHeartbeats 1000000 in
theorem fork_any (N : Nat) (L : List (ByteArray × Int)) (w : World) (h : MapIs w N L) :
    Calls Try.prog 18 #[.pointer (some ⟨N, 0, none⟩)] w fun e w' => e = .returned (.pointer (some ⟨w.heap.size, 0, none⟩)) ∧ MapIs w' w.heap.size L ∧ Below w.heap.size w w' ∧ w'.heap.size = w.heap.size + 1 := by
  obtain ⟨p, T, h1, h2, h3⟩ := h
  have c0 := h1.cell
  have H2 := Lib.hid h2
  clear h1 h2
  go_enter Try.func18, Try.ntmps18
  go_wp2
  have hb : Below w.heap.size w (w.alloc (.cells #[.pointer p] 65)) := bel_alloc (Below.refl _ _) _
  exact bodyPost_ret (v := .pointer (some ⟨w.heap.size, 0, none⟩)) (by simp [results, Try.results18, go_sem]) rfl ⟨rfl, ⟨p, T, Boxed.new _ _ _, H2.out.later hb, h3⟩, hb, by simp⟩
end Go.Proofs.Ytfgohbhacldlmaa
