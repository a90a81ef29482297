/- The sizes' line; rows that lie outside of what is written. -/
import Derived.Test.YtelpkajlejbbgaaGreatDoorTd01
import Derived.Test.YtelpkajlejbbgaaGreatDoorTd15
set_option linter.unusedVariables false
set_option linter.unusedSimpArgs false
namespace Go.Proofs.YtelpkajlejbbgaaGreatDoor
open Go.RowKit Go.Maps
def wSizes : ByteArray := ⟨#[115, 105, 122, 101, 115]⟩
def sizesF (t : ByteArray) (ln : Int) : Except (Int × Int) (List Int × ByteArray × Int) := match nextF t with
  | none => .error (ln + 1, 5)
  | some (ws, u) => if isB ws wSizes 9 = true then (match numsB (ws.drop 1) with
      | none => .error (ln + 1, 3)
      | some l => .ok (l, u, ln + 1))
    else .error (ln + 1, 3)
def PS (l : List Int) (w' : World) (v : Value) : Prop := ∃ a0 a1 a2 a3 a4 a5 a6 a7 a8, l = [a0, a1, a2, a3, a4, a5, a6, a7, a8] ∧ v = cfg a0 a1 a2 a3 a4 a5 a6 a7 a8
theorem len_one {α : Type} {n : Nat} {l : List α} (h : l.length = n + 1) : ∃ a t, l = a :: t ∧ t.length = n := by
  cases l with
  | nil => cases h
  | cons a t => exact ⟨a, t, rfl, by simpa using h⟩
theorem nine {l : List Int} (h : l.length = 9) : ∃ a0 a1 a2 a3 a4 a5 a6 a7 a8, l = [a0, a1, a2, a3, a4, a5, a6, a7, a8] := by
  obtain ⟨a0, l0, e0, h0⟩ := len_one h
  obtain ⟨a1, l1, e1, h1⟩ := len_one h0
  obtain ⟨a2, l2, e2, h2⟩ := len_one h1
  obtain ⟨a3, l3, e3, h3⟩ := len_one h2
  obtain ⟨a4, l4, e4, h4⟩ := len_one h3
  obtain ⟨a5, l5, e5, h5⟩ := len_one h4
  obtain ⟨a6, l6, e6, h6⟩ := len_one h5
  obtain ⟨a7, l7, e7, h7⟩ := len_one h6
  obtain ⟨a8, l8, e8, h8⟩ := len_one h7
  have e9 := List.eq_nil_of_length_eq_zero h8
  exact ⟨a0, a1, a2, a3, a4, a5, a6, a7, a8, by rw [e0, e1, e2, e3, e4, e5, e6, e7, e8, e9]⟩
theorem RE.Row.blk {α : Type} {E : RE α} {w : World} {base : Nat} {A : Option Addr} {l : List α} {c : Nat} (h : E.Row w base A l c) (hl : 0 < l.length) : ∃ b, A = some ⟨b, 0, none⟩ ∧ base ≤ b ∧ b < w.heap.size ∧ RE.fp A c = some b := by
  rcases h with ⟨h, _⟩ | ⟨h0, h⟩
  · rw [h] at hl; cases hl
  · obtain ⟨g, cap, hv, _, hlt⟩ := h.form hl
    obtain rfl : A = some ⟨g, 0, none⟩ := by injection hv
    have hc0 : ¬ c = 0 := by omega
    exact ⟨g, rfl, (h.lt g rfl).1, hlt, by simp [RE.fp, hc0]⟩
theorem ei_cell {w : World} {b : Nat} {xs : List Int} (h : EI.Rd w (some ⟨b, 0, none⟩) xs) {i : Nat} {x : Int} (hi : xs[i]? = some x) : w.cell? ⟨b, i, none⟩ = some (.int .i64 x) := by
  obtain ⟨b', off, e, _, h2⟩ := ei_at h hi
  cases e
  rw [Nat.zero_add] at h2; exact h2
theorem set9w {w : World} {g : Nat} {t : TypeId} {a b c d e f h i j : Value} (hz : w.heap[g]? = some (.cells #[a, b, c, d, e, f, h, i, j] t (0, 0))) (a' b' c' d' e' f' h' i' j' : Value) : (((((((((w.setCell ⟨g, 0, none⟩ a').setCell ⟨g, 1, none⟩ b').setCell ⟨g, 2, none⟩ c').setCell ⟨g, 3, none⟩ d').setCell ⟨g, 4, none⟩ e').setCell ⟨g, 5, none⟩ f').setCell ⟨g, 6, none⟩ h').setCell ⟨g, 7, none⟩ i').setCell ⟨g, 8, none⟩ j').heap[g]? = some (.cells #[a', b', c', d', e', f', h', i', j'] t (0, 0)) := by
  have z0 : (w.setCell ⟨g, 0, none⟩ a').heap[g]? = some (.cells #[a', b, c, d, e, f, h, i, j] t (0, 0)) := hset hz a'
  have z1 : ((w.setCell ⟨g, 0, none⟩ a').setCell ⟨g, 1, none⟩ b').heap[g]? = some (.cells #[a', b', c, d, e, f, h, i, j] t (0, 0)) := hset z0 b'
  have z2 : (((w.setCell ⟨g, 0, none⟩ a').setCell ⟨g, 1, none⟩ b').setCell ⟨g, 2, none⟩ c').heap[g]? = some (.cells #[a', b', c', d, e, f, h, i, j] t (0, 0)) := hset z1 c'
  have z3 : ((((w.setCell ⟨g, 0, none⟩ a').setCell ⟨g, 1, none⟩ b').setCell ⟨g, 2, none⟩ c').setCell ⟨g, 3, none⟩ d').heap[g]? = some (.cells #[a', b', c', d', e, f, h, i, j] t (0, 0)) := hset z2 d'
  have z4 : (((((w.setCell ⟨g, 0, none⟩ a').setCell ⟨g, 1, none⟩ b').setCell ⟨g, 2, none⟩ c').setCell ⟨g, 3, none⟩ d').setCell ⟨g, 4, none⟩ e').heap[g]? = some (.cells #[a', b', c', d', e', f, h, i, j] t (0, 0)) := hset z3 e'
  have z5 : ((((((w.setCell ⟨g, 0, none⟩ a').setCell ⟨g, 1, none⟩ b').setCell ⟨g, 2, none⟩ c').setCell ⟨g, 3, none⟩ d').setCell ⟨g, 4, none⟩ e').setCell ⟨g, 5, none⟩ f').heap[g]? = some (.cells #[a', b', c', d', e', f', h, i, j] t (0, 0)) := hset z4 f'
  have z6 : (((((((w.setCell ⟨g, 0, none⟩ a').setCell ⟨g, 1, none⟩ b').setCell ⟨g, 2, none⟩ c').setCell ⟨g, 3, none⟩ d').setCell ⟨g, 4, none⟩ e').setCell ⟨g, 5, none⟩ f').setCell ⟨g, 6, none⟩ h').heap[g]? = some (.cells #[a', b', c', d', e', f', h', i, j] t (0, 0)) := hset z5 h'
  have z7 : ((((((((w.setCell ⟨g, 0, none⟩ a').setCell ⟨g, 1, none⟩ b').setCell ⟨g, 2, none⟩ c').setCell ⟨g, 3, none⟩ d').setCell ⟨g, 4, none⟩ e').setCell ⟨g, 5, none⟩ f').setCell ⟨g, 6, none⟩ h').setCell ⟨g, 7, none⟩ i').heap[g]? = some (.cells #[a', b', c', d', e', f', h', i', j] t (0, 0)) := hset z6 i'
  have z8 : (((((((((w.setCell ⟨g, 0, none⟩ a').setCell ⟨g, 1, none⟩ b').setCell ⟨g, 2, none⟩ c').setCell ⟨g, 3, none⟩ d').setCell ⟨g, 4, none⟩ e').setCell ⟨g, 5, none⟩ f').setCell ⟨g, 6, none⟩ h').setCell ⟨g, 7, none⟩ i').setCell ⟨g, 8, none⟩ j').heap[g]? = some (.cells #[a', b', c', d', e', f', h', i', j'] t (0, 0)) := hset z7 j'
  exact z8
theorem chg9 (w : World) (g : Nat) (a' b' c' d' e' f' h' i' j' : Value) : Chg (fun x => x = g) w (((((((((w.setCell ⟨g, 0, none⟩ a').setCell ⟨g, 1, none⟩ b').setCell ⟨g, 2, none⟩ c').setCell ⟨g, 3, none⟩ d').setCell ⟨g, 4, none⟩ e').setCell ⟨g, 5, none⟩ f').setCell ⟨g, 6, none⟩ h').setCell ⟨g, 7, none⟩ i').setCell ⟨g, 8, none⟩ j') :=
  chg_one (chg_one (chg_one (chg_one (chg_one (chg_one (chg_one (chg_one (chg_one (Chg.refl _ _) _) _) _) _) _) _) _) _) _
set_option maxHeartbeats 2000000 in
set_option maxRecDepth 100000 in
theorem sizes_any {B g : Nat} {t : ByteArray} {ln : Int} {w : World} (hr : RB w g t ln) (hb : GB B w) (hg : B ≤ g) (ht : t.size ≤ 1000000) (hl : 0 ≤ ln ∧ ln ≤ 100000) :
    Calls Tryz.prog 39 #[.pointer (some ⟨g, 0, none⟩)] w (RX g w (sizesF t ln) PS) := by
  obtain ⟨r, hrr⟩ : ∃ r, sizesF t ln = r := ⟨_, rfl⟩
  rw [hrr]
  unfold sizesF at hrr
  have hgl := hr.lt
  have HGL := Lib.hid hgl
  obtain ⟨W0, hW0⟩ : ∃ W0, W0 = w.alloc (.cells #[.int .i64 0, .int .i64 0, .int .i64 0, .int .i64 0, .int .i64 0, .int .i64 0, .int .i64 0, .int .i64 0, .int .i64 0] 23) := ⟨_, rfl⟩
  have HB0 := Lib.hid (show Below w.heap.size w W0 by rw [hW0]; exact alb w _)
  have ZR := Lib.hid (show W0.heap[w.heap.size]? = some (.cells #[.int .i64 0, .int .i64 0, .int .i64 0, .int .i64 0, .int .i64 0, .int .i64 0, .int .i64 0, .int .i64 0, .int .i64 0] 23) by rw [hW0]; exact heap_alloc_new w _)
  have HSZ := Lib.hid (show W0.heap.size = w.heap.size + 1 by rw [hW0]; simp)
  have C0 := Lib.hid (Chg.of_below (D := fun x => x = g) HB0.out)
  have G0 := Lib.hid (hb.later HB0.out)
  cases hnx : nextF t with
  | none =>
    rw [hnx] at hrr
    simp only at hrr
    have NX := Lib.hid (next_bad (hr.later HB0.out) G0.out hg (by omega) (by omega) hnx)
    have HE := Lib.hid hrr
    clear hr hb hnx hrr ht hl hgl
    go_enter Tryz.func39, Tryz.ntmps39
    go_upto_region 1 with fail
    rw [← hW0]
    clear hW0
    go_wp2_with (first
      | (go_at_call 41; ((with_reducible refine NX.out.mono ?_); rintro e w3 ⟨rfl, c3⟩; have C3 := Lib.hid (C0.out.then c3); clear c3))
      | fail)
    refine ⟨rfl, ?_⟩
    rw [← HE.out]
    exact ⟨rfl, C3.out⟩
  | some wu =>
    obtain ⟨ws, u⟩ := wu
    rw [hnx] at hrr
    simp only at hrr
    have NX := Lib.hid (next_ok (hr.later HB0.out) G0.out hg (by omega) (by omega) hnx)
    have hF := next_facts hnx
    have HF := Lib.hid (show 0 < ws.length ∧ ws.length ≤ 1000001 ∧ ∀ x ∈ ws, x.size ≤ 1000000 from ⟨hF.1, by have := next_len hnx; omega, fun x hx => by have := hF.2.2.1 x hx; omega⟩)
    have hw0 := wd_at (ws := ws) (i := 0) hF.1
    obtain ⟨y, hy⟩ : ∃ y, wdA ws 0 = y := ⟨_, rfl⟩
    rw [hy] at hw0
    have HW0 := Lib.hid hw0
    have HY0 := Lib.hid hy
    by_cases hi : isB ws wSizes 9 = true
    · have h10 : ws.length = 10 := (isB_true hi).2
      have hyw : y = wSizes := by have := (isB_true hi).1; rw [hw0] at this; exact Option.some.inj this
      have d0 : (y.toList == [115, 105, 122, 101, 115]) = true := lit_eq (by rw [hyw]; rfl)
      rw [if_pos hi] at hrr
      have H10 := Lib.hid h10
      have HZ := Lib.hid ZR.out
      cases hnm : numsB (ws.drop 1) with
      | none =>
        rw [hnm] at hrr
        simp only at hrr
        have HE := Lib.hid hrr
        have HNM := Lib.hid hnm
        clear hr hb hnx hrr ht hl hgl hF hw0 hi hyw hnm hy h10
        go_enter Tryz.func39, Tryz.ntmps39
        go_upto_region 1 with fail
        rw [← hW0]
        clear hW0
        go_wp2_with (first
          | (go_at_call 41; ((with_reducible refine NX.out.mono ?_); rintro e w3 ⟨b3, n3, rfl, h31, h32, h33, h34, c3⟩; obtain rfl : n3 = 10 := h32.symm.trans H10.out; have C3 := Lib.hid (C0.out.then c3); have G3 := Lib.hid (G0.out.chg c3 hg); have R3 := Lib.hid h34; have W3 := Lib.hid h33; have c0 := wd_cell h33 (i := 0) (by omega); rw [HY0.out] at c0; clear c3 h31 h32 h33 h34))
          | (go_at_call 42; ((with_reducible refine (check_ok g 3 _).mono ?_); rintro e w0 ⟨rfl, rfl⟩))
          | (go_at_call 63; ((refine (rnumbers_any (some ⟨b3, 1, none⟩) 9 9 (ws.drop 1) R3.out G3.out (by rw [List.length_drop, H10.out]) (by omega) (RE.Rd.drop W3.out 1) (fun x hx => Nat.le_trans (HF.out.2.2 x (List.mem_of_mem_drop hx)) (by omega))).mono ?_); rintro e w4 h4; unfold RL at h4; rw [HNM.out] at h4; obtain ⟨he, b4⟩ := h4; simp only at he; subst he; have C4 := Lib.hid (C3.out.later b4); clear b4))
          | fail)
        refine ⟨rfl, ?_⟩
        rw [← HE.out]
        exact ⟨rfl, C4.out⟩
      | some l =>
        rw [hnm] at hrr
        simp only at hrr
        have hl9 : l.length = 9 := by rw [nums_len hnm, List.length_drop, h10]
        obtain ⟨a0, a1, a2, a3, a4, a5, a6, a7, a8, rfl⟩ := nine hl9
        have HE := Lib.hid hrr
        have HNM := Lib.hid hnm
        clear hr hb hnx hrr ht hl hgl hF hw0 hi hyw hnm hy h10 hl9
        go_enter Tryz.func39, Tryz.ntmps39
        go_upto_region 1 with fail
        rw [← hW0]
        clear hW0
        go_upto_region 4 with (first
          | (go_at_call 41; ((with_reducible refine NX.out.mono ?_); rintro e w3 ⟨b3, n3, rfl, h31, h32, h33, h34, c3⟩; obtain rfl : n3 = 10 := h32.symm.trans H10.out; have C3 := Lib.hid (C0.out.then c3); have Z3 := Lib.hid (c3.keep ZR.out (by show ¬ w.heap.size = g; have := HGL.out; omega)); have S3 := Lib.hid c3.size; have G3 := Lib.hid (G0.out.chg c3 hg); have R3 := Lib.hid h34; have W3 := Lib.hid h33; have c0 := wd_cell h33 (i := 0) (by omega); rw [HY0.out] at c0; clear c3 h31 h32 h33 h34))
          | (go_at_call 42; ((with_reducible refine (check_ok g 3 _).mono ?_); rintro e w0 ⟨rfl, rfl⟩))
          | (go_at_call 63; ((refine (rnumbers_any (some ⟨b3, 1, none⟩) 9 9 (ws.drop 1) R3.out G3.out (by rw [List.length_drop, H10.out]) (by omega) (RE.Rd.drop W3.out 1) (fun x hx => Nat.le_trans (HF.out.2.2 x (List.mem_of_mem_drop hx)) (by omega))).mono ?_); rintro e w4 h4; unfold RL at h4; rw [HNM.out] at h4; obtain ⟨he, b4⟩ := h4; simp only at he; obtain ⟨A4, c4, rfl, hrow4⟩ := he; have C4 := Lib.hid (C3.out.later b4); have Z4 := Lib.hid (keep_bel b4 Z3.out); have R4 := Lib.hid (R3.out.later b4); have W4 := Lib.hid hrow4; have S4 := Lib.hid (show w3.heap.size ≤ w4.heap.size from b4.size); clear b4 hrow4))
          | fail)
        have S := Lib.hid (show w.heap.size + 1 ≤ w3.heap.size by have := S3.out; have := HSZ.out; omega)
        obtain ⟨bA, rfl, hlt, hltA, -⟩ := W4.out.blk (show 0 < 9 by omega)
        have HLT := Lib.hid hlt
        have QI := Lib.hid (fun i x (hx : ([a0, a1, a2, a3, a4, a5, a6, a7, a8] : List Int)[i]? = some x) => ei_cell W4.out.rd hx)
        have HNE := Lib.hid (show ¬ bA = w.heap.size by have := HLT.out; have := S.out; omega)
        clear hltA hlt
        refine wp_region_held_drew (S := (fun V : World => Chg (fun x => x = w.heap.size) w4 V)) (by kernel_rfl) ?_ (fun hHeld => ?_)
        · exact (Chg.refl _ w4).drew
        have HHeld := Lib.hid hHeld; clear hHeld
        refine wT (i := 0) (oi := { dst := some 22, op := Op.move (Operand.tmp 4), type := 25, pos := "parse.go:85", after := #[], guard := none }) (v := ?_) rfl (Or.inl ⟨by rfl, ?_⟩) HHeld.out ?_
        rotate_left
        · intro w hSw; clear hSw; go_simp; try with_reducible rfl
        try simp only [pu, pn, s1, s2, s3]
        refine wT (i := 1) (oi := { dst := some 23, op := Op.indexAddr 25 (Operand.tmp 22) (Operand.const (Value.int IntKind.i64 0)), type := 0, pos := "parse.go:85", after := #[{ on := 0, ground := Ground.data }], guard := none }) (v := ?_) rfl (Or.inl ⟨by rfl, ?_⟩) HHeld.out ?_
        rotate_left
        · intro w hSw; clear hSw; go_simp; try with_reducible rfl
        try simp only [pu, pn, s1, s2, s3]
        refine wT (i := 2) (oi := { dst := some 24, op := Op.load 3 (Operand.tmp 23), type := 3, pos := "parse.go:85", after := #[{ on := 1, ground := Ground.data }], guard := none }) (v := (.int .i64 a0 : Value)) rfl (Or.inl ⟨by rfl, ?_⟩) HHeld.out ?_
        · intro V hV; have hc0 := hV.cell (QI.out 0 a0 rfl) HNE.out; clear hV; go_simp
        try simp only [pu, pn, s1, s2, s3]
        refine wT (i := 3) (oi := { dst := some 25, op := Op.move (Operand.tmp 4), type := 25, pos := "parse.go:85", after := #[], guard := none }) (v := ?_) rfl (Or.inl ⟨by rfl, ?_⟩) HHeld.out ?_
        rotate_left
        · intro w hSw; clear hSw; go_simp; try with_reducible rfl
        try simp only [pu, pn, s1, s2, s3]
        refine wT (i := 4) (oi := { dst := some 26, op := Op.indexAddr 25 (Operand.tmp 25) (Operand.const (Value.int IntKind.i64 1)), type := 0, pos := "parse.go:85", after := #[{ on := 3, ground := Ground.data }], guard := none }) (v := ?_) rfl (Or.inl ⟨by rfl, ?_⟩) HHeld.out ?_
        rotate_left
        · intro w hSw; clear hSw; go_simp; try with_reducible rfl
        try simp only [pu, pn, s1, s2, s3]
        refine wT (i := 5) (oi := { dst := some 27, op := Op.load 3 (Operand.tmp 26), type := 3, pos := "parse.go:85", after := #[{ on := 4, ground := Ground.data }], guard := none }) (v := (.int .i64 a1 : Value)) rfl (Or.inl ⟨by rfl, ?_⟩) HHeld.out ?_
        · intro V hV; have hc0 := hV.cell (QI.out 1 a1 rfl) HNE.out; clear hV; go_simp
        try simp only [pu, pn, s1, s2, s3]
        refine wT (i := 6) (oi := { dst := some 28, op := Op.move (Operand.tmp 4), type := 25, pos := "parse.go:85", after := #[], guard := none }) (v := ?_) rfl (Or.inl ⟨by rfl, ?_⟩) HHeld.out ?_
        rotate_left
        · intro w hSw; clear hSw; go_simp; try with_reducible rfl
        try simp only [pu, pn, s1, s2, s3]
        refine wT (i := 7) (oi := { dst := some 29, op := Op.indexAddr 25 (Operand.tmp 28) (Operand.const (Value.int IntKind.i64 2)), type := 0, pos := "parse.go:85", after := #[{ on := 6, ground := Ground.data }], guard := none }) (v := ?_) rfl (Or.inl ⟨by rfl, ?_⟩) HHeld.out ?_
        rotate_left
        · intro w hSw; clear hSw; go_simp; try with_reducible rfl
        try simp only [pu, pn, s1, s2, s3]
        refine wT (i := 8) (oi := { dst := some 30, op := Op.load 3 (Operand.tmp 29), type := 3, pos := "parse.go:85", after := #[{ on := 7, ground := Ground.data }], guard := none }) (v := (.int .i64 a2 : Value)) rfl (Or.inl ⟨by rfl, ?_⟩) HHeld.out ?_
        · intro V hV; have hc0 := hV.cell (QI.out 2 a2 rfl) HNE.out; clear hV; go_simp
        try simp only [pu, pn, s1, s2, s3]
        refine wT (i := 9) (oi := { dst := some 31, op := Op.move (Operand.tmp 4), type := 25, pos := "parse.go:85", after := #[], guard := none }) (v := ?_) rfl (Or.inl ⟨by rfl, ?_⟩) HHeld.out ?_
        rotate_left
        · intro w hSw; clear hSw; go_simp; try with_reducible rfl
        try simp only [pu, pn, s1, s2, s3]
        refine wT (i := 10) (oi := { dst := some 32, op := Op.indexAddr 25 (Operand.tmp 31) (Operand.const (Value.int IntKind.i64 3)), type := 0, pos := "parse.go:85", after := #[{ on := 9, ground := Ground.data }], guard := none }) (v := ?_) rfl (Or.inl ⟨by rfl, ?_⟩) HHeld.out ?_
        rotate_left
        · intro w hSw; clear hSw; go_simp; try with_reducible rfl
        try simp only [pu, pn, s1, s2, s3]
        refine wT (i := 11) (oi := { dst := some 33, op := Op.load 3 (Operand.tmp 32), type := 3, pos := "parse.go:85", after := #[{ on := 10, ground := Ground.data }], guard := none }) (v := (.int .i64 a3 : Value)) rfl (Or.inl ⟨by rfl, ?_⟩) HHeld.out ?_
        · intro V hV; have hc0 := hV.cell (QI.out 3 a3 rfl) HNE.out; clear hV; go_simp
        try simp only [pu, pn, s1, s2, s3]
        refine wT (i := 12) (oi := { dst := some 34, op := Op.move (Operand.tmp 4), type := 25, pos := "parse.go:85", after := #[], guard := none }) (v := ?_) rfl (Or.inl ⟨by rfl, ?_⟩) HHeld.out ?_
        rotate_left
        · intro w hSw; clear hSw; go_simp; try with_reducible rfl
        try simp only [pu, pn, s1, s2, s3]
        refine wT (i := 13) (oi := { dst := some 35, op := Op.indexAddr 25 (Operand.tmp 34) (Operand.const (Value.int IntKind.i64 4)), type := 0, pos := "parse.go:85", after := #[{ on := 12, ground := Ground.data }], guard := none }) (v := ?_) rfl (Or.inl ⟨by rfl, ?_⟩) HHeld.out ?_
        rotate_left
        · intro w hSw; clear hSw; go_simp; try with_reducible rfl
        try simp only [pu, pn, s1, s2, s3]
        refine wT (i := 14) (oi := { dst := some 36, op := Op.load 3 (Operand.tmp 35), type := 3, pos := "parse.go:85", after := #[{ on := 13, ground := Ground.data }], guard := none }) (v := (.int .i64 a4 : Value)) rfl (Or.inl ⟨by rfl, ?_⟩) HHeld.out ?_
        · intro V hV; have hc0 := hV.cell (QI.out 4 a4 rfl) HNE.out; clear hV; go_simp
        try simp only [pu, pn, s1, s2, s3]
        refine wT (i := 15) (oi := { dst := some 37, op := Op.move (Operand.tmp 4), type := 25, pos := "parse.go:85", after := #[], guard := none }) (v := ?_) rfl (Or.inl ⟨by rfl, ?_⟩) HHeld.out ?_
        rotate_left
        · intro w hSw; clear hSw; go_simp; try with_reducible rfl
        try simp only [pu, pn, s1, s2, s3]
        refine wT (i := 16) (oi := { dst := some 38, op := Op.indexAddr 25 (Operand.tmp 37) (Operand.const (Value.int IntKind.i64 5)), type := 0, pos := "parse.go:85", after := #[{ on := 15, ground := Ground.data }], guard := none }) (v := ?_) rfl (Or.inl ⟨by rfl, ?_⟩) HHeld.out ?_
        rotate_left
        · intro w hSw; clear hSw; go_simp; try with_reducible rfl
        try simp only [pu, pn, s1, s2, s3]
        refine wT (i := 17) (oi := { dst := some 39, op := Op.load 3 (Operand.tmp 38), type := 3, pos := "parse.go:85", after := #[{ on := 16, ground := Ground.data }], guard := none }) (v := (.int .i64 a5 : Value)) rfl (Or.inl ⟨by rfl, ?_⟩) HHeld.out ?_
        · intro V hV; have hc0 := hV.cell (QI.out 5 a5 rfl) HNE.out; clear hV; go_simp
        try simp only [pu, pn, s1, s2, s3]
        refine wT (i := 18) (oi := { dst := some 40, op := Op.move (Operand.tmp 4), type := 25, pos := "parse.go:85", after := #[], guard := none }) (v := ?_) rfl (Or.inl ⟨by rfl, ?_⟩) HHeld.out ?_
        rotate_left
        · intro w hSw; clear hSw; go_simp; try with_reducible rfl
        try simp only [pu, pn, s1, s2, s3]
        refine wT (i := 19) (oi := { dst := some 41, op := Op.indexAddr 25 (Operand.tmp 40) (Operand.const (Value.int IntKind.i64 6)), type := 0, pos := "parse.go:85", after := #[{ on := 18, ground := Ground.data }], guard := none }) (v := ?_) rfl (Or.inl ⟨by rfl, ?_⟩) HHeld.out ?_
        rotate_left
        · intro w hSw; clear hSw; go_simp; try with_reducible rfl
        try simp only [pu, pn, s1, s2, s3]
        refine wT (i := 20) (oi := { dst := some 42, op := Op.load 3 (Operand.tmp 41), type := 3, pos := "parse.go:85", after := #[{ on := 19, ground := Ground.data }], guard := none }) (v := (.int .i64 a6 : Value)) rfl (Or.inl ⟨by rfl, ?_⟩) HHeld.out ?_
        · intro V hV; have hc0 := hV.cell (QI.out 6 a6 rfl) HNE.out; clear hV; go_simp
        try simp only [pu, pn, s1, s2, s3]
        refine wT (i := 21) (oi := { dst := some 43, op := Op.move (Operand.tmp 4), type := 25, pos := "parse.go:85", after := #[], guard := none }) (v := ?_) rfl (Or.inl ⟨by rfl, ?_⟩) HHeld.out ?_
        rotate_left
        · intro w hSw; clear hSw; go_simp; try with_reducible rfl
        try simp only [pu, pn, s1, s2, s3]
        refine wT (i := 22) (oi := { dst := some 44, op := Op.indexAddr 25 (Operand.tmp 43) (Operand.const (Value.int IntKind.i64 7)), type := 0, pos := "parse.go:85", after := #[{ on := 21, ground := Ground.data }], guard := none }) (v := ?_) rfl (Or.inl ⟨by rfl, ?_⟩) HHeld.out ?_
        rotate_left
        · intro w hSw; clear hSw; go_simp; try with_reducible rfl
        try simp only [pu, pn, s1, s2, s3]
        refine wT (i := 23) (oi := { dst := some 45, op := Op.load 3 (Operand.tmp 44), type := 3, pos := "parse.go:85", after := #[{ on := 22, ground := Ground.data }], guard := none }) (v := (.int .i64 a7 : Value)) rfl (Or.inl ⟨by rfl, ?_⟩) HHeld.out ?_
        · intro V hV; have hc0 := hV.cell (QI.out 7 a7 rfl) HNE.out; clear hV; go_simp
        try simp only [pu, pn, s1, s2, s3]
        refine wT (i := 24) (oi := { dst := some 46, op := Op.move (Operand.tmp 4), type := 25, pos := "parse.go:85", after := #[], guard := none }) (v := ?_) rfl (Or.inl ⟨by rfl, ?_⟩) HHeld.out ?_
        rotate_left
        · intro w hSw; clear hSw; go_simp; try with_reducible rfl
        try simp only [pu, pn, s1, s2, s3]
        refine wT (i := 25) (oi := { dst := some 47, op := Op.indexAddr 25 (Operand.tmp 46) (Operand.const (Value.int IntKind.i64 8)), type := 0, pos := "parse.go:85", after := #[{ on := 24, ground := Ground.data }], guard := none }) (v := ?_) rfl (Or.inl ⟨by rfl, ?_⟩) HHeld.out ?_
        rotate_left
        · intro w hSw; clear hSw; go_simp; try with_reducible rfl
        try simp only [pu, pn, s1, s2, s3]
        refine wT (i := 26) (oi := { dst := some 48, op := Op.load 3 (Operand.tmp 47), type := 3, pos := "parse.go:85", after := #[{ on := 25, ground := Ground.data }], guard := none }) (v := (.int .i64 a8 : Value)) rfl (Or.inl ⟨by rfl, ?_⟩) HHeld.out ?_
        · intro V hV; have hc0 := hV.cell (QI.out 8 a8 rfl) HNE.out; clear hV; go_simp
        try simp only [pu, pn, s1, s2, s3]
        refine wT (i := 27) (oi := { dst := some 49, op := Op.build 23 #[(0, Operand.tmp 24), (1, Operand.tmp 27), (2, Operand.tmp 30), (3, Operand.tmp 33), (4, Operand.tmp 36), (5, Operand.tmp 39), (6, Operand.tmp 42), (7, Operand.tmp 45), (8, Operand.tmp 48)], type := 23, pos := "parse.go:85", after := #[{ on := 2, ground := Ground.data }, { on := 5, ground := Ground.data }, { on := 8, ground := Ground.data }, { on := 11, ground := Ground.data }, { on := 14, ground := Ground.data }, { on := 17, ground := Ground.data }, { on := 20, ground := Ground.data }, { on := 23, ground := Ground.data }, { on := 26, ground := Ground.data }], guard := none }) (v := ?_) rfl (Or.inl ⟨by rfl, ?_⟩) HHeld.out ?_
        rotate_left
        · intro w hSw; clear hSw; go_simp; try with_reducible rfl
        try simp only [pu, pn, s1, s2, s3]
        refine wpAnyH_ready (rs := [28]) (by kernel_rfl) (by simp) ?_
        refine AllReadyH.cons (o := { dst := none, op := Op.store 23 (Operand.tmp 2) (Operand.tmp 49), type := 0, pos := "parse.go:85", after := #[{ on := 27, ground := Ground.data }, { on := 0, ground := Ground.phase }, { on := 1, ground := Ground.phase }, { on := 2, ground := Ground.phase }, { on := 3, ground := Ground.phase }, { on := 4, ground := Ground.phase }, { on := 5, ground := Ground.phase }, { on := 6, ground := Ground.phase }, { on := 7, ground := Ground.phase }, { on := 8, ground := Ground.phase }, { on := 9, ground := Ground.phase }, { on := 10, ground := Ground.phase }, { on := 11, ground := Ground.phase }, { on := 12, ground := Ground.phase }, { on := 13, ground := Ground.phase }, { on := 14, ground := Ground.phase }, { on := 15, ground := Ground.phase }, { on := 16, ground := Ground.phase }, { on := 17, ground := Ground.phase }, { on := 18, ground := Ground.phase }, { on := 19, ground := Ground.phase }, { on := 20, ground := Ground.phase }, { on := 21, ground := Ground.phase }, { on := 22, ground := Ground.phase }, { on := 23, ground := Ground.phase }, { on := 24, ground := Ground.phase }, { on := 25, ground := Ground.phase }, { on := 26, ground := Ground.phase }, { on := 27, ground := Ground.phase }], guard := none }) rfl (fun K hK => ?_) AllReadyH.nil
        have zz : w4.drew.heap[w.heap.size]? = some (.cells #[.int .i64 0, .int .i64 0, .int .i64 0, .int .i64 0, .int .i64 0, .int .i64 0, .int .i64 0, .int .i64 0, .int .i64 0] 23) := Z4.out
        have k0 : w4.cell? ⟨w.heap.size, 0, none⟩ = some (.int .i64 0) := cellh Z4.out rfl
        have k1 : w4.cell? ⟨w.heap.size, 1, none⟩ = some (.int .i64 0) := cellh Z4.out rfl
        have k2 : w4.cell? ⟨w.heap.size, 2, none⟩ = some (.int .i64 0) := cellh Z4.out rfl
        have k3 : w4.cell? ⟨w.heap.size, 3, none⟩ = some (.int .i64 0) := cellh Z4.out rfl
        have k4 : w4.cell? ⟨w.heap.size, 4, none⟩ = some (.int .i64 0) := cellh Z4.out rfl
        have k5 : w4.cell? ⟨w.heap.size, 5, none⟩ = some (.int .i64 0) := cellh Z4.out rfl
        have k6 : w4.cell? ⟨w.heap.size, 6, none⟩ = some (.int .i64 0) := cellh Z4.out rfl
        have k7 : w4.cell? ⟨w.heap.size, 7, none⟩ = some (.int .i64 0) := cellh Z4.out rfl
        have k8 : w4.cell? ⟨w.heap.size, 8, none⟩ = some (.int .i64 0) := cellh Z4.out rfl
        have f0 : w4.frozen? ⟨w.heap.size, 0, none⟩ = false := froh Z4.out
        have f1 : w4.frozen? ⟨w.heap.size, 1, none⟩ = false := froh Z4.out
        have f2 : w4.frozen? ⟨w.heap.size, 2, none⟩ = false := froh Z4.out
        have f3 : w4.frozen? ⟨w.heap.size, 3, none⟩ = false := froh Z4.out
        have f4 : w4.frozen? ⟨w.heap.size, 4, none⟩ = false := froh Z4.out
        have f5 : w4.frozen? ⟨w.heap.size, 5, none⟩ = false := froh Z4.out
        have f6 : w4.frozen? ⟨w.heap.size, 6, none⟩ = false := froh Z4.out
        have f7 : w4.frozen? ⟨w.heap.size, 7, none⟩ = false := froh Z4.out
        have f8 : w4.frozen? ⟨w.heap.size, 8, none⟩ = false := froh Z4.out
        go_simp
        clear k0 f0 k1 f1 k2 f2 k3 f3 k4 f4 k5 f5 k6 f6 k7 f7 k8 f8 zz
        refine hK.out _ _ ?_ (fun hHeld => ?_)
        · exact (chg9 w4 w.heap.size (.int .i64 a0) (.int .i64 a1) (.int .i64 a2) (.int .i64 a3) (.int .i64 a4) (.int .i64 a5) (.int .i64 a6) (.int .i64 a7) (.int .i64 a8)).drew
        clear HHeld; have HHeld := Lib.hid hHeld; clear hHeld
        clear hK K
        try simp only [pu, pn, s1, s2, s3]
        refine wpAnyH_done (by kernel_rfl) ?_ _
        clear HHeld
        go_wp2
        have ZF := Lib.hid (set9w Z4.out (.int .i64 a0) (.int .i64 a1) (.int .i64 a2) (.int .i64 a3) (.int .i64 a4) (.int .i64 a5) (.int .i64 a6) (.int .i64 a7) (.int .i64 a8))
        have CF := Lib.hid (chg9 w4 w.heap.size (.int .i64 a0) (.int .i64 a1) (.int .i64 a2) (.int .i64 a3) (.int .i64 a4) (.int .i64 a5) (.int .i64 a6) (.int .i64 a7) (.int .i64 a8))
        obtain ⟨WF, hWF⟩ : ∃ WF, WF = (((((((((w4.setCell ⟨w.heap.size, 0, none⟩ (.int .i64 a0)).setCell ⟨w.heap.size, 1, none⟩ (.int .i64 a1)).setCell ⟨w.heap.size, 2, none⟩ (.int .i64 a2)).setCell ⟨w.heap.size, 3, none⟩ (.int .i64 a3)).setCell ⟨w.heap.size, 4, none⟩ (.int .i64 a4)).setCell ⟨w.heap.size, 5, none⟩ (.int .i64 a5)).setCell ⟨w.heap.size, 6, none⟩ (.int .i64 a6)).setCell ⟨w.heap.size, 7, none⟩ (.int .i64 a7)).setCell ⟨w.heap.size, 8, none⟩ (.int .i64 a8)) := ⟨_, rfl⟩
        rw [← hWF] at ZF CF ⊢
        clear hWF
        have k0 : WF.cell? ⟨w.heap.size, 0, none⟩ = some (.int .i64 a0) := cellh ZF.out rfl
        have k1 : WF.cell? ⟨w.heap.size, 1, none⟩ = some (.int .i64 a1) := cellh ZF.out rfl
        have k2 : WF.cell? ⟨w.heap.size, 2, none⟩ = some (.int .i64 a2) := cellh ZF.out rfl
        have k3 : WF.cell? ⟨w.heap.size, 3, none⟩ = some (.int .i64 a3) := cellh ZF.out rfl
        have k4 : WF.cell? ⟨w.heap.size, 4, none⟩ = some (.int .i64 a4) := cellh ZF.out rfl
        have k5 : WF.cell? ⟨w.heap.size, 5, none⟩ = some (.int .i64 a5) := cellh ZF.out rfl
        have k6 : WF.cell? ⟨w.heap.size, 6, none⟩ = some (.int .i64 a6) := cellh ZF.out rfl
        have k7 : WF.cell? ⟨w.heap.size, 7, none⟩ = some (.int .i64 a7) := cellh ZF.out rfl
        have k8 : WF.cell? ⟨w.heap.size, 8, none⟩ = some (.int .i64 a8) := cellh ZF.out rfl
        refine bodyPost_ret (v := cfg a0 a1 a2 a3 a4 a5 a6 a7 a8) (by simp [results, Tryz.results39, go_sem, k0, k1, k2, k3, k4, k5, k6, k7, k8]) rfl ?_
        rw [← HE.out]
        have RF : RB WF g u (ln + 1) := CF.out.keep R4.out (by show ¬ g = w.heap.size; have := HGL.out; omega)
        have CW : Chg (fun x => x = g) w WF := C4.out.trans CF.out (fun x hx => .inr (by omega))
        first | exact ⟨_, rfl, ⟨a0, a1, a2, a3, a4, a5, a6, a7, a8, rfl, rfl⟩, RF, CW⟩ | exact ⟨_, rfl, ⟨a0, a1, a2, a3, a4, a5, a6, a7, a8, rfl, rfl⟩, RF, CW.drew⟩
    · have HE : Hid (r = .error (ln + 1, 3)) := Lib.hid (by rw [if_neg hi] at hrr; exact hrr.symm)
      by_cases hyw : y = wSizes
      · have d0 : (y.toList == [115, 105, 122, 101, 115]) = true := lit_eq (by rw [hyw]; rfl)
        have h10 : ¬ ws.length = 10 := fun e => hi (by unfold isB; rw [hw0, hyw, e]; decide)
        have H10 := Lib.hid h10
        clear hr hb hnx hrr ht hl hgl hF hw0 hi hyw hy h10
        go_enter Tryz.func39, Tryz.ntmps39
        go_upto_region 1 with fail
        rw [← hW0]
        clear hW0
        go_wp2_with (first
          | (go_at_call 41; ((with_reducible refine NX.out.mono ?_); rintro e w3 ⟨b3, n3, rfl, h31, h32, h33, h34, c3⟩; have C3 := Lib.hid (C0.out.then c3); have R3 := Lib.hid h34; have c0 := wd_cell h33 (i := 0) HF.out.1; rw [HY0.out] at c0; have e3 : ((n3 : Int) == 10) = false := (by have := H10.out; rw [h32] at this; have h : ¬ (n3 : Int) = 10 := (by omega); simpa using h); have e4 : (0 : Int) < (n3 : Int) := (by have := HF.out.1; omega); clear c3 h31 h32 h33 h34))
          | (go_at_call 42; ((with_reducible refine (check_bad g 3 _ R3.out).mono ?_); rintro e w0 ⟨rfl, rfl⟩))
          | fail)
        refine ⟨rfl, ?_⟩
        rw [HE.out]
        exact ⟨rfl, C3.out⟩
      · have d0 : (y.toList == [115, 105, 122, 101, 115]) = false := lit_ne (fun e => hyw (ba_inj e))
        clear hr hb hnx hrr ht hl hgl hF hw0 hi hyw hy
        go_enter Tryz.func39, Tryz.ntmps39
        go_upto_region 1 with fail
        rw [← hW0]
        clear hW0
        go_wp2_with (first
          | (go_at_call 41; ((with_reducible refine NX.out.mono ?_); rintro e w3 ⟨b3, n3, rfl, h31, h32, h33, h34, c3⟩; have C3 := Lib.hid (C0.out.then c3); have R3 := Lib.hid h34; have c0 := wd_cell h33 (i := 0) HF.out.1; rw [HY0.out] at c0; have e4 : (0 : Int) < (n3 : Int) := (by have := HF.out.1; omega); clear c3 h31 h32 h33 h34))
          | (go_at_call 42; ((with_reducible refine (check_bad g 3 _ R3.out).mono ?_); rintro e w0 ⟨rfl, rfl⟩))
          | fail)
        refine ⟨rfl, ?_⟩
        rw [HE.out]
        exact ⟨rfl, C3.out⟩
end Go.Proofs.YtelpkajlejbbgaaGreatDoor
