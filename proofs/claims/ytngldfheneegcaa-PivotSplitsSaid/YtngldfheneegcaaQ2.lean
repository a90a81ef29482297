/- Pivots: one part. -/
import Derived.Test.YtngldfheneegcaaP5
namespace Go.Proofs.Ytngldfheneegcaa
set_option linter.unusedSimpArgs false
open Go.RowKit
set_option linter.unusedVariables false

def spanB (p : List ByteArray) (f t : ByteArray) (i : Int) : Bool := decide (0 ≤ i) && (decide (i ≤ p.length) && rightB p f t)
def spanF (p : List ByteArray) (f t : ByteArray) (i : Int) : ByteArray × ByteArray := if spanB p f t i = true then (pF p f i.toNat, pT p t i.toNat) else (emptyS, emptyS)
abbrev spv (p : List ByteArray) (f t : ByteArray) (i : Int) : Value := .tuple #[.agg #[.string (spanF p f t i).1, .string (spanF p f t i).2], .bool (spanB p f t i)]
def SpanPost (w : World) (p : List ByteArray) (f t : ByteArray) (i : Int) (e : Ending) (w' : World) : Prop := e = .returned (spv p f t i) ∧ Below w.heap.size w w'
theorem span_no {p : List ByteArray} {f t : ByteArray} {i : Int} (h : spanB p f t i = false) : spv p f t i = .tuple #[.agg #[.string emptyS, .string emptyS], .bool false] := by unfold spv spanF; rw [h]; rfl
abbrev W2 (w : World) (f t : ByteArray) : World := (w.alloc (rgc f t)).alloc (rgc emptyS emptyS)
theorem set2_cells {W : World} {b : Nat} {u v : Value} (x y : Value) (z0 : W.cell? ⟨b, 0, none⟩ = some u) (z1 : W.cell? ⟨b, 1, none⟩ = some v) :
    ((W.setCell ⟨b, 0, none⟩ x).setCell ⟨b, 1, none⟩ y).cell? ⟨b, 0, none⟩ = some x ∧ ((W.setCell ⟨b, 0, none⟩ x).setCell ⟨b, 1, none⟩ y).cell? ⟨b, 1, none⟩ = some y :=
  ⟨(World.cell?_setCell_other _ _ _ _ (by simp)).trans (World.cell?_setCell_same _ _ _ z0), World.cell?_setCell_same _ _ _ ((World.cell?_setCell_other _ _ _ _ (by simp)).trans z1)⟩
theorem bel_set2 {B : Nat} {w W : World} {b : Nat} (h : Below B w W) (hb : B ≤ b) (x y : Value) : Below B w ((W.setCell ⟨b, 0, none⟩ x).setCell ⟨b, 1, none⟩ y) := (h.setCell (p := ⟨b, 0, none⟩) hb x).setCell (p := ⟨b, 1, none⟩) hb y
set_option maxHeartbeats 1000000 in
theorem span_any (A : Option Addr) (p : List ByteArray) (n c : Nat) (f t : ByteArray) (i : Int) (w : World) (hl : p.length = n) (hn : n ≤ 1000) (hr : RdS w A p) :
    Calls Try.prog 9 #[.slice A n c, .agg #[.string f, .string t], .int .i64 i] w (SpanPost w p f t i) := by
  have B0 : Hid (Below w.heap.size w (W2 w f t)) := Lib.hid (by unfold W2; go_grown)
  have hn0 : (0 : Int) ≤ (n : Int) := by omega
  have hn9 : (n : Int) ≤ 1000 := by omega
  have HL := Lib.hid hl
  have R := Lib.hid (fun W (hb : Below w.heap.size w W) => right_any A p n c f t W hl hn (Rd.later hr hb))
  have Q0 := (rgcell (w := w) f t)
  have q0 : (W2 w f t).cell? ⟨w.heap.size, 0, none⟩ = some (.string f) := bel_later (bel_alloc (Below.refl _ _) _) Q0.1
  have q1 : (W2 w f t).cell? ⟨w.heap.size, 1, none⟩ = some (.string t) := bel_later (bel_alloc (Below.refl _ _) _) Q0.2
  clear Q0
  by_cases h1 : i < 0
  · have e := span_no (p := p) (f := f) (t := t) (i := i) (by unfold spanB; rw [decide_eq_false (by omega)]; rfl)
    have E := Lib.hid e
    clear hr hl e
    go_enter Try.func9, Try.ntmps9
    go_wp2_with fail
    refine bodyPost_ret (v := .tuple #[.agg #[.string emptyS, .string emptyS], .bool false]) (by simp [results, Try.results9, go_sem]) rfl ⟨?_, ?_⟩
    · rw [E.out]
    · go_grown
  · by_cases h2 : (n : Int) < i
    · have e := span_no (p := p) (f := f) (t := t) (i := i) (by unfold spanB; rw [hl, decide_eq_false (p := i ≤ (n : Int)) (by omega)]; simp)
      have E := Lib.hid e
      clear hr hl e
      go_enter Try.func9, Try.ntmps9
      go_wp2_with fail
      refine bodyPost_ret (v := .tuple #[.agg #[.string emptyS, .string emptyS], .bool false]) (by simp [results, Try.results9, go_sem]) rfl ⟨?_, ?_⟩
      · rw [E.out]
      · go_grown
    · obtain ⟨k, rfl⟩ := Int.eq_ofNat_of_zero_le (by omega : 0 ≤ i)
      have hk0 : (0 : Int) ≤ (k : Int) := by omega
      have hk9 : (k : Int) ≤ 1000 := by omega
      have hb : spanB p f t (k : Int) = rightB p f t := by unfold spanB; rw [hl, decide_eq_true (p := (0 : Int) ≤ (k : Int)) (by omega), decide_eq_true (p := (k : Int) ≤ (n : Int)) (by omega)]; simp
      have PC := Lib.hid (fun W (hbb : Below w.heap.size w W) => piece_any A p n c k f t W hl hn (by omega) (Rd.later hr hbb))
      cases hv : rightB p f t
      · have E := Lib.hid (span_no (p := p) (f := f) (t := t) (i := (k : Int)) (by rw [hb, hv]))
        rw [hv] at R
        clear hr hl hv hb
        go_enter Try.func9, Try.ntmps9
        go_wp2_with (go_at_call 14; ((with_reducible refine (R.out _ B0.out).mono ?_); rintro e w1 ⟨rfl, b1⟩; have B1 := Lib.hid (B0.out.trans (b1.mono B0.out.size)); have z0 : ∃ u v, w1.cell? ⟨w.heap.size + 1, 0, none⟩ = some u ∧ w1.cell? ⟨w.heap.size + 1, 1, none⟩ = some v := ⟨.string emptyS, .string emptyS, bel_later b1 (by simp [W2, go_sem]), bel_later b1 (by simp [W2, go_sem])⟩; have y1 : w1.frozen? ⟨w.heap.size + 1, 0, none⟩ = false := (bel_frozen b1 (by simp)).trans (by simp [W2, go_sem]); have y2 : w1.frozen? ⟨w.heap.size + 1, 1, none⟩ = false := (bel_frozen b1 (by simp)).trans (by simp [W2, go_sem]); obtain ⟨u, v, z0, z1⟩ := z0; clear b1))
        obtain ⟨e0, e1⟩ := set2_cells (.string ⟨#[]⟩) (.string ⟨#[]⟩) z0 z1
        refine bodyPost_ret (v := .tuple #[.agg #[.string emptyS, .string emptyS], .bool false]) (by simp [results, Try.results9, go_sem, e0, e1]) rfl ⟨?_, bel_set2 B1.out (by omega) _ _⟩
        rw [E.out]
      · have E : Hid (spv p f t (k : Int) = .tuple #[.agg #[.string (pF p f k), .string (pT p t k)], .bool true]) := Lib.hid (by unfold spv spanF; rw [hb, hv]; rfl)
        rw [hv] at R
        clear hr hl hv hb
        obtain ⟨x, hx⟩ : ∃ x, x = pF p f k := ⟨_, rfl⟩
        obtain ⟨y, hy⟩ : ∃ y, y = pT p t k := ⟨_, rfl⟩
        rw [← hx, ← hy] at PC E
        clear hx hy
        go_enter Try.func9, Try.ntmps9
        go_wp2_with (first
          | (go_at_call 14; ((with_reducible refine (R.out _ B0.out).mono ?_); rintro e w1 ⟨rfl, b1⟩; have B1 := Lib.hid (B0.out.trans (b1.mono B0.out.size)); have q2 := bel_later b1 q0; have q3 := bel_later b1 q1; have z0 : ∃ u v, w1.cell? ⟨w.heap.size + 1, 0, none⟩ = some u ∧ w1.cell? ⟨w.heap.size + 1, 1, none⟩ = some v := ⟨.string emptyS, .string emptyS, bel_later b1 (by simp [W2, go_sem]), bel_later b1 (by simp [W2, go_sem])⟩; have y1 : w1.frozen? ⟨w.heap.size + 1, 0, none⟩ = false := (bel_frozen b1 (by simp)).trans (by simp [W2, go_sem]); have y2 : w1.frozen? ⟨w.heap.size + 1, 1, none⟩ = false := (bel_frozen b1 (by simp)).trans (by simp [W2, go_sem]); obtain ⟨u, v, z0, z1⟩ := z0; have hz1 := World.block_lt_of_cell? w1 _ z0; clear b1))
          | (go_at_call 24; ((with_reducible refine (PC.out _ B1.out).mono ?_); rintro e w2 ⟨rfl, b2⟩; have B2 := Lib.hid (B1.out.trans (b2.mono B1.out.size)); have z2 := bel_later b2 z0; have z3 := bel_later b2 z1; have y3 := (bel_frozen b2 hz1).trans y1; have y4 := (bel_frozen b2 hz1).trans y2; clear b2))
          | fail)
        obtain ⟨e0, e1⟩ := set2_cells (.string x) (.string y) z2 z3
        refine bodyPost_ret (v := .tuple #[.agg #[.string x, .string y], .bool true]) (by simp [results, Try.results9, go_sem, e0, e1]) rfl ⟨?_, bel_set2 B2.out (by omega) _ _⟩
        rw [E.out]
end Go.Proofs.Ytngldfheneegcaa
