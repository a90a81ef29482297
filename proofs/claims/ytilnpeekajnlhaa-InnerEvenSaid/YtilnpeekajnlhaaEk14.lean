/- Texts of the proof, one behind the other. -/
import Derived.Test.YtilnpeekajnlhaaEk13
import Derived.Test.YtilnpeekajnlhaaEk12
import Derived.Test.YtilnpeekajnlhaaEk02
import Derived.Maps.OwnSet
import Derived.Maps.RangeWalk
import Derived.Deep.RegionHeld3
set_option linter.unusedVariables false
set_option linter.unusedSimpArgs false
namespace Go.Proofs.Ytilnpeekajnlhaa.Pv
open Go.RowKit

/-- The first k parts. -/
def pcs (p : List ByteArray) (f t : ByteArray) (k : Nat) : List (ByteArray × ByteArray) := (List.range k).map fun i => (pF p f i, pT p t i)
theorem pcs_succ (p : List ByteArray) (f t : ByteArray) (k : Nat) : pcs p f t (k + 1) = pcs p f t k ++ [(pF p f k, pT p t k)] := by simp [pcs, List.range_succ]
theorem pcs_length (p : List ByteArray) (f t : ByteArray) (k : Nat) : (pcs p f t k).length = k := by simp [pcs]
theorem parts_eq (p : List ByteArray) (f t : ByteArray) : parts p f t = pcs p f t (many p f t) := rfl
def RSpansPost (w : World) (ps : List (ByteArray × ByteArray)) (e : Ending) (w' : World) : Prop := ∃ A c, e = .returned (.slice A ps.length c) ∧ RdP w' A ps ∧ Below w.heap.size w w'

set_option maxRecDepth 10000 in
set_option maxHeartbeats 2000000 in
theorem rspans_any (A : Option Addr) (p : List ByteArray) (n c : Nat) (f t : ByteArray) (w : World) (hl : p.length = n) (hn : n ≤ 1000) (hr : RdS w A p) :
    Calls Try.prog 39 #[.slice A n c, .agg #[.string f, .string t]] w (RSpansPost w (parts p f t)) := by
  have R := Lib.hid (fun W (hb : Below w.heap.size w W) => rright_all A p n c f t W hl hn (Rd.later hr hb))
  have HR := Lib.hid hr
  have HL := Lib.hid hl
  obtain ⟨i0, hi, hz0, hz1, hz2⟩ := info_parts info24
  have B0 : Hid (Below w.heap.size w ((w.alloc (rgc f t)).alloc (.cells #[] 30))) := Lib.hid (by go_grown)
  have q0 := (rgcell (w := w) f t)
  have q1 : ((w.alloc (rgc f t)).alloc (.cells #[] 30)).cell? ⟨w.heap.size, 0, none⟩ = some (.string f) := bel_later (bel_alloc (Below.refl _ _) _) q0.1
  have Q1 := Lib.hid (show ((w.alloc (rgc f t)).alloc (.cells #[] 30)).cell? ⟨w.heap.size, 1, none⟩ = some (.string t) from bel_later (bel_alloc (Below.refl _ _) _) q0.2)
  have O := Lib.hid (World.ownsRow_made (w.alloc (rgc f t)) (base := w.heap.size + 1) (e := 30) (size := 2) #[] 0 (by simp) (by simp [maxLen]) (by simp))
  clear hr hl q0
  cases hv : rightB p f t
  · have HM : Hid (parts p f t = []) := Lib.hid (by unfold parts many; rw [hv]; rfl)
    rw [hv] at R
    clear hv
    go_enter Try.func39, Try.ntmps39
    go_wp2_with (go_at_call 32; ((with_reducible refine (R.out _ B0.out).mono ?_); rintro e w1 ⟨rfl, b1⟩; have B1 := Lib.hid (B0.out.trans (b1.mono B0.out.size)); have O1 := Lib.hid (own_bel O.out b1); clear b1))
    refine bodyPost_ret (by simp [results, Try.results39, go_sem]; rfl) rfl ?_
    rw [HM.out]
    exact ⟨_, _, rfl, .inl rfl, B1.out⟩
  · have hM : many p f t = n + 1 := by unfold many; rw [hv, if_pos rfl, HL.out]
    have HM := Lib.hid hM
    rw [hv] at R
    clear hv hM
    go_enter Try.func39, Try.ntmps39
    go_wp2_with (go_at_call 32; ((with_reducible refine (R.out _ B0.out).mono ?_); rintro e w1 ⟨rfl, b1⟩; have r1 := bel_later b1 q1; have R2 := Lib.hid (bel_later b1 Q1.out); have B1 := Lib.hid (B0.out.trans (b1.mono B0.out.size)); have O1 := Lib.hid (own_bel O.out b1); have Z1 := Lib.hid b1.size; clear b1))
    simp only [World.size_alloc] at O1
    have hsz : Hid (w.heap.size + 2 ≤ w1.heap.size) := Lib.hid (by have := Z1.out; simp at this; omega)
    have hi := hi
    go_loopw [5, 6, 7] (fun ov fv iv wr => ∃ k : Nat, k ≤ n ∧ iv = .int .i64 k ∧ fv = .string (pF p f k) ∧ wr.ownsRow (w.heap.size + 1) 30 2 ov k (flt (pcs p f t k)) ∧ Below (w.heap.size + 1) w1 wr) (fun _ _ i _ => n - (intOf i).toNat)
    case atStart => exact ⟨0, Nat.zero_le _, rfl, rfl, O1.out, Below.refl _ _⟩
    case round =>
      obtain ⟨k, hk, rfl, rfl, hown, hbw⟩ := hrel
      have hwz := hsz.out
      have hws := hbw.size
      have hmax : (2000 : Nat) ≤ maxLen := by decide
      obtain ⟨a0, c0, rfl⟩ := own_shape hown
      have HO := Lib.hid hown
      have HB := Lib.hid hbw
      have RT : Hid (wr.cell? ⟨w.heap.size, 1, none⟩ = some (.string t)) := Lib.hid ((bel_cell hbw (by omega)).trans R2.out)
      by_cases h8 : k < n
      · have j0 : (0 : Int) ≤ (k : Int) := by omega
        have j1 : (k : Int) < (n : Int) := by omega
        have j9 : (k : Int) ≤ 1000 := by omega
        have eT : pT p t k = at_ p k := by unfold pT; rw [if_pos (by rw [HL.out]; exact h8)]
        have eF : pF p f (k + 1) = at_ p k := by unfold pF; rw [if_pos (by omega)]; rfl
        have hps := pcs_succ p f t k
        rw [eT] at hps
        obtain ⟨b, off, rfl, hlt, f0⟩ := rds_get HR.out (k := k) (by rw [HL.out]; exact h8)
        obtain ⟨x, hx⟩ : ∃ x, x = at_ p k := ⟨_, rfl⟩
        obtain ⟨y, hy⟩ : ∃ y, y = pF p f k := ⟨_, rfl⟩
        rw [← hx] at f0 hps eF
        rw [← hy] at hps ⊢
        have g1 : w1.cell? ⟨b, off + k, none⟩ = some (.string x) := bel_later B1.out f0
        have g0 : wr.cell? ⟨b, off + k, none⟩ = some (.string x) := (bel_cell HB.out (by omega)).trans g1
        have G1 := Lib.hid g1
        have HPS := Lib.hid hps
        have EF := Lib.hid eF
        clear f0 g1 eT eF hps hx hy hown hbw
        go_wp2_with (at_builtin; refine wpList_append_own _ rfl _ _ 73 rfl (w.heap.size + 1) 30 i0 (.agg #[.string ⟨#[]⟩, .string ⟨#[]⟩]) 2 32 Try.underlying73 hi hz0 hz1 hz2 rfl (by decide) _ _ _ rfl (HO.out.alloc _) ⟨wr.heap.size, 0, none⟩ 1 1 [.string y, .string x] rfl rfl (two_new2 _ _ _ _ rfl) (by simp [Value.oneCell']) (by omega) (by omega) (by simp; omega) ?_; intro v' w2 hown' hgrow _; have b2 := grown_bel (HB.out.alloc (by omega) _) hgrow (HO.out.alloc _) (Nat.le_refl _) (by simp; omega); have g2 : w2.cell? ⟨b, off + k, none⟩ = some (.string x) := (bel_cell b2 (by omega)).trans G1.out; have O2 := Lib.hid hown'; have B2 := Lib.hid b2; obtain ⟨g', cap', rfl⟩ := ownsRow_succ hown'; clear hown' hgrow b2)
        go_roundw
        case rel => exact ⟨k + 1, by omega, by simp, by rw [EF.out], by rw [HPS.out, flt_snoc]; exact O2.out, B2.out⟩
        case measure => simp [intOf]; omega
      · obtain rfl : k = n := by omega
        have j1 : ¬ (k : Int) < (k : Int) := by omega
        have eT : pT p t k = t := by unfold pT; rw [if_neg (by rw [HL.out]; omega)]
        have hps := pcs_succ p f t k
        rw [eT] at hps
        obtain ⟨y, hy⟩ : ∃ y, y = pF p f k := ⟨_, rfl⟩
        rw [← hy] at hps ⊢
        have rt := RT.out
        have HPS := Lib.hid hps
        clear eT hps hy hown hbw
        go_wp2_with (at_builtin; refine wpList_append_own _ rfl _ _ 73 rfl (w.heap.size + 1) 30 i0 (.agg #[.string ⟨#[]⟩, .string ⟨#[]⟩]) 2 32 Try.underlying73 hi hz0 hz1 hz2 rfl (by decide) _ _ _ rfl (HO.out.alloc _) ⟨wr.heap.size, 0, none⟩ 1 1 [.string y, .string t] rfl rfl (two_new2 _ _ _ _ rfl) (by simp [Value.oneCell']) (by omega) (by omega) (by simp; omega) ?_; intro v' w2 hown' hgrow _; have b2 := grown_bel (HB.out.alloc (by omega) _) hgrow (HO.out.alloc _) (Nat.le_refl _) (by simp; omega); have O2 := Lib.hid hown'; have B2 := Lib.hid b2; obtain ⟨g', cap', rfl⟩ := ownsRow_succ hown'; clear hown' hgrow b2)
        refine bodyPost_ret (v := .slice (some ⟨g', 0, none⟩) (k + 1) cap') (by simp [results, Try.results39, go_sem]) rfl ⟨some ⟨g', 0, none⟩, cap', ?_, ?_, ?_⟩
        · rw [parts_eq, HM.out, pcs_length]
        · rw [parts_eq, HM.out]
          unfold RdP
          rw [HPS.out, flt_snoc]
          exact Rd.of_own O2.out (by decide)
        · exact B1.out.trans (B2.out.mono (by omega))
end Go.Proofs.Ytilnpeekajnlhaa.Pv
namespace Go.Proofs.Ytilnpeekajnlhaa.Pv
open Go.RowKit

def spanB (p : List ByteArray) (f t : ByteArray) (i : Int) : Bool := decide (0 ≤ i) && (decide (i ≤ p.length) && rightB p f t)
def spanF (p : List ByteArray) (f t : ByteArray) (i : Int) : ByteArray × ByteArray := if spanB p f t i = true then (pF p f i.toNat, pT p t i.toNat) else (emptyS, emptyS)
abbrev spv (p : List ByteArray) (f t : ByteArray) (i : Int) : Value := .tuple #[.agg #[.string (spanF p f t i).1, .string (spanF p f t i).2], .bool (spanB p f t i)]
def SpanPost (w : World) (p : List ByteArray) (f t : ByteArray) (i : Int) (e : Ending) (w' : World) : Prop := e = .returned (spv p f t i) ∧ Below w.heap.size w w'
theorem span_no {p : List ByteArray} {f t : ByteArray} {i : Int} (h : spanB p f t i = false) : spv p f t i = .tuple #[.agg #[.string emptyS, .string emptyS], .bool false] := by unfold spv spanF; rw [h]; rfl
abbrev W2 (w : World) (f t : ByteArray) : World := (w.alloc (rgc f t)).alloc (rgc emptyS emptyS)
theorem set2_cells {W : World} {b : Nat} {u v : Value} (x y : Value) (z0 : W.cell? ⟨b, 0, none⟩ = some u) (z1 : W.cell? ⟨b, 1, none⟩ = some v) :
    ((W.setCell ⟨b, 0, none⟩ x).setCell ⟨b, 1, none⟩ y).cell? ⟨b, 0, none⟩ = some x ∧ ((W.setCell ⟨b, 0, none⟩ x).setCell ⟨b, 1, none⟩ y).cell? ⟨b, 1, none⟩ = some y :=
  ⟨(World.cell?_setCell_other _ _ _ _ (by simp)).trans (World.cell?_setCell_same _ _ _ z0), World.cell?_setCell_same _ _ _ ((World.cell?_setCell_other _ _ _ _ (by simp)).trans z1)⟩
theorem bel_set2 {B : Nat} {w W : World} {b : Nat} (h : Below B w W) (hb : B ≤ b) (x y : Value) : Below B w ((W.setCell ⟨b, 0, none⟩ x).setCell ⟨b, 1, none⟩ y) := (h.setCell (p := ⟨b, 0, none⟩) hb x).setCell (p := ⟨b, 1, none⟩) hb y
set_option maxHeartbeats 1000000 in
theorem span_any (A : Option Addr) (p : List ByteArray) (n c : Nat) (f t : ByteArray) (i : Int) (w : World) (hl : p.length = n) (hn : n ≤ 1000) (hr : RdS w A p) :
    Calls Try.prog 72 #[.slice A n c, .agg #[.string f, .string t], .int .i64 i] w (SpanPost w p f t i) := by
  have B0 : Hid (Below w.heap.size w (W2 w f t)) := Lib.hid (by unfold W2; go_grown)
  have hn0 : (0 : Int) ≤ (n : Int) := by omega
  have hn9 : (n : Int) ≤ 1000 := by omega
  have HL := Lib.hid hl
  have R := Lib.hid (fun W (hb : Below w.heap.size w W) => right_any A p n c f t W hl hn (Rd.later hr hb))
  have Q0 := (rgcell (w := w) f t)
  have q0 : (W2 w f t).cell? ⟨w.heap.size, 0, none⟩ = some (.string f) := bel_later (bel_alloc (Below.refl _ _) _) Q0.1
  have q1 : (W2 w f t).cell? ⟨w.heap.size, 1, none⟩ = some (.string t) := bel_later (bel_alloc (Below.refl _ _) _) Q0.2
  clear Q0
  by_cases h1 : i < 0
  · have e := span_no (p := p) (f := f) (t := t) (i := i) (by unfold spanB; rw [decide_eq_false (by omega)]; rfl)
    have E := Lib.hid e
    clear hr hl e
    go_enter Try.func72, Try.ntmps72
    go_wp2_with fail
    refine bodyPost_ret (v := .tuple #[.agg #[.string emptyS, .string emptyS], .bool false]) (by simp [results, Try.results72, go_sem]) rfl ⟨?_, ?_⟩
    · rw [E.out]
    · go_grown
  · by_cases h2 : (n : Int) < i
    · have e := span_no (p := p) (f := f) (t := t) (i := i) (by unfold spanB; rw [hl, decide_eq_false (p := i ≤ (n : Int)) (by omega)]; simp)
      have E := Lib.hid e
      clear hr hl e
      go_enter Try.func72, Try.ntmps72
      go_wp2_with fail
      refine bodyPost_ret (v := .tuple #[.agg #[.string emptyS, .string emptyS], .bool false]) (by simp [results, Try.results72, go_sem]) rfl ⟨?_, ?_⟩
      · rw [E.out]
      · go_grown
    · obtain ⟨k, rfl⟩ := Int.eq_ofNat_of_zero_le (by omega : 0 ≤ i)
      have hk0 : (0 : Int) ≤ (k : Int) := by omega
      have hk9 : (k : Int) ≤ 1000 := by omega
      have hb : spanB p f t (k : Int) = rightB p f t := by unfold spanB; rw [hl, decide_eq_true (p := (0 : Int) ≤ (k : Int)) (by omega), decide_eq_true (p := (k : Int) ≤ (n : Int)) (by omega)]; simp
      have PC := Lib.hid (fun W (hbb : Below w.heap.size w W) => piece_any A p n c k f t W hl hn (by omega) (Rd.later hr hbb))
      cases hv : rightB p f t
      · have E := Lib.hid (span_no (p := p) (f := f) (t := t) (i := (k : Int)) (by rw [hb, hv]))
        rw [hv] at R
        clear hr hl hv hb
        go_enter Try.func72, Try.ntmps72
        go_wp2_with (go_at_call 43; ((with_reducible refine (R.out _ B0.out).mono ?_); rintro e w1 ⟨rfl, b1⟩; have B1 := Lib.hid (B0.out.trans (b1.mono B0.out.size)); have z0 : ∃ u v, w1.cell? ⟨w.heap.size + 1, 0, none⟩ = some u ∧ w1.cell? ⟨w.heap.size + 1, 1, none⟩ = some v := ⟨.string emptyS, .string emptyS, bel_later b1 (by simp [W2, go_sem]), bel_later b1 (by simp [W2, go_sem])⟩; have y1 : w1.frozen? ⟨w.heap.size + 1, 0, none⟩ = false := (bel_frozen b1 (by simp)).trans (by simp [W2, go_sem]); have y2 : w1.frozen? ⟨w.heap.size + 1, 1, none⟩ = false := (bel_frozen b1 (by simp)).trans (by simp [W2, go_sem]); obtain ⟨u, v, z0, z1⟩ := z0; clear b1))
        obtain ⟨e0, e1⟩ := set2_cells (.string ⟨#[]⟩) (.string ⟨#[]⟩) z0 z1
        refine bodyPost_ret (v := .tuple #[.agg #[.string emptyS, .string emptyS], .bool false]) (by simp [results, Try.results72, go_sem, e0, e1]) rfl ⟨?_, bel_set2 B1.out (by omega) _ _⟩
        rw [E.out]
      · have E : Hid (spv p f t (k : Int) = .tuple #[.agg #[.string (pF p f k), .string (pT p t k)], .bool true]) := Lib.hid (by unfold spv spanF; rw [hb, hv]; rfl)
        rw [hv] at R
        clear hr hl hv hb
        obtain ⟨x, hx⟩ : ∃ x, x = pF p f k := ⟨_, rfl⟩
        obtain ⟨y, hy⟩ : ∃ y, y = pT p t k := ⟨_, rfl⟩
        rw [← hx, ← hy] at PC E
        clear hx hy
        go_enter Try.func72, Try.ntmps72
        go_wp2_with (first
          | (go_at_call 43; ((with_reducible refine (R.out _ B0.out).mono ?_); rintro e w1 ⟨rfl, b1⟩; have B1 := Lib.hid (B0.out.trans (b1.mono B0.out.size)); have q2 := bel_later b1 q0; have q3 := bel_later b1 q1; have z0 : ∃ u v, w1.cell? ⟨w.heap.size + 1, 0, none⟩ = some u ∧ w1.cell? ⟨w.heap.size + 1, 1, none⟩ = some v := ⟨.string emptyS, .string emptyS, bel_later b1 (by simp [W2, go_sem]), bel_later b1 (by simp [W2, go_sem])⟩; have y1 : w1.frozen? ⟨w.heap.size + 1, 0, none⟩ = false := (bel_frozen b1 (by simp)).trans (by simp [W2, go_sem]); have y2 : w1.frozen? ⟨w.heap.size + 1, 1, none⟩ = false := (bel_frozen b1 (by simp)).trans (by simp [W2, go_sem]); obtain ⟨u, v, z0, z1⟩ := z0; have hz1 := World.block_lt_of_cell? w1 _ z0; clear b1))
          | (go_at_call 101; ((with_reducible refine (PC.out _ B1.out).mono ?_); rintro e w2 ⟨rfl, b2⟩; have B2 := Lib.hid (B1.out.trans (b2.mono B1.out.size)); have z2 := bel_later b2 z0; have z3 := bel_later b2 z1; have y3 := (bel_frozen b2 hz1).trans y1; have y4 := (bel_frozen b2 hz1).trans y2; clear b2))
          | fail)
        obtain ⟨e0, e1⟩ := set2_cells (.string x) (.string y) z2 z3
        refine bodyPost_ret (v := .tuple #[.agg #[.string x, .string y], .bool true]) (by simp [results, Try.results72, go_sem, e0, e1]) rfl ⟨?_, bel_set2 B2.out (by omega) _ _⟩
        rw [E.out]
end Go.Proofs.Ytilnpeekajnlhaa.Pv
namespace Go.Proofs.Ytilnpeekajnlhaa
open Go.RowKit Go.Maps
def ES : RE ByteArray where
  st := 23
  et := 9
  k := 1
  by_ := 16
  z := .string ⟨#[]⟩
  cs := fun x => [.string x]
  kpos := by omega
  len := fun _ => rfl
  one := fun x u hu => by simp at hu; rcases hu with rfl; rfl
  und := Try.underlying23
  info := by kernel_rfl
  zk := rfl
  bmax := by omega
def EI : RE Int where
  st := 24
  et := 3
  k := 1
  by_ := 8
  z := .int .i64 0
  cs := fun x => [.int .i64 x]
  kpos := by omega
  len := fun _ => rfl
  one := fun x u hu => by simp at hu; rcases hu with rfl; rfl
  und := Try.underlying24
  info := by kernel_rfl
  zk := rfl
  bmax := by omega
def EB : RE Unit where
  st := 26
  et := 76
  k := 1
  by_ := 24
  z := .slice none 0 0
  cs := fun x => [.slice none 0 0]
  kpos := by omega
  len := fun _ => rfl
  one := fun x u hu => by simp at hu; rcases hu with rfl; rfl
  und := Try.underlying26
  info := by kernel_rfl
  zk := rfl
  bmax := by omega
theorem es_all (p : List ByteArray) : ES.all p = p.map Value.string := by
  induction p with
  | nil => rfl
  | cons x p ih => rw [RE.all_cons, ih]; rfl
theorem es_rd {w : World} {A : Option Addr} {p : List ByteArray} : ES.Rd w A p ↔ Pv.RdS w A p := by unfold RE.Rd; rw [es_all]
theorem rd_none {α : Type} {E : RE α} {w : World} {xs : List α} (h : E.Rd w none xs) : xs = [] := by
  rcases h with h | ⟨b, off, h, _⟩
  · exact E.all_empty h
  · cases h
theorem slnil23 (A : Option Addr) (m c : Nat) (W : World) : Sem.run Try.prog (Go.binOp BinOp.eql 23 (Value.slice A m c) (Value.slice none 0 0)) W = .ok (.bool A.isNone) W := by
  have h0 : ∀ d : Nat, (Op.equalIn (d + 1) 23 (Value.slice A m c) (Value.slice none 0 0)).run Try.prog W = .ok A.isNone W := fun d => by cases A <;> simp [Op.equalIn, run_underlying Try.underlying23]
  have h1 := h0 9999
  have e : Op.equal 23 (Value.slice A m c) (Value.slice none 0 0) = Op.equalIn (9999 + 1) 23 (Value.slice A m c) (Value.slice none 0 0) := rfl
  rw [← e] at h1
  simp [Go.binOp, go_sem, h1]
theorem slnil24 (A : Option Addr) (m c : Nat) (W : World) : Sem.run Try.prog (Go.binOp BinOp.eql 24 (Value.slice A m c) (Value.slice none 0 0)) W = .ok (.bool A.isNone) W := by
  have h0 : ∀ d : Nat, (Op.equalIn (d + 1) 24 (Value.slice A m c) (Value.slice none 0 0)).run Try.prog W = .ok A.isNone W := fun d => by cases A <;> simp [Op.equalIn, run_underlying Try.underlying24]
  have h1 := h0 9999
  have e : Op.equal 24 (Value.slice A m c) (Value.slice none 0 0) = Op.equalIn (9999 + 1) 24 (Value.slice A m c) (Value.slice none 0 0) := rfl
  rw [← e] at h1
  simp [Go.binOp, go_sem, h1]
theorem slnil25 (A : Option Addr) (m c : Nat) (W : World) : Sem.run Try.prog (Go.binOp BinOp.eql 25 (Value.slice A m c) (Value.slice none 0 0)) W = .ok (.bool A.isNone) W := by
  have h0 : ∀ d : Nat, (Op.equalIn (d + 1) 25 (Value.slice A m c) (Value.slice none 0 0)).run Try.prog W = .ok A.isNone W := fun d => by cases A <;> simp [Op.equalIn, run_underlying Try.underlying25]
  have h1 := h0 9999
  have e : Op.equal 25 (Value.slice A m c) (Value.slice none 0 0) = Op.equalIn (9999 + 1) 25 (Value.slice A m c) (Value.slice none 0 0) := rfl
  rw [← e] at h1
  simp [Go.binOp, go_sem, h1]
theorem slnil26 (A : Option Addr) (m c : Nat) (W : World) : Sem.run Try.prog (Go.binOp BinOp.eql 26 (Value.slice A m c) (Value.slice none 0 0)) W = .ok (.bool A.isNone) W := by
  have h0 : ∀ d : Nat, (Op.equalIn (d + 1) 26 (Value.slice A m c) (Value.slice none 0 0)).run Try.prog W = .ok A.isNone W := fun d => by cases A <;> simp [Op.equalIn, run_underlying Try.underlying26]
  have h1 := h0 9999
  have e : Op.equal 26 (Value.slice A m c) (Value.slice none 0 0) = Op.equalIn (9999 + 1) 26 (Value.slice A m c) (Value.slice none 0 0) := rfl
  rw [← e] at h1
  simp [Go.binOp, go_sem, h1]
set_option maxHeartbeats 2000000 in
theorem clone60 (A : Option Addr) (n c : Nat) (xs : List ByteArray) (w : World) (hl : xs.length = n) (hn : n ≤ 1000000) (hA : ES.Rd w A xs) :
    Calls Try.prog 60 #[.slice A n c] w fun e w' => ∃ A' c', e = .returned (.slice A' n c') ∧ ES.Row w' w.heap.size A' xs c' ∧ Below w.heap.size w w' := by
  cases A with
  | none =>
    have hx := rd_none hA
    subst hx
    simp at hl
    subst hl
    have hq := slnil23 none 0 c
    go_enter Try.func60, Try.ntmps60
    go_wp2
    go_ret
    exact ⟨none, 0, rfl, RE.Row.nil, Below.refl _ _⟩
  | some a =>
    have HA := Lib.hid hA
    have HL := Lib.hid hl
    have HB := Lib.hid (alb w (.cells #[] 9 (0, 0)))
    have hq := slnil23 (some a) n c
    have HR := Lib.hid ((RE.Row.nil : ES.Row (w.alloc (.cells #[] 9 (0, 0))) w.heap.size (some ⟨w.heap.size, 0, none⟩) [] 0))
    clear hA hl
    go_enter Try.func60, Try.ntmps60
    go_wp2_with (first
      | (at_builtin; refine RE.wpList_put ES _ rfl (.tmp 5) (.tmp 6) rfl (base := w.heap.size) (some ⟨w.heap.size, 0, none⟩) 0 0 [] (some a) n c xs rfl rfl HR.out rfl (by omega) HB.out.size HL.out (by omega) (HA.out.later HB.out) ?_; intro A2 k2 w2 r1 r2 r3; have R1 := Lib.hid r1; have BX := Lib.hid (HB.out.trans (RE.Row.below r2 HR.out (Nat.le_refl _) HB.out.size)); clear r1 r2 r3)
      | fail)
    go_ret
    exact ⟨A2, k2, by simp, R1.out, BX.out⟩
set_option maxHeartbeats 2000000 in
theorem clone61 (A : Option Addr) (n c : Nat) (xs : List Int) (w : World) (hl : xs.length = n) (hn : n ≤ 1000000) (hA : EI.Rd w A xs) :
    Calls Try.prog 61 #[.slice A n c] w fun e w' => ∃ A' c', e = .returned (.slice A' n c') ∧ EI.Row w' w.heap.size A' xs c' ∧ Below w.heap.size w w' := by
  cases A with
  | none =>
    have hx := rd_none hA
    subst hx
    simp at hl
    subst hl
    have hq := slnil24 none 0 c
    go_enter Try.func61, Try.ntmps61
    go_wp2
    go_ret
    exact ⟨none, 0, rfl, RE.Row.nil, Below.refl _ _⟩
  | some a =>
    have HA := Lib.hid hA
    have HL := Lib.hid hl
    have HB := Lib.hid (alb w (.cells #[] 3 (0, 0)))
    have hq := slnil24 (some a) n c
    have HR := Lib.hid ((RE.Row.nil : EI.Row (w.alloc (.cells #[] 3 (0, 0))) w.heap.size (some ⟨w.heap.size, 0, none⟩) [] 0))
    clear hA hl
    go_enter Try.func61, Try.ntmps61
    go_wp2_with (first
      | (at_builtin; refine RE.wpList_put EI _ rfl (.tmp 5) (.tmp 6) rfl (base := w.heap.size) (some ⟨w.heap.size, 0, none⟩) 0 0 [] (some a) n c xs rfl rfl HR.out rfl (by omega) HB.out.size HL.out (by omega) (HA.out.later HB.out) ?_; intro A2 k2 w2 r1 r2 r3; have R1 := Lib.hid r1; have BX := Lib.hid (HB.out.trans (RE.Row.below r2 HR.out (Nat.le_refl _) HB.out.size)); clear r1 r2 r3)
      | fail)
    go_ret
    exact ⟨A2, k2, by simp, R1.out, BX.out⟩
set_option maxHeartbeats 2000000 in
theorem clone62 (A : Option Addr) (n c : Nat) (xs : List MG) (w : World) (hl : xs.length = n) (hn : n ≤ 1000000) (hA : EG.Rd w A xs) :
    Calls Try.prog 62 #[.slice A n c] w fun e w' => ∃ A' c', e = .returned (.slice A' n c') ∧ EG.Row w' w.heap.size A' xs c' ∧ Below w.heap.size w w' := by
  cases A with
  | none =>
    have hx := rd_none hA
    subst hx
    simp at hl
    subst hl
    have hq := slnil25 none 0 c
    go_enter Try.func62, Try.ntmps62
    go_wp2
    go_ret
    exact ⟨none, 0, rfl, RE.Row.nil, Below.refl _ _⟩
  | some a =>
    have HA := Lib.hid hA
    have HL := Lib.hid hl
    have HB := Lib.hid (alb w (.cells #[] 62 (0, 0)))
    have hq := slnil25 (some a) n c
    have HR := Lib.hid ((RE.Row.nil : EG.Row (w.alloc (.cells #[] 62 (0, 0))) w.heap.size (some ⟨w.heap.size, 0, none⟩) [] 0))
    clear hA hl
    go_enter Try.func62, Try.ntmps62
    go_wp2_with (first
      | (at_builtin; refine RE.wpList_put EG _ rfl (.tmp 5) (.tmp 6) rfl (base := w.heap.size) (some ⟨w.heap.size, 0, none⟩) 0 0 [] (some a) n c xs rfl rfl HR.out rfl (by omega) HB.out.size HL.out (by omega) (HA.out.later HB.out) ?_; intro A2 k2 w2 r1 r2 r3; have R1 := Lib.hid r1; have BX := Lib.hid (HB.out.trans (RE.Row.below r2 HR.out (Nat.le_refl _) HB.out.size)); clear r1 r2 r3)
      | fail)
    go_ret
    exact ⟨A2, k2, by simp, R1.out, BX.out⟩
set_option maxHeartbeats 2000000 in
theorem clone63 (A : Option Addr) (n c : Nat) (xs : List Unit) (w : World) (hl : xs.length = n) (hn : n ≤ 1000000) (hA : EB.Rd w A xs) :
    Calls Try.prog 63 #[.slice A n c] w fun e w' => ∃ A' c', e = .returned (.slice A' n c') ∧ EB.Row w' w.heap.size A' xs c' ∧ Below w.heap.size w w' := by
  cases A with
  | none =>
    have hx := rd_none hA
    subst hx
    simp at hl
    subst hl
    have hq := slnil26 none 0 c
    go_enter Try.func63, Try.ntmps63
    go_wp2
    go_ret
    exact ⟨none, 0, rfl, RE.Row.nil, Below.refl _ _⟩
  | some a =>
    have HA := Lib.hid hA
    have HL := Lib.hid hl
    have HB := Lib.hid (alb w (.cells #[] 76 (0, 0)))
    have hq := slnil26 (some a) n c
    have HR := Lib.hid ((RE.Row.nil : EB.Row (w.alloc (.cells #[] 76 (0, 0))) w.heap.size (some ⟨w.heap.size, 0, none⟩) [] 0))
    clear hA hl
    go_enter Try.func63, Try.ntmps63
    go_wp2_with (first
      | (at_builtin; refine RE.wpList_put EB _ rfl (.tmp 5) (.tmp 6) rfl (base := w.heap.size) (some ⟨w.heap.size, 0, none⟩) 0 0 [] (some a) n c xs rfl rfl HR.out rfl (by omega) HB.out.size HL.out (by omega) (HA.out.later HB.out) ?_; intro A2 k2 w2 r1 r2 r3; have R1 := Lib.hid r1; have BX := Lib.hid (HB.out.trans (RE.Row.below r2 HR.out (Nat.le_refl _) HB.out.size)); clear r1 r2 r3)
      | fail)
    go_ret
    exact ⟨A2, k2, by simp, R1.out, BX.out⟩
end Go.Proofs.Ytilnpeekajnlhaa
namespace Go.Proofs.Ytilnpeekajnlhaa
open Go.RowKit Go.Maps Go.Shelf
attribute [local go_sem] Oper.semAt_some
theorem law3 : Keyed Try.prog 3 := int_keyed Try.underlying3
theorem zero3 (w : World) : (zeroValue 3).run Try.prog w = .ok (.int .i64 0) w := by kernel_rfl
theorem ikey (x : Int) : WideAt.IsKeyLit (.int .i64 x) := trivial
def upd (S : Int → Int) (x v : Int) : Int → Int := fun y => if y = x then v else S y
/-- Block M is a map that holds what S says. -/
def IM (W : World) (M m : Nat) (S : Int → Int) : Prop := ∃ D : DataW Unit, W.ownsMap Try.prog 3 (plainElem Try.prog 3) M m D ∧ Maps.IsMap D ∧ ∀ x, D.atKey (.int .i64 x) (.lit (.int .i64 0)) = .lit (.int .i64 (S x))
theorem IM.made (w : World) : IM (w.alloc (.map #[] 0)) w.heap.size 0 (fun _ => 0) := ⟨_, World.ownsMap_made (H := Unit) w Try.prog 3 _, Maps.isMap_empty, fun x => rfl⟩
theorem IM.kept {w w' : World} {M m : Nat} {S : Int → Int} {row : Option Nat} (h : IM w M m S) (hg : w.grownBy w' row) (hne : some M ≠ row) : IM w' M m S := by
  obtain ⟨D, h1, h2⟩ := h
  exact ⟨D, h1.kept hg hne, h2⟩
theorem IM.lt {w : World} {M m : Nat} {S : Int → Int} (h : IM w M m S) : M < w.heap.size := by
  obtain ⟨D, h1, _⟩ := h
  exact h1.lt
theorem IM.heap {w w' : World} {M m : Nat} {S : Int → Int} (h : IM w M m S) (e : w'.heap[M]? = w.heap[M]?) : IM w' M m S := by
  obtain ⟨D, ⟨es, ck, hb, F, hs, hD⟩, h2⟩ := h
  exact ⟨D, ⟨es, ck, by rw [e]; exact hb, F, hs, hD⟩, h2⟩
theorem IM.isMap {w : World} {M m : Nat} {S : Int → Int} (h : IM w M m S) : ∃ es ck, w.heap[M]? = some (.map es ck) := by
  obtain ⟨D, ⟨es, ck, hb, F, hs, hD⟩, h2⟩ := h
  exact ⟨es, ck, hb⟩
theorem IM.later {w w' : World} {M m : Nat} {S : Int → Int} (h : IM w M m S) (hb : Below w.heap.size w w') : IM w' M m S := h.heap (hb.block M h.lt)
theorem im_val {a b : Int} (h : (DataW.lit (.int .i64 a) : DataW Unit) = .lit (.int .i64 b)) : a = b := by injection h with e; injection e
theorem im_look (w : World) {ops : Array Oper} {rest : List Oper} {o : Oper} {a : Act} {Q : Exit → Act → World → Prop} (hg : o.guard = none) (m x : Operand) (hop : o.op = Op.lookup 107 m x false) {M n : Nat} {S : Int → Int} (h : IM w M n S)
    (hm : a.eval m = .map (some M)) (i : Int) (hx : a.eval x = .int .i64 i) (hi : (Lit.int .i64 i).wf = true) (v : Int) (hv : S i = v) (hK : wpList Try.prog ops Q rest (a.put o.dst (.int .i64 v)) w) : wpList Try.prog ops Q (o :: rest) a w := by
  subst hv
  obtain ⟨D, h1, h2, h3⟩ := h
  refine wpList_lookup_own_int w hg m x 107 hop 3 3 .i64 law3 Try.underlying107 Try.underlying3 (zero3 _) M n D hm h1 _ _ hx (keyOf_int_mk (P := Try.prog) Try.underlying3 hi) (fun c hat _ => ?_)
  rw [h3 i] at hat
  obtain rfl : S i = c := by injection hat with e1; injection e1
  exact hK
theorem im_glook (w : World) {ops : Array Oper} {rest : List Oper} {o : Oper} {a : Act} {Q : Exit → Act → World → Prop} (hw : Region.wanted o (yielded ops a.tmps) = true) (m x : Operand) (hop : o.op = Op.lookup 107 m x false) {M n : Nat} {S : Int → Int} (h : IM w M n S)
    (hm : a.eval m = .map (some M)) (i : Int) (hx : a.eval x = .int .i64 i) (hi : (Lit.int .i64 i).wf = true) (v : Int) (hv : S i = v) (hK : wpList Try.prog ops Q rest (a.put o.dst (.int .i64 v)) w) : wpList Try.prog ops Q (o :: rest) a w := by
  subst hv
  obtain ⟨D, h1, h2, h3⟩ := h
  unfold wpList
  rw [if_pos hw]
  left
  obtain ⟨c, hrun, hat, hwc⟩ := h1.lookup_int (q := .i64) law3 Try.underlying107 Try.underlying3 (zero3 w) (keyOf_int_mk (P := Try.prog) Try.underlying3 hi)
  have hc : c = S i := im_val (hat.symm.trans (h3 i))
  rw [hc] at hrun
  clear hat hwc hc
  unfold Oper.wp
  simp [execOp, hop, hm, hx, hrun, Result.andThen]
  exact hK
theorem im_put (w : World) {ops : Array Oper} {rest : List Oper} {o : Oper} {a : Act} {Q : Exit → Act → World → Prop} (hg : o.guard = none) (m x v : Operand) (hop : o.op = Op.mapUpdate 107 m x v) {M n : Nat} {S : Int → Int} (h : IM w M n S) (hn : n < maxLen)
    (hm : a.eval m = .map (some M)) (i j : Int) (hx : a.eval x = .int .i64 i) (hv : a.eval v = .int .i64 j) (hi : (Lit.int .i64 i).wf = true) (hj : (Lit.int .i64 j).wf = true)
    (hK : ∀ w', IM w' M (n + 1) (upd S i j) → w.grownBy w' (some M) → wpList Try.prog ops Q rest (a.put o.dst undef) w') : wpList Try.prog ops Q (o :: rest) a w := by
  obtain ⟨D, h1, h2, h3⟩ := h
  refine wpList_mapUpdate_own w hg m x v 107 hop 3 3 law3 Try.underlying107 _ M n D hm h1 hn _ _ _ hx hv (keyOf_int_mk (P := Try.prog) Try.underlying3 hi) _ [] (plainElem_int Try.underlying3 hj) (fun w' hw hgr => hK w' ⟨_, hw, h2.put _ _, fun y => ?_⟩ hgr)
  by_cases c : y = i
  · subst c; rw [Maps.atKey_put_same h2 (ikey y)]; simp [upd]
  · rw [Maps.atKey_put_other (by simpa using c), h3 y]; simp [upd, c]
end Go.Proofs.Ytilnpeekajnlhaa
namespace Go.Proofs.Ytilnpeekajnlhaa
open Go.RowKit Go.Maps
/-- A node's five cells. -/
abbrev NO (k : Int) (p i m b : Value) : Obj := .cells #[.int .u8 k, p, i, m, b] 28 (0, 0)
abbrev NV (k : Int) (p i m b : Value) : Value := .agg #[.int .u8 k, p, i, m, b]
abbrev ZN : Obj := NO 0 (.slice none 0 0) (.slice none 0 0) (.slice none 0 0) (.slice none 0 0)
theorem cells5 {W : World} {g : Nat} {a b c d e : Value} {t : TypeId} (z : W.heap[g]? = some (.cells #[a, b, c, d, e] t (0, 0))) :
    W.cell? ⟨g, 0, none⟩ = some a ∧ W.cell? ⟨g, 1, none⟩ = some b ∧ W.cell? ⟨g, 2, none⟩ = some c ∧ W.cell? ⟨g, 3, none⟩ = some d ∧ W.cell? ⟨g, 4, none⟩ = some e := by
  refine ⟨?_, ?_, ?_, ?_, ?_⟩ <;> simp [World.cell?, z]
theorem froz5 {W : World} {g : Nat} {a b c d e : Value} {t : TypeId} (z : W.heap[g]? = some (.cells #[a, b, c, d, e] t (0, 0))) :
    W.frozen? ⟨g, 0, none⟩ = false ∧ W.frozen? ⟨g, 1, none⟩ = false ∧ W.frozen? ⟨g, 2, none⟩ = false ∧ W.frozen? ⟨g, 3, none⟩ = false ∧ W.frozen? ⟨g, 4, none⟩ = false := by
  refine ⟨?_, ?_, ?_, ?_, ?_⟩ <;> simp [World.frozen?, z]
/-- Is it so small that it is gone through? -/
def smallB (n k m b : Nat) : Bool := decide ((k : Int) ≤ 20) && (decide ((n : Int) ≤ 20) && (decide ((m : Int) ≤ 30) && decide ((b : Int) ≤ 5)))
set_option maxHeartbeats 2000000 in
theorem small_any (kd : Int) (P J M B : Option Addr) (n pc k kc m mc b bc : Nat) (w : World) :
    Calls Try.prog 7 #[NV kd (.slice P n pc) (.slice J k kc) (.slice M m mc) (.slice B b bc)] w fun e w' => e = .returned (.bool (smallB n k m b)) ∧ Below w.heap.size w w' := by
  have B0 := Lib.hid (alb w (NO kd (.slice P n pc) (.slice J k kc) (.slice M m mc) (.slice B b bc)))
  unfold smallB
  by_cases h1 : (k : Int) ≤ 20
  · rw [decide_eq_true h1]
    by_cases h2 : (n : Int) ≤ 20
    · rw [decide_eq_true h2]
      by_cases h3 : (m : Int) ≤ 30
      · rw [decide_eq_true h3]
        by_cases h4 : (b : Int) ≤ 5
        · rw [decide_eq_true h4]
          go_enter Try.func7, Try.ntmps7
          go_wp2
          go_ret
          exact ⟨rfl, B0.out⟩
        · rw [decide_eq_false h4]
          go_enter Try.func7, Try.ntmps7
          go_wp2
          go_ret
          exact ⟨rfl, B0.out⟩
      · rw [decide_eq_false h3]
        go_enter Try.func7, Try.ntmps7
        go_wp2
        go_ret
        exact ⟨rfl, B0.out⟩
    · rw [decide_eq_false h2]
      go_enter Try.func7, Try.ntmps7
      go_wp2
      go_ret
      exact ⟨rfl, B0.out⟩
  · rw [decide_eq_false h1]
    go_enter Try.func7, Try.ntmps7
    go_wp2
    go_ret
    exact ⟨rfl, B0.out⟩
set_option maxHeartbeats 2000000 in
theorem with_any (kd : Int) (P J M B L : Option Addr) (n pc k kc m mc b bc l lc : Nat) (w : World) :
    Calls Try.prog 14 #[NV kd (.slice P n pc) (.slice J k kc) (.slice M m mc) (.slice B b bc), .slice L l lc] w fun e w' => e = .returned (NV kd (.slice P n pc) (.slice J k kc) (.slice L l lc) (.slice B b bc)) ∧ Below w.heap.size w w' := by
  go_enter Try.func14, Try.ntmps14
  go_wp2
  refine bodyPost_ret (v := NV kd (.slice P n pc) (.slice J k kc) (.slice L l lc) (.slice B b bc)) (by simp [results, Try.results14, go_sem]) rfl ⟨rfl, ?_⟩
  go_grown
/-- The part of a kid. -/
theorem part_any (kd : Int) (P J M B : Option Addr) (n pc k kc m mc b bc : Nat) (ps : List ByteArray) (f t : ByteArray) (i : Int) (w : World) (hl : ps.length = n) (hn : n ≤ 100) (hP : Pv.RdS w P ps) (hi : i < k) :
    Calls Try.prog 37 #[NV kd (.slice P n pc) (.slice J k kc) (.slice M m mc) (.slice B b bc), .agg #[.string f, .string t], .int .i64 i] w (Pv.SpanPost w ps f t i) := by
  have SP := Lib.hid (fun W (h : Below w.heap.size w W) => Pv.span_any P ps n pc f t i W hl (by omega) (Rd.later hP h))
  have H0 := Lib.hid (bel_alloc (bel_alloc (alb w (NO kd (.slice P n pc) (.slice J k kc) (.slice M m mc) (.slice B b bc))) (rgc f t)) (rgc emptyS emptyS))
  obtain ⟨x, y, ok, he⟩ : ∃ x y ok, Pv.spv ps f t i = .tuple #[.agg #[.string x, .string y], .bool ok] := ⟨_, _, _, rfl⟩
  unfold Pv.SpanPost at SP ⊢
  rw [he] at SP
  simp only [he]
  have hi2 : ¬ i ≥ (k : Int) := by omega
  have hi3 : ¬ (k : Int) ≤ i := by omega
  clear he hl hP
  have y0 := heap_alloc_new ((w.alloc (NO kd (.slice P n pc) (.slice J k kc) (.slice M m mc) (.slice B b bc))).alloc (rgc f t)) (rgc emptyS emptyS)
  simp only [World.size_alloc] at y0
  have Y := Lib.hid y0
  clear y0
  go_enter Try.func37, Try.ntmps37
  go_wp2_with (first
    | (go_at_call 72; ((with_reducible refine (SP.out _ H0.out).mono ?_); rintro e w1 ⟨rfl, b1⟩; have B1 := Lib.hid (bel_trans H0.out b1); obtain ⟨d0, d1, f0, f1⟩ := has_two (keep_bel b1 Y.out); clear b1))
    | fail)
  obtain ⟨e0, e1⟩ := Pv.set2_cells (.string x) (.string y) d0 d1
  refine bodyPost_ret (v := .tuple #[.agg #[.string x, .string y], .bool ok]) (by simp [results, Try.results37, go_sem, e0, e1]) rfl ⟨rfl, Pv.bel_set2 B1.out (by omega) _ _⟩
theorem part_far (kd : Int) (P J M B : Option Addr) (n pc k kc m mc b bc : Nat) (ps : List ByteArray) (f t : ByteArray) (i : Int) (w : World) (hl : ps.length = n) (hk : k = n + 1) (hi : ¬ i < k) :
    Calls Try.prog 37 #[NV kd (.slice P n pc) (.slice J k kc) (.slice M m mc) (.slice B b bc), .agg #[.string f, .string t], .int .i64 i] w (Pv.SpanPost w ps f t i) := by
  have e := Pv.span_no (p := ps) (f := f) (t := t) (i := i) (by unfold Pv.spanB; rw [hl, decide_eq_false (p := i ≤ (n : Int)) (by omega)]; simp)
  unfold Pv.SpanPost
  rw [e]
  have hi2 : i ≥ (k : Int) := by omega
  have hi3 : (k : Int) ≤ i := by omega
  clear e hk hl
  go_enter Try.func37, Try.ntmps37
  go_wp2
  refine bodyPost_ret (v := .tuple #[.agg #[.string emptyS, .string emptyS], .bool false]) (by simp [results, Try.results37, go_sem]) rfl ⟨rfl, ?_⟩
  go_grown
theorem part_all (kd : Int) (P J M B : Option Addr) (n pc k kc m mc b bc : Nat) (ps : List ByteArray) (f t : ByteArray) (i : Int) (w : World) (hl : ps.length = n) (hn : n ≤ 100) (hP : Pv.RdS w P ps) (hk : k = n + 1) :
    Calls Try.prog 37 #[NV kd (.slice P n pc) (.slice J k kc) (.slice M m mc) (.slice B b bc), .agg #[.string f, .string t], .int .i64 i] w (Pv.SpanPost w ps f t i) := by
  by_cases hi : i < k
  · exact part_any kd P J M B n pc k kc m mc b bc ps f t i w hl hn hP hi
  · exact part_far kd P J M B n pc k kc m mc b bc ps f t i w hl hk hi
/-- Which part is a key's. -/
theorem kid_any (kd : Int) (P J M B : Option Addr) (n pc k kc m mc b bc : Nat) (ps : List ByteArray) (s : ByteArray) (w : World) (hl : ps.length = n) (hn : n ≤ 100) (hP : Pv.RdS w P ps) (hk : k = n + 1) :
    Calls Try.prog 36 #[NV kd (.slice P n pc) (.slice J k kc) (.slice M m mc) (.slice B b bc), .string s] w fun e w' => e = .returned (.tuple #[.int .i64 (Pv.prt ps s : Int), .bool true]) ∧ Below w.heap.size w w' := by
  have SP := Lib.hid (fun W (h : Below w.heap.size w W) => Pv.part_any P ps n pc s W hl (by omega) (Rd.later hP h))
  have H0 := Lib.hid (alb w (NO kd (.slice P n pc) (.slice J k kc) (.slice M m mc) (.slice B b bc))).drew
  have Z := Lib.hid (show (w.alloc (NO kd (.slice P n pc) (.slice J k kc) (.slice M m mc) (.slice B b bc))).drew.heap[w.heap.size]? = some (NO kd (.slice P n pc) (.slice J k kc) (.slice M m mc) (.slice B b bc)) from heap_alloc_new w _)
  have HQ : Pv.prt ps s ≤ ps.length := Pv.prtK_le ps s ps.length
  have h0 : ((k : Int) == 0) = false := by rw [beq_eq_false_iff_ne]; omega
  have h00 : ¬ (k : Int) = 0 := by omega
  have hw : IntKind.i64.wrap ((k : Int) - 1) = (n : Int) := by rw [IntWalk.i64_in _ (by omega)]; omega
  have HP : min ((Pv.prt ps s : Nat) : Int) (n : Int) = (Pv.prt ps s : Int) := by omega
  clear HQ hl hP hk
  go_enter Try.func36, Try.ntmps36
  go_wp2_with fail
  refine wp_region_held_drew (S := (fun V : World => V.heap[w.heap.size]? = some (NO kd (.slice P n pc) (.slice J k kc) (.slice M m mc) (.slice B b bc)))) (by kernel_rfl) ?_ (fun hHeld => ?_)
  · exact Z.out
  have HHeld := Lib.hid hHeld; clear hHeld
  refine wT (i := 0) (oi := { dst := some 10, op := Op.fieldAddr 28 (Operand.tmp 2) 1, type := 0, pos := "inner.go:45", after := #[], guard := none }) (v := ?_) rfl (Or.inl ⟨by rfl, ?_⟩) HHeld.out ?_
  rotate_left
  · intro w hSw; clear hSw; go_simp; try with_reducible rfl
  try simp only [pu, pn, s1, s2, s3]
  refine wT (i := 1) (oi := { dst := some 11, op := Op.load 23 (Operand.tmp 10), type := 23, pos := "inner.go:45", after := #[{ on := 0, ground := Ground.data }], guard := none }) (v := (.slice P n pc : Value)) rfl (Or.inl ⟨by rfl, ?_⟩) HHeld.out ?_
  · intro V hV; have hc0 := (cells5 hV).2.1; clear hV; go_simp
  try simp only [pu, pn, s1, s2, s3]
  refine wT (i := 2) (oi := { dst := some 12, op := Op.move (Operand.tmp 1), type := 9, pos := "inner.go:45", after := #[], guard := none }) (v := ?_) rfl (Or.inl ⟨by rfl, ?_⟩) HHeld.out ?_
  rotate_left
  · intro w hSw; clear hSw; go_simp; try with_reducible rfl
  try simp only [pu, pn, s1, s2, s3]
  refine wT (i := 4) (oi := { dst := some 14, op := Op.fieldAddr 28 (Operand.tmp 2) 2, type := 0, pos := "inner.go:45", after := #[], guard := none }) (v := ?_) rfl (Or.inl ⟨by rfl, ?_⟩) HHeld.out ?_
  rotate_left
  · intro w hSw; clear hSw; go_simp; try with_reducible rfl
  try simp only [pu, pn, s1, s2, s3]
  refine wT (i := 5) (oi := { dst := some 15, op := Op.load 24 (Operand.tmp 14), type := 24, pos := "inner.go:45", after := #[{ on := 4, ground := Ground.data }], guard := none }) (v := (.slice J k kc : Value)) rfl (Or.inl ⟨by rfl, ?_⟩) HHeld.out ?_
  · intro V hV; have hc0 := (cells5 hV).2.2.1; clear hV; go_simp
  try simp only [pu, pn, s1, s2, s3]
  refine wT (i := 6) (oi := { dst := some 16, op := Op.call { callee := Callee.builtin Builtin.len, args := #[Operand.tmp 15], argTypes := #[24] }, type := 3, pos := "inner.go:45", after := #[{ on := 5, ground := Ground.data }], guard := none }) (v := ?_) rfl (Or.inl ⟨by rfl, ?_⟩) HHeld.out ?_
  rotate_left
  · intro w hSw; clear hSw; go_simp; try with_reducible rfl
  try simp only [pu, pn, s1, s2, s3]
  refine wT (i := 7) (oi := { dst := some 17, op := Op.binOp BinOp.sub 3 (Operand.tmp 16) (Operand.const (Value.int IntKind.i64 1)) 3, type := 3, pos := "inner.go:45", after := #[{ on := 6, ground := Ground.data }], guard := none }) (v := ?_) rfl (Or.inl ⟨by rfl, ?_⟩) HHeld.out ?_
  rotate_left
  · intro w hSw; clear hSw; go_simp; try with_reducible rfl
  try simp only [pu, pn, s1, s2, s3]
  refine wpAnyH_ready (rs := [3]) (by kernel_rfl) (by simp) ?_
  refine AllReadyH.cons (o := { dst := some 13, op := Op.call { callee := Callee.value (Operand.func 71), args := #[Operand.tmp 11, Operand.tmp 12], argTypes := #[23, 9] }, type := 3, pos := "inner.go:45", after := #[{ on := 1, ground := Ground.data }, { on := 2, ground := Ground.data }], guard := none }) rfl (fun K hK => ?_) AllReadyH.nil
  go_simp
  go_at_call 71
  with_reducible refine (SP.out _ H0.out).mono ?_
  rintro e w1 ⟨rfl, b⟩
  have B1 := Lib.hid (bel_trans H0.out b)
  have Z1 := Lib.hid (keep_bel b Z.out)
  clear b
  refine hK.out _ _ ?_ (fun hHeld => ?_)
  · exact Z1.out
  clear HHeld; have HHeld := Lib.hid hHeld; clear hHeld
  clear hK K
  try simp only [pu, pn, s1, s2, s3]
  refine wT (i := 8) (oi := { dst := some 18, op := Op.call { callee := Callee.builtin Builtin.min, args := #[Operand.tmp 13, Operand.tmp 17], argTypes := #[3, 3] }, type := 3, pos := "inner.go:45", after := #[{ on := 3, ground := Ground.data }, { on := 7, ground := Ground.data }], guard := none }) (v := ?_) rfl (Or.inl ⟨by rfl, ?_⟩) HHeld.out ?_
  rotate_left
  · intro w hSw; clear hSw; go_simp; try with_reducible rfl
  try simp only [pu, pn, s1, s2, s3]
  refine wT (i := 9) (oi := { dst := some 4, op := Op.assign (Operand.tmp 18), type := 3, pos := "inner.go:45", after := #[{ on := 8, ground := Ground.data }, { on := 3, ground := Ground.chain }, { on := 0, ground := Ground.phase }, { on := 1, ground := Ground.phase }, { on := 2, ground := Ground.phase }, { on := 3, ground := Ground.phase }, { on := 4, ground := Ground.phase }, { on := 5, ground := Ground.phase }, { on := 6, ground := Ground.phase }, { on := 7, ground := Ground.phase }, { on := 8, ground := Ground.phase }], guard := none }) (v := ?_) rfl (Or.inl ⟨by rfl, ?_⟩) HHeld.out ?_
  rotate_left
  · intro w hSw; clear hSw; go_simp; try with_reducible rfl
  try simp only [pu, pn, s1, s2, s3]
  refine wT (i := 10) (oi := { dst := some 5, op := Op.assign (Operand.const (Value.bool true)), type := 4, pos := "inner.go:45", after := #[{ on := 9, ground := Ground.chain }, { on := 0, ground := Ground.phase }, { on := 1, ground := Ground.phase }, { on := 2, ground := Ground.phase }, { on := 3, ground := Ground.phase }, { on := 4, ground := Ground.phase }, { on := 5, ground := Ground.phase }, { on := 6, ground := Ground.phase }, { on := 7, ground := Ground.phase }, { on := 8, ground := Ground.phase }, { on := 9, ground := Ground.phase }], guard := none }) (v := ?_) rfl (Or.inl ⟨by rfl, ?_⟩) HHeld.out ?_
  rotate_left
  · intro w hSw; clear hSw; go_simp; try with_reducible rfl
  try simp only [pu, pn, s1, s2, s3]
  refine wpAnyH_done (by kernel_rfl) ?_ _
  clear HHeld
  go_wp2
  refine bodyPost_ret (v := .tuple #[.int .i64 (Pv.prt ps s : Int), .bool true]) (by simp [results, Try.results36, go_sem]) rfl ⟨rfl, B1.out⟩
end Go.Proofs.Ytilnpeekajnlhaa
