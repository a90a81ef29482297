/- Pivots: the document's parts. -/
import Derived.Test.YtngldfheneegcaaP9
import Derived.Test.YtngldfheneegcaaP4
namespace Go.Proofs.Ytngldfheneegcaa
set_option linter.unusedSimpArgs false
open Go.RowKit
set_option linter.unusedVariables false

/-- The first k parts. -/
def pcs (p : List ByteArray) (f t : ByteArray) (k : Nat) : List (ByteArray × ByteArray) := (List.range k).map fun i => (pF p f i, pT p t i)
theorem pcs_succ (p : List ByteArray) (f t : ByteArray) (k : Nat) : pcs p f t (k + 1) = pcs p f t k ++ [(pF p f k, pT p t k)] := by simp [pcs, List.range_succ]
theorem pcs_length (p : List ByteArray) (f t : ByteArray) (k : Nat) : (pcs p f t k).length = k := by simp [pcs]
theorem parts_eq (p : List ByteArray) (f t : ByteArray) : parts p f t = pcs p f t (many p f t) := rfl
def RSpansPost (w : World) (ps : List (ByteArray × ByteArray)) (e : Ending) (w' : World) : Prop := ∃ A c, e = .returned (.slice A ps.length c) ∧ RdP w' A ps ∧ Below w.heap.size w w'

set_option maxRecDepth 10000 in
set_option maxHeartbeats 2000000 in
theorem rspans_any (A : Option Addr) (p : List ByteArray) (n c : Nat) (f t : ByteArray) (w : World) (hl : p.length = n) (hn : n ≤ 1000) (hr : RdS w A p) :
    Calls Try.prog 7 #[.slice A n c, .agg #[.string f, .string t]] w (RSpansPost w (parts p f t)) := by
  have R := Lib.hid (fun W (hb : Below w.heap.size w W) => rright_all A p n c f t W hl hn (Rd.later hr hb))
  have HR := Lib.hid hr
  have HL := Lib.hid hl
  obtain ⟨i0, hi, hz0, hz1, hz2⟩ := info_parts info24
  have B0 : Hid (Below w.heap.size w ((w.alloc (rgc f t)).alloc (.cells #[] 24))) := Lib.hid (by go_grown)
  have q0 := (rgcell (w := w) f t)
  have q1 : ((w.alloc (rgc f t)).alloc (.cells #[] 24)).cell? ⟨w.heap.size, 0, none⟩ = some (.string f) := bel_later (bel_alloc (Below.refl _ _) _) q0.1
  have Q1 := Lib.hid (show ((w.alloc (rgc f t)).alloc (.cells #[] 24)).cell? ⟨w.heap.size, 1, none⟩ = some (.string t) from bel_later (bel_alloc (Below.refl _ _) _) q0.2)
  have O := Lib.hid (World.ownsRow_made (w.alloc (rgc f t)) (base := w.heap.size + 1) (e := 24) (size := 2) #[] 0 (by simp) (by simp [maxLen]) (by simp))
  clear hr hl q0
  cases hv : rightB p f t
  · have HM : Hid (parts p f t = []) := Lib.hid (by unfold parts many; rw [hv]; rfl)
    rw [hv] at R
    clear hv
    go_enter Try.func7, Try.ntmps7
    go_wp2_with (go_at_call 15; ((with_reducible refine (R.out _ B0.out).mono ?_); rintro e w1 ⟨rfl, b1⟩; have B1 := Lib.hid (B0.out.trans (b1.mono B0.out.size)); have O1 := Lib.hid (own_bel O.out b1); clear b1))
    refine bodyPost_ret (by simp [results, Try.results7, go_sem]; rfl) rfl ?_
    rw [HM.out]
    exact ⟨_, _, rfl, .inl rfl, B1.out⟩
  · have hM : many p f t = n + 1 := by unfold many; rw [hv, if_pos rfl, HL.out]
    have HM := Lib.hid hM
    rw [hv] at R
    clear hv hM
    go_enter Try.func7, Try.ntmps7
    go_wp2_with (go_at_call 15; ((with_reducible refine (R.out _ B0.out).mono ?_); rintro e w1 ⟨rfl, b1⟩; have r1 := bel_later b1 q1; have R2 := Lib.hid (bel_later b1 Q1.out); have B1 := Lib.hid (B0.out.trans (b1.mono B0.out.size)); have O1 := Lib.hid (own_bel O.out b1); have Z1 := Lib.hid b1.size; clear b1))
    simp only [World.size_alloc] at O1
    have hsz : Hid (w.heap.size + 2 ≤ w1.heap.size) := Lib.hid (by have := Z1.out; simp at this; omega)
    have hi := hi
    go_loopw [5, 6, 7] (fun ov fv iv wr => ∃ k : Nat, k ≤ n ∧ iv = .int .i64 k ∧ fv = .string (pF p f k) ∧ wr.ownsRow (w.heap.size + 1) 24 2 ov k (flt (pcs p f t k)) ∧ Below (w.heap.size + 1) w1 wr) (fun _ _ i _ => n - (intOf i).toNat)
    case atStart => exact ⟨0, Nat.zero_le _, rfl, rfl, O1.out, Below.refl _ _⟩
    case round =>
      obtain ⟨k, hk, rfl, rfl, hown, hbw⟩ := hrel
      have hwz := hsz.out
      have hws := hbw.size
      have hmax : (2000 : Nat) ≤ maxLen := by decide
      obtain ⟨a0, c0, rfl⟩ := own_shape hown
      have HO := Lib.hid hown
      have HB := Lib.hid hbw
      have RT : Hid (wr.cell? ⟨w.heap.size, 1, none⟩ = some (.string t)) := Lib.hid ((bel_cell hbw (by omega)).trans R2.out)
      by_cases h8 : k < n
      · have j0 : (0 : Int) ≤ (k : Int) := by omega
        have j1 : (k : Int) < (n : Int) := by omega
        have j9 : (k : Int) ≤ 1000 := by omega
        have eT : pT p t k = at_ p k := by unfold pT; rw [if_pos (by rw [HL.out]; exact h8)]
        have eF : pF p f (k + 1) = at_ p k := by unfold pF; rw [if_pos (by omega)]; rfl
        have hps := pcs_succ p f t k
        rw [eT] at hps
        obtain ⟨b, off, rfl, hlt, f0⟩ := rds_get HR.out (k := k) (by rw [HL.out]; exact h8)
        obtain ⟨x, hx⟩ : ∃ x, x = at_ p k := ⟨_, rfl⟩
        obtain ⟨y, hy⟩ : ∃ y, y = pF p f k := ⟨_, rfl⟩
        rw [← hx] at f0 hps eF
        rw [← hy] at hps ⊢
        have g1 : w1.cell? ⟨b, off + k, none⟩ = some (.string x) := bel_later B1.out f0
        have g0 : wr.cell? ⟨b, off + k, none⟩ = some (.string x) := (bel_cell HB.out (by omega)).trans g1
        have G1 := Lib.hid g1
        have HPS := Lib.hid hps
        have EF := Lib.hid eF
        clear f0 g1 eT eF hps hx hy hown hbw
        go_wp2_with (at_builtin; refine wpList_append_own _ rfl _ _ 26 rfl (w.heap.size + 1) 24 i0 (.agg #[.string ⟨#[]⟩, .string ⟨#[]⟩]) 2 32 Try.underlying26 hi hz0 hz1 hz2 rfl (by decide) _ _ _ rfl (HO.out.alloc _) ⟨wr.heap.size, 0, none⟩ 1 1 [.string y, .string x] rfl rfl (two_new2 _ _ _ _ rfl) (by simp [Value.oneCell']) (by omega) (by omega) (by simp; omega) ?_; intro v' w2 hown' hgrow _; have b2 := grown_bel (HB.out.alloc (by omega) _) hgrow (HO.out.alloc _) (Nat.le_refl _) (by simp; omega); have g2 : w2.cell? ⟨b, off + k, none⟩ = some (.string x) := (bel_cell b2 (by omega)).trans G1.out; have O2 := Lib.hid hown'; have B2 := Lib.hid b2; obtain ⟨g', cap', rfl⟩ := ownsRow_succ hown'; clear hown' hgrow b2)
        go_roundw
        case rel => exact ⟨k + 1, by omega, by simp, by rw [EF.out], by rw [HPS.out, flt_snoc]; exact O2.out, B2.out⟩
        case measure => simp [intOf]; omega
      · obtain rfl : k = n := by omega
        have j1 : ¬ (k : Int) < (k : Int) := by omega
        have eT : pT p t k = t := by unfold pT; rw [if_neg (by rw [HL.out]; omega)]
        have hps := pcs_succ p f t k
        rw [eT] at hps
        obtain ⟨y, hy⟩ : ∃ y, y = pF p f k := ⟨_, rfl⟩
        rw [← hy] at hps ⊢
        have rt := RT.out
        have HPS := Lib.hid hps
        clear eT hps hy hown hbw
        go_wp2_with (at_builtin; refine wpList_append_own _ rfl _ _ 26 rfl (w.heap.size + 1) 24 i0 (.agg #[.string ⟨#[]⟩, .string ⟨#[]⟩]) 2 32 Try.underlying26 hi hz0 hz1 hz2 rfl (by decide) _ _ _ rfl (HO.out.alloc _) ⟨wr.heap.size, 0, none⟩ 1 1 [.string y, .string t] rfl rfl (two_new2 _ _ _ _ rfl) (by simp [Value.oneCell']) (by omega) (by omega) (by simp; omega) ?_; intro v' w2 hown' hgrow _; have b2 := grown_bel (HB.out.alloc (by omega) _) hgrow (HO.out.alloc _) (Nat.le_refl _) (by simp; omega); have O2 := Lib.hid hown'; have B2 := Lib.hid b2; obtain ⟨g', cap', rfl⟩ := ownsRow_succ hown'; clear hown' hgrow b2)
        refine bodyPost_ret (v := .slice (some ⟨g', 0, none⟩) (k + 1) cap') (by simp [results, Try.results7, go_sem]) rfl ⟨some ⟨g', 0, none⟩, cap', ?_, ?_, ?_⟩
        · rw [parts_eq, HM.out, pcs_length]
        · rw [parts_eq, HM.out]
          unfold RdP
          rw [HPS.out, flt_snoc]
          exact Rd.of_own O2.out (by decide)
        · exact B1.out.trans (B2.out.mono (by omega))
end Go.Proofs.Ytngldfheneegcaa
