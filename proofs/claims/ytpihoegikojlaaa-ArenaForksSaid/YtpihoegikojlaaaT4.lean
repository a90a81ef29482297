/- A deed on both, where other blocks are kept. -/
import Derived.Test.YtpihoegikojlaaaT0
namespace Go.Proofs.Ytpihoegikojlaaa
set_option linter.unusedSimpArgs false
open Go.RowKit Go.Maps
set_option linter.unusedVariables false
variable {F : Nat → Prop}

set_option maxRecDepth 4000 in
set_option maxHeartbeats 2000000 in
theorem stepr_0 {lo N : Nat} {K R : Nat → Prop} {b : AB} {w : World} {cs : Array Value} (h : SR lo N K R b b w cs) (hlo : lo ≤ w.heap.size) {i n : Int} : Calls Try.prog 10 #[.pointer (some ⟨N, 0, none⟩), .agg cs, .agg #[.int .i64 0, .int .i64 i, .int .i64 n]] w (SPostR lo N K R (takeA b n) w) := by
  have hal := run_zb
  have H0 := Lib.hid (h.wide (V3.bel w cs 0 i n) (K1 w K) (K1.to (V3.size w cs 0 i n)))
  have B0 := Lib.hid (V3.bel w cs 0 i n)
  have X0 := Lib.hid (V3.x0 w cs 0 i n)
  have X1 := Lib.hid (V3.x1 w cs 0 i n)
  have X2 := Lib.hid (V3.x2 w cs 0 i n)
  have Z3 := Lib.hid (V3.size w cs 0 i n)
  have HLO := Lib.hid hlo
  have HS0 := Lib.hid h.size
  have HO0 := Lib.hid h.one
  have HK0 := Lib.hid h.kept
  have HIV := Lib.hid h.iv.1
  have HC0 := Lib.hid h.cells
  clear h
  go_enter Try.func10, Try.ntmps10
  go_wp2_with (first
    | (go_at_call 14; ((with_reducible refine (qr_take H0.out (Nat.le_trans HLO.out B0.out.size) n).mono ?_); rintro e w1 ⟨rfl, h1, b1, k1⟩; have H1 := Lib.hid h1; have B1 := Lib.hid b1; have K1H := Lib.hid k1; have XA := Lib.hid ((k1 w.heap.size (.inl (.inr ⟨by omega, by omega⟩))).trans X0.out); have DA := Lib.hid ((k1 (w.heap.size + 1) (.inl (.inr ⟨by omega, by omega⟩))).trans X1.out); have RA := Lib.hid ((k1 (w.heap.size + 1 + 1) (.inl (.inr ⟨by omega, by omega⟩))).trans X2.out); have N0 : Hid (w.heap.size + 3 ≤ w1.heap.size) := Lib.hid (by have h1 := (Array.getElem?_eq_some_iff.1 RA.out).1; omega); have xd2 : w1.cell? ⟨w.heap.size + 1, 2, none⟩ = some (.int .i64 n) := cell_of_row _ _ 2 _ _ _ DA.out; clear h1 b1 k1))
    | (refine wpList_load_row rfl 33 (.tmp 4) rfl w.heap.size rfl 33 cs (0, 0) _ XA.out Try.underlying33 rfl (by rw [HS0.out]; exact info33) ?_)
    | (go_at_call 23; ((with_reducible refine (dr_take H1.out n).mono ?_); rintro e w2 ⟨cs1, rfl, h2, b2⟩; have H2 := Lib.hid h2; have B2 := Lib.hid b2; have z1 := (heap_alloc_new w2 (.cells zb 33)); have Z1 := Lib.hid z1; have N1 : Hid (w.heap.size + 3 ≤ w2.heap.size) := Lib.hid (by have h1 := b2.size; have := N0.out; omega); clear h2 b2 z1))
    | (refine wpList_store_row rfl 33 (.tmp 10) (.tmp 40) rfl w2.heap.size cs1 rfl rfl 33 zb Z1.out (by rw [H2.out.size]; exact info33) (by rw [H2.out.size]; exact zb_size) H2.out.one ?_; have Y2 := Lib.hid (W2.x w2 cs1); have RK := Lib.hid (blk_bel (W2.bel w2 cs1) (blk_bel B2.out RA.out)))
    | (refine wpList_load_row rfl 33 (.tmp 10) rfl w2.heap.size rfl 33 cs1 (0, 0) _ Y2.out Try.underlying33 rfl (by rw [H2.out.size]; exact info33) ?_)
    | (refine wpList_store_row rfl 33 (.tmp 6) (.tmp 43) rfl (w.heap.size + 1 + 1) cs1 rfl rfl 33 zb RK.out (by rw [H2.out.size]; exact info33) (by rw [H2.out.size]; exact zb_size) H2.out.one ?_; obtain ⟨V, hV⟩ : ∃ V, V = (W2 w2 cs1).setRow (w.heap.size + 1 + 1) cs1 := ⟨_, rfl⟩; have hV' := hV; unfold W2 at hV'; rw [← hV']; have HV := Lib.hid hV; clear hV hV')
    | fail)
  have HG := grown_row (w := W2 w2 cs1) (N := w.heap.size + 1 + 1) (cs := cs1)
  have HF := (H2.out.later (W2.bel w2 cs1)).apart HG (.inr ⟨by omega, by omega⟩)
  have BW1 : Below lo w w1 := (B0.out.mono HLO.out).trans B1.out
  have BW2 : Below lo w (W2 w2 cs1) := BW1.trans ((B2.out.trans ((W2.bel w2 cs1).mono B2.out.size)).mono (by have := N0.out; have := HLO.out; omega))
  have HB : Below lo w ((W2 w2 cs1).setRow (w.heap.size + 1 + 1) cs1) := below_setRow BW2 (by have := HLO.out; omega) _
  have HX := setRow_heap _ _ _ cs1 _ _ RK.out
  have HKG : ∀ g, K g ∨ R g → ((W2 w2 cs1).setRow (w.heap.size + 1 + 1) cs1).heap[g]? = w.heap[g]? := fun g hg => by
    have hlt := HK0.out g hg
    have n0 := N0.out
    have n1 := N1.out
    exact (setRow_other _ _ _ _ (by omega)).trans (((W2.bel w2 cs1).block g (by omega)).trans ((B2.out.block g (by omega)).trans ((K1H.out g (hg.imp (fun h => .inl h) id)).trans (B0.out.block g hlt))))
  rw [← HV.out] at HF HB HX HKG
  refine bodyPost_ret (v := .tuple #[.agg cs1, .bool true]) ?_ rfl ⟨cs1, rfl, HF.less (fun g hg => .inl hg), HB, HKG⟩
  exact res10 _ _ (w.heap.size + 1 + 1) cs1 _ rfl rfl HX (by rw [H2.out.size]; exact info33)
end Go.Proofs.Ytpihoegikojlaaa
