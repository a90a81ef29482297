/- Texts of the proof, one behind the other. -/
import Derived.Test.YtdebedeebmmleaaGreatDoorTp27
import Derived.Test.YtdebedeebmmleaaGreatDoorTp21
import Derived.Test.YtdebedeebmmleaaGreatDoorTp01
import Derived.Test.YtdebedeebmmleaaGreatDoorTp05
import Derived.Recover
import Derived.Defers
set_option linter.unusedVariables false
set_option linter.unusedSimpArgs false
namespace Go.Proofs.YtdebedeebmmleaaGreatDoor
open Go.RowKit Go.Maps
/-- A node with short texts. -/
structure ShN (y : NdV) : Prop where
  p : ∀ t ∈ y.piv, t.size ≤ 300
  m : ∀ m ∈ y.ms, m.key.size ≤ 300 ∧ m.too.size ≤ 300 ∧ m.val.size ≤ 300
  b : ∀ l ∈ y.bl, ∀ e ∈ l, e.key.size ≤ 300 ∧ e.val.size ≤ 300
def ShP (ys : List NdV) (e : Ending) : Prop := ∃ b, e = .returned (.bool b) ∧ (b = true → ∀ y ∈ ys, ShN y)
theorem shp_no {ys : List NdV} : ShP ys (.returned (.bool false)) := ⟨false, rfl, fun h => by cases h⟩
set_option maxHeartbeats 8000000 in
set_option maxRecDepth 100000 in
theorem short_any (A : Option Addr) (n c : Nat) (ns : List NC) (ys : List NdV) (w : World) (hT : NT w A ns ys) (hl : ys.length = n) (hn : n ≤ 40) (hS : ∀ y ∈ ys, SmN y) :
    Calls Tryz.prog 17 #[.agg #[.slice A n c]] w fun e w' => ShP ys e ∧ Below w.heap.size w w' := by
  have HT := Lib.hid hT
  have HL := Lib.hid (And.intro hl hn)
  have HS := Lib.hid hS
  obtain ⟨W0, hW0⟩ : ∃ W0, W0 = w.alloc (.cells #[.slice A n c] 24) := ⟨_, rfl⟩
  have B0 := Lib.hid (show Below w.heap.size w W0 by rw [hW0]; exact alb w _)
  have Z0 := Lib.hid (show W0.heap[w.heap.size]? = some (.cells #[.slice A n c] 24 (0, 0)) by rw [hW0]; exact heap_alloc_new w _)
  have c0 : W0.cell? ⟨w.heap.size, 0, none⟩ = some (.slice A n c) := cellh Z0.out rfl
  clear hT hl hn hS
  go_enter Tryz.func17, Tryz.ntmps17
  go_upto_region 1 with fail
  rw [← hW0]
  clear hW0
  go_upto_region 2 with fail
  clear c0
  go_loopw [3, 4, 5, 6, 7, 8] (fun iv _ _ _ _ _ wr => ∃ i : Nat, i ≤ n ∧ iv = .int .i64 i ∧ Hid (∀ y ∈ ys.take i, ShN y) ∧ Below W0.heap.size W0 wr) (fun iv _ _ _ _ _ _ => n - (intOf iv).toNat)
  case atStart => exact ⟨0, by omega, rfl, Lib.hid (by simp), Below.refl _ _⟩
  case round =>
    rename World => w4
    obtain ⟨i, hi, rfl, HSH, hb⟩ := hrel
    have HB := Lib.hid hb
    clear hb
    have BW := Lib.hid (bel_trans B0.out HB.out)
    have hnn := HL.out
    have c0 : w4.cell? ⟨w.heap.size, 0, none⟩ = some (.slice A n c) := cellh (keep_bel HB.out Z0.out) rfl
    by_cases h8 : i < n
    · have q1 : (i : Int) < (n : Int) := by omega
      have q0 : (0 : Int) ≤ (i : Int) := by omega
      have WK : IntKind.i64.wrap ((i : Int) + 1) = (i : Int) + 1 := IntWalk.i64_in _ (by omega)
      obtain ⟨y, hy⟩ : ∃ y, ys[i]? = some y := ⟨_, List.getElem?_eq_getElem (by omega)⟩
      obtain ⟨x, hx⟩ : ∃ x, ns[i]? = some x := ⟨_, List.getElem?_eq_getElem (by have := HT.out.l; omega)⟩
      obtain ⟨hs, hN⟩ := HT.out.e i x y hx hy
      have hsm := HS.out y (List.mem_of_getElem? hy)
      obtain ⟨b2, off, hA, hlt, g0, g1, g2, g3, g4⟩ := en_at (HT.out.r.later BW.out) hx
      rw [hA] at c0
      obtain ⟨np, hnp⟩ : ∃ n, n = y.piv.length := ⟨_, rfl⟩
      obtain ⟨nm, hnm⟩ : ∃ n, n = y.ms.length := ⟨_, rfl⟩
      obtain ⟨nl, hnl⟩ : ∃ n, n = y.bl.length := ⟨_, rfl⟩
      have HNN := Lib.hid (show (np = y.piv.length ∧ nm = y.ms.length ∧ nl = y.bl.length ∧ nl = hs.length) ∧ np ≤ 20 ∧ nm ≤ 40 ∧ nl ≤ 20 from ⟨⟨hnp, hnm, hnl, by rw [hnl, hN.b.2.2.1]⟩, by rw [hnp]; exact hsm.p, by rw [hnm]; exact hsm.m, by rw [hnl]; exact hsm.b⟩)
      have HSL := Lib.hid hsm.l
      have HX := Lib.hid hy
      obtain ⟨W5, hW5⟩ : ∃ W5, W5 = w4.alloc (nodeO x) := ⟨_, rfl⟩
      have B5 := Lib.hid (show Below W0.heap.size W0 W5 by rw [hW5]; exact bel_alloc HB.out _)
      have Z5 := Lib.hid (show W5.heap[w4.heap.size]? = some (nodeO x) by rw [hW5]; exact heap_alloc_new w4 _)
      have BW5 := Lib.hid (bel_trans B0.out B5.out)
      have HNR := Lib.hid (hN.later BW5.out)
      have UP := Lib.hid (fun V (h : Below W5.heap.size W5 V) => (show V.cell? ⟨w4.heap.size, 1, none⟩ = some (.slice x.p.A np x.p.c) ∧ V.cell? ⟨w4.heap.size, 3, none⟩ = some (.slice x.m.A nm x.m.c) ∧ V.cell? ⟨w4.heap.size, 4, none⟩ = some (.slice x.b.A nl x.b.c) by
        obtain ⟨a0, a1, a2, a3, a4⟩ := cells5 (keep_bel h Z5.out)
        exact ⟨by rw [hnp, ← hN.p.1]; exact a1, by rw [hnm, ← hN.m.1]; exact a3, by rw [hnl, ← hN.b.2.2.1, ← hN.b.1]; exact a4⟩))
      clear hx hy hN hA hlt hnp hnm hnl hnn hsm
      go_upto_region 6 with fail
      rw [← hW5]
      clear hW5 g0 g1 g2 g3 g4 c0
      go_loopw [5] (fun jv wr => ∃ j : Nat, j ≤ np ∧ jv = .int .i64 j ∧ Hid (∀ t ∈ y.piv.take j, t.size ≤ 300) ∧ Below W5.heap.size W5 wr) (fun jv _ => np - (intOf jv).toNat)
      case atStart => exact ⟨0, by omega, rfl, Lib.hid (by simp), Below.refl _ _⟩
      case round =>
        rename World => w6
        obtain ⟨j, hj, rfl, HPS, hb⟩ := hrel
        have HB6 := Lib.hid hb
        clear hb
        obtain ⟨c1, c3, c4⟩ := UP.out w6 HB6.out
        have hnn := HNN.out
        by_cases h9 : j < np
        · have j1 : (j : Int) < (np : Int) := by omega
          have j0 : (0 : Int) ≤ (j : Int) := by omega
          have WJ : IntKind.i64.wrap ((j : Int) + 1) = (j : Int) + 1 := IntWalk.i64_in _ (by omega)
          obtain ⟨t, ht⟩ : ∃ u, y.piv[j]? = some u := ⟨_, List.getElem?_eq_getElem (by omega)⟩
          obtain ⟨b3, off3, hA3, hlt3, g0⟩ := es_at (HNR.out.p.2.later HB6.out) ht
          rw [hA3] at c1
          have HT3 := Lib.hid ht
          clear ht hA3 hlt3 hnn c3 c4
          by_cases h5 : t.size ≤ 300
          · have e5 : ¬ (300 : Int) < (t.size : Int) := by omega
            have HPN := Lib.hid (mem_next (P := fun t : ByteArray => t.size ≤ 300) HPS.out HT3.out h5)
            clear h5
            go_wp2
            exact ⟨⟨j + 1, by omega, by simp, HPN, HB6.out⟩, by simp [intOf]; omega⟩
          · have e5 : (300 : Int) < (t.size : Int) := by omega
            clear h5
            go_wp2
            go_ret
            exact ⟨shp_no, bel_trans BW5.out HB6.out⟩
        · have hje : j = np := by omega
          subst hje
          have j1 : ¬ (j : Int) < (j : Int) := by omega
          have HPA := Lib.hid (show ∀ t ∈ y.piv, t.size ≤ 300 by have h := HPS.out; rw [List.take_of_length_le (by omega)] at h; exact h)
          clear hnn c3 c4
          go_upto_region 11 with fail
          clear c1
          go_loopw [6] (fun jv wr => ∃ q : Nat, q ≤ nm ∧ jv = .int .i64 q ∧ Hid (∀ m ∈ y.ms.take q, m.key.size ≤ 300 ∧ m.too.size ≤ 300 ∧ m.val.size ≤ 300) ∧ Below W5.heap.size W5 wr) (fun jv _ => nm - (intOf jv).toNat)
          case atStart => exact ⟨0, by omega, rfl, Lib.hid (by simp), HB6.out⟩
          case round =>
            rename World => w7
            obtain ⟨q, hq, rfl, HMS, hb⟩ := hrel
            have HB7 := Lib.hid hb
            clear hb
            obtain ⟨c1, c3, c4⟩ := UP.out w7 HB7.out
            have hnn := HNN.out
            by_cases h10 : q < nm
            · have j2 : (q : Int) < (nm : Int) := by omega
              have j3 : (0 : Int) ≤ (q : Int) := by omega
              have WQ : IntKind.i64.wrap ((q : Int) + 1) = (q : Int) + 1 := IntWalk.i64_in _ (by omega)
              obtain ⟨m0, hm0⟩ : ∃ u, y.ms[q]? = some u := ⟨_, List.getElem?_eq_getElem (by omega)⟩
              obtain ⟨b4, off4, hA4, hlt4, e0, e1, e2, e3, e4, e5⟩ := em_at (HNR.out.m.2.later HB7.out) hm0
              rw [hA4] at c3
              have HM0 := Lib.hid hm0
              clear hm0 hA4 hlt4 hnn c1 c4
              by_cases h1 : m0.key.size ≤ 300
              · have f1 : ¬ (300 : Int) < (m0.key.size : Int) := by omega
                by_cases h2 : m0.too.size ≤ 300
                · have f2 : ¬ (300 : Int) < (m0.too.size : Int) := by omega
                  by_cases h3 : m0.val.size ≤ 300
                  · have f3 : ¬ (300 : Int) < (m0.val.size : Int) := by omega
                    have HMN := Lib.hid (mem_next (P := fun m : M => m.key.size ≤ 300 ∧ m.too.size ≤ 300 ∧ m.val.size ≤ 300) HMS.out HM0.out ⟨h1, h2, h3⟩)
                    clear h1 h2 h3
                    go_wp2
                    exact ⟨⟨q + 1, by omega, by simp, HMN, HB7.out⟩, by simp [intOf]; omega⟩
                  · have f3 : (300 : Int) < (m0.val.size : Int) := by omega
                    clear h1 h2 h3
                    go_wp2
                    go_ret
                    exact ⟨shp_no, bel_trans BW5.out HB7.out⟩
                · have f2 : (300 : Int) < (m0.too.size : Int) := by omega
                  clear h1 h2
                  go_wp2
                  go_ret
                  exact ⟨shp_no, bel_trans BW5.out HB7.out⟩
              · have f1 : (300 : Int) < (m0.key.size : Int) := by omega
                clear h1
                go_wp2
                go_ret
                exact ⟨shp_no, bel_trans BW5.out HB7.out⟩
            · have hqe : q = nm := by omega
              subst hqe
              have j2 : ¬ (q : Int) < (q : Int) := by omega
              have HMA := Lib.hid (show ∀ m ∈ y.ms, m.key.size ≤ 300 ∧ m.too.size ≤ 300 ∧ m.val.size ≤ 300 by have h := HMS.out; rw [List.take_of_length_le (by omega)] at h; exact h)
              clear hnn c1 c4
              go_upto_region 16 with fail
              clear c3
              go_loopw [7, 8] (fun jv _ wr => ∃ k : Nat, k ≤ nl ∧ jv = .int .i64 k ∧ Hid (∀ l ∈ y.bl.take k, ∀ e ∈ l, e.key.size ≤ 300 ∧ e.val.size ≤ 300) ∧ Below W5.heap.size W5 wr) (fun jv _ _ => nl - (intOf jv).toNat)
              case atStart => exact ⟨0, by omega, rfl, Lib.hid (by simp), HB7.out⟩
              case round =>
                rename World => w8
                obtain ⟨k, hk, rfl, HLS, hb⟩ := hrel
                have HB8 := Lib.hid hb
                clear hb
                obtain ⟨c1, c3, c4⟩ := UP.out w8 HB8.out
                have hnn := HNN.out
                by_cases h11 : k < nl
                · have j4 : (k : Int) < (nl : Int) := by omega
                  have j5 : (0 : Int) ≤ (k : Int) := by omega
                  have WB3 : IntKind.i64.wrap ((k : Int) + 1) = (k : Int) + 1 := IntWalk.i64_in _ (by omega)
                  have hbN := HNR.out.b
                  obtain ⟨l0, hl0⟩ : ∃ u, y.bl[k]? = some u := ⟨_, List.getElem?_eq_getElem (by omega)⟩
                  obtain ⟨h0, hh0⟩ : ∃ u, hs[k]? = some u := ⟨_, List.getElem?_eq_getElem (by omega)⟩
                  obtain ⟨b3, off3, hA3, hlt3, g00⟩ := eh_at hbN.2.1 hh0
                  obtain ⟨r1, r2⟩ := hbN.2.2.2 k h0 l0 hh0 hl0
                  obtain ⟨m, hm⟩ : ∃ m, m = l0.length := ⟨_, rfl⟩
                  rw [r1, ← hm] at g00
                  have HCC := Lib.hid (fun V (h : Below W5.heap.size W5 V) => (show V.cell? ⟨w4.heap.size, 4, none⟩ = some (.slice (some ⟨b3, off3, none⟩) nl x.b.c) ∧ V.cell? ⟨b3, off3 + k, none⟩ = some (.slice h0.A m h0.c) from ⟨by rw [← hA3]; exact (UP.out V h).2.2, bel_later h g00⟩))
                  rw [hA3] at c4
                  have HR0 := Lib.hid r2
                  have HM := Lib.hid (show m = l0.length ∧ m ≤ 20 from ⟨hm, by rw [hm]; exact HSL.out l0 (List.mem_of_getElem? hl0)⟩)
                  have HLK := Lib.hid hl0
                  clear hbN hl0 hh0 hA3 hlt3 r1 r2 hm hnn c1 c3 g00
                  go_upto_region 19 with fail
                  clear c4
                  go_loopw [8] (fun jv wr => ∃ p : Nat, p ≤ m ∧ jv = .int .i64 p ∧ Hid (∀ e ∈ l0.take p, e.key.size ≤ 300 ∧ e.val.size ≤ 300) ∧ Below W5.heap.size W5 wr) (fun jv _ => m - (intOf jv).toNat)
                  case atStart => exact ⟨0, by omega, rfl, Lib.hid (by simp), HB8.out⟩
                  case round =>
                    rename World => w9
                    obtain ⟨p, hp, rfl, HES, hb⟩ := hrel
                    have HB9 := Lib.hid hb
                    clear hb
                    obtain ⟨c4, g0⟩ := HCC.out w9 HB9.out
                    have hmm := HM.out
                    by_cases h12 : p < m
                    · have j6 : (p : Int) < (m : Int) := by omega
                      have j7 : (0 : Int) ≤ (p : Int) := by omega
                      have WP : IntKind.i64.wrap ((p : Int) + 1) = (p : Int) + 1 := IntWalk.i64_in _ (by omega)
                      obtain ⟨e0, he0⟩ : ∃ u, l0[p]? = some u := ⟨_, List.getElem?_eq_getElem (by omega)⟩
                      obtain ⟨b4, o4, hA4, hlt4, e1, e2⟩ := ee_at (HR0.out.later HB9.out) he0
                      rw [hA4] at g0
                      have HE0 := Lib.hid he0
                      clear he0 hA4 hlt4 hmm
                      by_cases h1 : e0.key.size ≤ 300
                      · have f1 : ¬ (300 : Int) < (e0.key.size : Int) := by omega
                        by_cases h2 : e0.val.size ≤ 300
                        · have f2 : ¬ (300 : Int) < (e0.val.size : Int) := by omega
                          have HEN := Lib.hid (mem_next (P := fun e : EnV => e.key.size ≤ 300 ∧ e.val.size ≤ 300) HES.out HE0.out ⟨h1, h2⟩)
                          clear h1 h2
                          go_wp2
                          exact ⟨⟨p + 1, by omega, by simp, HEN, HB9.out⟩, by simp [intOf]; omega⟩
                        · have f2 : (300 : Int) < (e0.val.size : Int) := by omega
                          clear h1 h2
                          go_wp2
                          go_ret
                          exact ⟨shp_no, bel_trans BW5.out HB9.out⟩
                      · have f1 : (300 : Int) < (e0.key.size : Int) := by omega
                        clear h1
                        go_wp2
                        go_ret
                        exact ⟨shp_no, bel_trans BW5.out HB9.out⟩
                    · have hpe : p = m := by omega
                      subst hpe
                      have j6 : ¬ (p : Int) < (p : Int) := by omega
                      have HLN := Lib.hid (mem_next (P := fun l : List EnV => ∀ e ∈ l, e.key.size ≤ 300 ∧ e.val.size ≤ 300) HLS.out HLK.out (by have h := HES.out; rw [List.take_of_length_le (by omega)] at h; exact h))
                      clear hmm
                      go_wp2
                      exact ⟨⟨k + 1, by omega, by simp, HLN, HB9.out⟩, by simp [intOf]; omega⟩
                · have hke : k = nl := by omega
                  subst hke
                  have j4 : ¬ (k : Int) < (k : Int) := by omega
                  have HSN := Lib.hid (mem_next (P := ShN) HSH.out HX.out ⟨HPA.out, HMA.out, by have h := HLS.out; rw [List.take_of_length_le (by omega)] at h; exact h⟩)
                  clear hnn c1 c3
                  go_wp2
                  exact ⟨⟨i + 1, by omega, by simp, HSN, bel_trans B5.out HB8.out⟩, by simp [intOf]; omega⟩
    · have hie : i = n := by omega
      subst hie
      have q1 : ¬ (i : Int) < (i : Int) := by omega
      have HSN := Lib.hid (show ∀ y ∈ ys, ShN y by have h1 := HSH.out; rw [List.take_of_length_le (by omega)] at h1; exact h1)
      clear hnn
      go_wp2
      go_ret
      exact ⟨⟨true, rfl, fun _ => HSN.out⟩, BW.out⟩
end Go.Proofs.YtdebedeebmmleaaGreatDoor
namespace Go.Proofs.YtdebedeebmmleaaGreatDoor
open Go.RowKit Go.Maps
variable {nV aV : Value}
def zC : NC := ⟨0, ⟨none, 0, 0⟩, ⟨none, 0, 0⟩, ⟨none, 0, 0⟩, ⟨none, 0, 0⟩⟩
def zeroC (n : Nat) : List NC := List.replicate n zC
theorem made_get (z : Array Value) (n i : Nat) (h : i < n) : (madeCells z n).toList[i]? = some z[i % z.size]! := by
  unfold madeCells
  simp [h]
theorem made_nodes (n : Nat) : madeCells (#[.int .u8 0, .slice none 0 0, .slice none 0 0, .slice none 0 0, .slice none 0 0] : Array Value) (n * 5) = (EN.all (zeroC n)).toArray := by
  have hall : (EN.all (zeroC n)).length = n * 5 := by rw [RE.all_len]; show (zeroC n).length * 5 = _; unfold zeroC; rw [List.length_replicate]
  apply Array.ext'
  rw [List.toList_toArray]
  apply List.ext_getElem?
  intro i
  by_cases hi : i < n * 5
  · have hz : (zeroC n)[i / 5]? = some zC := by
      unfold zeroC
      rw [List.getElem?_replicate, if_pos (by omega)]
    have hu : ∃ u, (EN.cs zC)[i % 5]? = some u ∧ (#[.int .u8 0, .slice none 0 0, .slice none 0 0, .slice none 0 0, .slice none 0 0] : Array Value)[i % 5]! = u := by
      have : i % 5 = 0 ∨ i % 5 = 1 ∨ i % 5 = 2 ∨ i % 5 = 3 ∨ i % 5 = 4 := by omega
      rcases this with h | h | h | h | h <;> rw [h] <;> exact ⟨_, rfl, rfl⟩
    obtain ⟨u, h1, h2⟩ := hu
    have hg := EN.all_get hz h1
    have e : i / 5 * EN.k + i % 5 = i := by show i / 5 * 5 + i % 5 = i; omega
    rw [e] at hg
    rw [hg]
    rw [made_get _ _ _ hi]
    exact congrArg some h2
  · rw [List.getElem?_eq_none (by rw [Array.length_toList, size_madeCells]; omega), List.getElem?_eq_none (by first | (rw [hall]; omega) | (rw [List.size_toArray, hall]; omega) | (simp; omega))]
theorem run_nodes (n : Nat) (hn : n ≤ 4097) (W : World) : (Instr.makeSlice 22 (.int .i64 (n : Int)) (.int .i64 (n : Int))).run Tryz.prog W = .ok (.slice (some ⟨W.heap.size, 0, none⟩) n n) (W.alloc (.cells (EN.all (zeroC n)).toArray 44)) := by
  obtain ⟨i0, hI0, hI1, hI2, hI3⟩ := EN.parts
  have h := run_make (P := Tryz.prog) W 22 44 i0 EN.z Tryz.underlying22 hI0 hI1 .i64 .i64 (n : Int) (n : Int) (by omega) (by omega) (by rw [hI3]; show ((104 : Nat) : Int) * _ ≤ _; omega) (by omega)
  rw [h, hI2, Int.toNat_natCast, ← made_nodes]
  rfl
/-- What the head makes. -/
def RHd (B g : Nat) (aV : Value) (u : ByteArray) (r : Except Int Nat) (w : World) (e : Ending) (w' : World) : Prop :=
  (match r with
  | .error er => e = .panicked [FP 1 er]
  | .ok n => e = .returned (.tuple #[]) ∧ ∃ nb, w.heap.size ≤ nb ∧ NB w' nb (zeroC n) ∧ RB (.slice (some ⟨nb, 0, none⟩) n n) aV w' g u 1) ∧ Chg (fun x => x = g) w w'
section
variable {B g : Nat} {t u : ByteArray} {w : World} {ws : List ByteArray}
set_option maxHeartbeats 1000000 in
set_option maxRecDepth 100000 in
theorem head_none (hr : RB nV aV w g t 0) (hb : GB B w) (hg : B ≤ g) (ht : t.size ≤ 4000000) (hn : nextF t = none) :
    Calls Tryz.prog 31 #[.pointer (some ⟨g, 0, none⟩)] w fun e w' => e = .panicked [FP 1 5] ∧ Chg (fun x => x = g) w w' := by
  have NX := Lib.hid (next_bad hr hb hg ht (by omega) hn)
  clear hr hb ht hn
  go_enter Tryz.func31, Tryz.ntmps31
  go_wp2_with (first
    | (go_at_call 33; ((with_reducible refine NX.out.mono ?_); rintro e w1 ⟨rfl, c1⟩; have C1 := Lib.hid c1; clear c1))
    | fail)
  exact ⟨rfl, rfl, C1.out⟩
set_option maxHeartbeats 1000000 in
set_option maxRecDepth 100000 in
theorem head_word (hr : RB nV aV w g t 0) (hb : GB B w) (hg : B ≤ g) (ht : t.size ≤ 4000000) (hn : nextF t = some (ws, u)) (h0 : ¬ ws[0]? = some wTree) :
    Calls Tryz.prog 31 #[.pointer (some ⟨g, 0, none⟩)] w fun e w' => e = .panicked [FP 1 3] ∧ Chg (fun x => x = g) w w' := by
  have NX := Lib.hid (next_ok hr hb hg ht (by omega) hn)
  obtain ⟨hw, _⟩ := next_facts hn
  have hw0 := wd_at hw
  obtain ⟨x0, hx0⟩ : ∃ x0, wdA ws 0 = x0 := ⟨_, rfl⟩
  rw [hx0] at hw0
  have d1 : (x0.toList == [116, 114, 101, 101]) = false := lit_ne (fun e => h0 (by rw [hw0]; exact congrArg some (ba_inj e)))
  have HW := Lib.hid (And.intro hw hx0)
  clear hr hb ht hn h0 hw hw0 hx0
  go_enter Tryz.func31, Tryz.ntmps31
  go_wp2_with (first
    | (go_at_call 33; ((with_reducible refine NX.out.mono ?_); rintro e w1 ⟨b1, n1, rfl, h1, h2, h3, h4, h5⟩; have C1 := Lib.hid h5; have R1 := Lib.hid h4; have k0 : (0 : Int) < (n1 : Int) := by { have := HW.out.1; omega }; have c0 := wd_cell h3 (i := 0) (by have := HW.out.1; omega); rw [HW.out.2] at c0; clear h1 h2 h3 h4 h5))
    | (go_at_call 51; ((with_reducible refine (check_bad g 3 _ R1.out).mono ?_); rintro e w4 ⟨rfl, rfl⟩))
    | fail)
  exact ⟨rfl, rfl, C1.out⟩
set_option maxHeartbeats 1000000 in
set_option maxRecDepth 100000 in
theorem head_len (hr : RB nV aV w g t 0) (hb : GB B w) (hg : B ≤ g) (ht : t.size ≤ 4000000) (hn : nextF t = some (ws, u)) (h0 : ws[0]? = some wTree) (hl : ¬ ws.length = 2) :
    Calls Tryz.prog 31 #[.pointer (some ⟨g, 0, none⟩)] w fun e w' => e = .panicked [FP 1 3] ∧ Chg (fun x => x = g) w w' := by
  have NX := Lib.hid (next_ok hr hb hg ht (by omega) hn)
  obtain ⟨hw, _⟩ := next_facts hn
  have hw0 := wd_at hw
  rw [h0] at hw0
  injection hw0 with hw0
  have HW := Lib.hid (And.intro hw (And.intro hw0 hl))
  clear hr hb ht hn h0 hl hw hw0
  go_enter Tryz.func31, Tryz.ntmps31
  go_wp2_with (first
    | (go_at_call 33; ((with_reducible refine NX.out.mono ?_); rintro e w1 ⟨b1, n1, rfl, h1, h2, h3, h4, h5⟩; have C1 := Lib.hid h5; have R1 := Lib.hid h4; have k0 : (0 : Int) < (n1 : Int) := by { have := HW.out.1; omega }; have k2 : ((n1 : Int) == 2) = false := beq_eq_false_iff_ne.2 (by have := HW.out.2.2; omega); have c0 := wd_cell h3 (i := 0) (by have := HW.out.1; omega); rw [← HW.out.2.1] at c0; clear h1 h2 h3 h4 h5))
    | (go_at_call 51; ((with_reducible refine (check_bad g 3 _ R1.out).mono ?_); rintro e w4 ⟨rfl, rfl⟩))
    | fail)
  exact ⟨rfl, rfl, C1.out⟩
set_option maxHeartbeats 1000000 in
set_option maxRecDepth 100000 in
theorem head_num (hr : RB nV aV w g t 0) (hb : GB B w) (hg : B ≤ g) (ht : t.size ≤ 4000000) (hn : nextF t = some (ws, u)) (h0 : ws[0]? = some wTree) (hl : ws.length = 2) (hv : rgB 0 2147483647 (wdA ws 1) = none) :
    Calls Tryz.prog 31 #[.pointer (some ⟨g, 0, none⟩)] w fun e w' => e = .panicked [FP 1 3] ∧ Chg (fun x => x = g) w w' := by
  have NX := Lib.hid (next_ok hr hb hg ht (by omega) hn)
  obtain ⟨hw, _, hsz, _⟩ := next_facts hn
  have hw0 := wd_at hw
  rw [h0] at hw0
  injection hw0 with hw0
  have HW := Lib.hid (And.intro hw (And.intro hw0 hl))
  have HV := Lib.hid hv
  have HSZ := Lib.hid (Nat.le_trans (wda_sz hsz 1) ht)
  have HB := Lib.hid hb
  clear hr hb ht hn h0 hl hw hw0 hv hsz
  go_enter Tryz.func31, Tryz.ntmps31
  go_wp2_with (first
    | (go_at_call 33; ((with_reducible refine NX.out.mono ?_); rintro e w1 ⟨b1, n1, rfl, h1, h2, h3, h4, h5⟩; have C1 := Lib.hid h5; have R1 := Lib.hid h4; have k0 : (0 : Int) < (n1 : Int) := by { have := HW.out.1; omega }; have k1 : (1 : Int) < (n1 : Int) := by { have := HW.out.2.2; omega }; have k2 : ((n1 : Int) == 2) = true := by { have := HW.out.2.2; have e : n1 = 2 := (by omega); rw [e]; rfl }; have c0 := wd_cell h3 (i := 0) (by have := HW.out.1; omega); rw [← HW.out.2.1] at c0; have c1 := wd_cell h3 (i := 1) (by have := HW.out.2.2; omega); have RG := Lib.hid (rnumber_any 0 2147483647 h4 (HB.out.chg h5 hg) HSZ.out); rw [HV.out] at RG; clear h1 h2 h3 h4 h5))
    | (go_at_call 51; ((with_reducible refine (check_ok g 3 _).mono ?_); rintro e w4 ⟨rfl, rfl⟩))
    | (go_at_call 52; ((with_reducible refine RG.out.mono ?_); rintro e w5 ⟨rfl, b5⟩; have C5 := Lib.hid (C1.out.later b5); clear b5))
    | fail)
  exact ⟨rfl, rfl, C5.out⟩
set_option maxHeartbeats 1000000 in
set_option maxRecDepth 100000 in
theorem head_many (hr : RB nV aV w g t 0) (hb : GB B w) (hg : B ≤ g) (ht : t.size ≤ 4000000) (hn : nextF t = some (ws, u)) (h0 : ws[0]? = some wTree) (hl : ws.length = 2) {v : Int} (hv : rgB 0 2147483647 (wdA ws 1) = some v) (hm : ¬ v ≤ 4097) :
    Calls Tryz.prog 31 #[.pointer (some ⟨g, 0, none⟩)] w fun e w' => e = .panicked [FP 1 4] ∧ Chg (fun x => x = g) w w' := by
  have NX := Lib.hid (next_ok hr hb hg ht (by omega) hn)
  obtain ⟨hw, _, hsz, _⟩ := next_facts hn
  have hw0 := wd_at hw
  rw [h0] at hw0
  injection hw0 with hw0
  have HW := Lib.hid (And.intro hw (And.intro hw0 hl))
  have HV := Lib.hid hv
  have HSZ := Lib.hid (Nat.le_trans (wda_sz hsz 1) ht)
  have HB := Lib.hid hb
  have dm : decide (v ≤ 4097) = false := by simp; omega
  clear hr hb ht hn h0 hl hw hw0 hv hsz
  go_enter Tryz.func31, Tryz.ntmps31
  go_wp2_with (first
    | (go_at_call 33; ((with_reducible refine NX.out.mono ?_); rintro e w1 ⟨b1, n1, rfl, h1, h2, h3, h4, h5⟩; have C1 := Lib.hid h5; have R1 := Lib.hid h4; have k0 : (0 : Int) < (n1 : Int) := by { have := HW.out.1; omega }; have k1 : (1 : Int) < (n1 : Int) := by { have := HW.out.2.2; omega }; have k2 : ((n1 : Int) == 2) = true := by { have := HW.out.2.2; have e : n1 = 2 := (by omega); rw [e]; rfl }; have c0 := wd_cell h3 (i := 0) (by have := HW.out.1; omega); rw [← HW.out.2.1] at c0; have c1 := wd_cell h3 (i := 1) (by have := HW.out.2.2; omega); have RG := Lib.hid (rnumber_any 0 2147483647 h4 (HB.out.chg h5 hg) HSZ.out); rw [HV.out] at RG; clear h1 h2 h3 h4 h5))
    | (go_at_call 51; ((with_reducible refine (check_ok g 3 _).mono ?_); rintro e w4 ⟨rfl, rfl⟩))
    | (go_at_call 52; ((with_reducible refine RG.out.mono ?_); rintro e w5 ⟨rfl, b5⟩; have C5 := Lib.hid (C1.out.later b5); have R5 := Lib.hid (R1.out.later b5); clear b5))
    | (go_at_call 51; ((with_reducible refine (check_bad g 4 _ R5.out).mono ?_); rintro e w6 ⟨rfl, rfl⟩))
    | fail)
  exact ⟨rfl, rfl, C5.out⟩
set_option maxHeartbeats 1000000 in
set_option maxRecDepth 100000 in
theorem head_ok (hr : RB nV aV w g t 0) (hb : GB B w) (hg : B ≤ g) (ht : t.size ≤ 4000000) (hn : nextF t = some (ws, u)) (h0 : ws[0]? = some wTree) (hl : ws.length = 2) {n : Nat} (hv : rgB 0 2147483647 (wdA ws 1) = some (n : Int)) (hm : n ≤ 4097) :
    Calls Tryz.prog 31 #[.pointer (some ⟨g, 0, none⟩)] w fun e w' => (e = .returned (.tuple #[]) ∧ ∃ nb, w.heap.size ≤ nb ∧ NB w' nb (zeroC n) ∧ RB (.slice (some ⟨nb, 0, none⟩) n n) aV w' g u 1) ∧ Chg (fun x => x = g) w w' := by
  have NX := Lib.hid (next_ok hr hb hg ht (by omega) hn)
  obtain ⟨hw, _, hsz, _⟩ := next_facts hn
  have hw0 := wd_at hw
  rw [h0] at hw0
  injection hw0 with hw0
  have HW := Lib.hid (And.intro hw (And.intro hw0 hl))
  have HV := Lib.hid hv
  have HSZ := Lib.hid (Nat.le_trans (wda_sz hsz 1) ht)
  have HB := Lib.hid hb
  have HGL := Lib.hid hr.lt
  have HM := Lib.hid hm
  have km : (n : Int) ≤ 4097 := by omega
  clear hr hb ht hn h0 hl hw hw0 hv hsz hm
  go_enter Tryz.func31, Tryz.ntmps31
  go_upto_region 4 with (first
    | (go_at_call 33; ((with_reducible refine NX.out.mono ?_); rintro e w1 ⟨b1, n1, rfl, h1, h2, h3, h4, h5⟩; have C1 := Lib.hid h5; have R1 := Lib.hid h4; have k0 : (0 : Int) < (n1 : Int) := by { have := HW.out.1; omega }; have k1 : (1 : Int) < (n1 : Int) := by { have := HW.out.2.2; omega }; have k2 : ((n1 : Int) == 2) = true := by { have := HW.out.2.2; have e : n1 = 2 := (by omega); rw [e]; rfl }; have c0 := wd_cell h3 (i := 0) (by have := HW.out.1; omega); rw [← HW.out.2.1] at c0; have c1 := wd_cell h3 (i := 1) (by have := HW.out.2.2; omega); have RG := Lib.hid (rnumber_any 0 2147483647 h4 (HB.out.chg h5 hg) HSZ.out); rw [HV.out] at RG; clear h1 h2 h3 h4 h5))
    | (go_at_call 51; ((with_reducible refine (check_ok g 3 _).mono ?_); rintro e w4 ⟨rfl, rfl⟩))
    | (go_at_call 52; ((with_reducible refine RG.out.mono ?_); rintro e w5 ⟨rfl, b5⟩; have C5 := Lib.hid (C1.out.later b5); have R5 := Lib.hid (R1.out.later b5); clear b5))
    | (go_at_call 51; ((with_reducible refine (check_ok g 4 _).mono ?_); rintro e w6 ⟨rfl, rfl⟩))
    | fail)
  have mk := run_nodes n HM.out w5
  have RA := Lib.hid (R5.out.later (alb w5 (.cells (EN.all (zeroC n)).toArray 44)))
  have a2 := RA.out.c2
  have f2 := RA.out.fr 2
  have NA := Lib.hid (show NB (w5.alloc (.cells (EN.all (zeroC n)).toArray 44)) w5.heap.size (zeroC n) from heap_alloc_new w5 _)
  have CA := Lib.hid (C5.out.later (alb w5 (.cells (EN.all (zeroC n)).toArray 44)))
  clear k0 k1 k2 c0 c1 km
  obtain ⟨O, hO⟩ : ∃ O, O = Obj.cells (EN.all (zeroC n)).toArray 44 := ⟨_, rfl⟩
  rw [← hO] at mk RA a2 f2 NA CA
  clear hO
  go_wp2
  have hne : ¬ w5.heap.size = g := by have := HGL.out; have := C5.out.size; omega
  have SG := Chg.set (D := fun x => x = g) (w5.alloc O) (l := g) (o := 2) (.slice (some ⟨w5.heap.size, 0, none⟩) n n) rfl
  refine ⟨rfl, .tuple #[], by simp [results, go_sem, Tryz.f31], ?_⟩
  exact ⟨⟨rfl, _, C5.out.size, NA.out.chg SG (fun e => hne e), RA.out.set2 _⟩, CA.out.then SG⟩
theorem head_any (hr : RB nV aV w g t 0) (hb : GB B w) (hg : B ≤ g) (ht : t.size ≤ 4000000) (hn : nextF t = some (ws, u)) :
    Calls Tryz.prog 31 #[.pointer (some ⟨g, 0, none⟩)] w (RHd B g aV u (headF ws) w) := by
  unfold headF
  by_cases h0 : ws[0]? = some wTree
  · by_cases hl : ws.length = 2
    · rw [if_pos ⟨h0, hl⟩]
      cases hv : rgB 0 2147483647 (wdA ws 1) with
      | none => exact head_num hr hb hg ht hn h0 hl hv
      | some v =>
        simp only
        by_cases hm : v ≤ 4097
        · rw [if_pos hm]
          have hi := rg_in hv
          exact head_ok (n := v.toNat) hr hb hg ht hn h0 hl (by rw [hv]; congr 1; omega) (by omega)
        · rw [if_neg hm]
          exact head_many hr hb hg ht hn h0 hl hv hm
    · rw [if_neg (fun h => hl h.2)]
      exact head_len hr hb hg ht hn h0 hl
  · rw [if_neg (fun h => h0 h.1)]
    exact head_word hr hb hg ht hn h0
end
end Go.Proofs.YtdebedeebmmleaaGreatDoor
namespace Go.Proofs.YtdebedeebmmleaaGreatDoor
open Go.RowKit Go.Maps
set_option maxHeartbeats 1000000 in
set_option maxRecDepth 100000 in
theorem catch_idle (p q s : Addr) (w : World) :
    CallsD Tryz.prog 30 #[.pointer (some p), .pointer (some q), .pointer (some s)] .returning w fun e u' w' => e = .returned (.tuple #[]) ∧ u' = .returning ∧ w' = w := by
  refine callsD_of_wpS Tryz.func30 rfl fun c₀ cs hu => ?_
  apply wpS_seq
  apply wpS_region
  simp [wpOpsS, go_sem, recoverD, hu, Tryz.ntmps30, Exit.thenS]
  refine wpS_of_wp ?_
  change Code.wp Tryz.prog _ _ { tmps := #[.pointer (some p), .pointer (some q), .pointer (some s), undef, undef, undef, .nilIface, undef, undef, undef, undef, undef, undef, undef, undef, undef, undef], defers := [] } _
  go_wp2
  cases c₀
  simp_all [bodyPostS, results, Tryz.results30]
theorem Chg.or {p : Nat} {D : Nat → Prop} {w w' : World} (h : Chg (fun x => x = p) w w') (hp : D p) : Chg D w w' := h.more (fun x e => .inl (by rw [e]; exact hp))
set_option maxHeartbeats 2000000 in
set_option maxRecDepth 100000 in
theorem catch_fault (p q s : Nat) (ln er : Int) (v0 l0 e0 : Value) (w : World) (hp : w.heap[p]? = some (.cells #[v0] 24 (0, 0))) (hq : w.heap[q]? = some (.cells #[l0] 3 (0, 0))) (hs : w.heap[s]? = some (.cells #[e0] 27 (0, 0))) (hpq : p ≠ q) (hps : p ≠ s) (hqs : q ≠ s) :
    CallsD Tryz.prog 30 #[.pointer (some ⟨p, 0, none⟩), .pointer (some ⟨q, 0, none⟩), .pointer (some ⟨s, 0, none⟩)] (.panicking [FP ln er]) w fun e u' w' => e = .returned (.tuple #[]) ∧ u' = .panicking [{ v := (FP ln er).v, recovered := true }] ∧ w'.heap[p]? = some (.cells #[.slice none 0 0] 24 (0, 0)) ∧ w'.heap[q]? = some (.cells #[.int .i64 ln] 3 (0, 0)) ∧ w'.heap[s]? = some (.cells #[.int .i64 er] 27 (0, 0)) ∧ Chg (fun x => x = p ∨ x = q ∨ x = s) w w' := by
  have hpl := heap_lt hp
  have hql := heap_lt hq
  have hsl := heap_lt hs
  have HN := Lib.hid (show ¬ w.heap.size = p ∧ ¬ w.heap.size = q ∧ ¬ w.heap.size = s ∧ p ≠ q ∧ p ≠ s ∧ q ≠ s from ⟨by omega, by omega, by omega, hpq, hps, hqs⟩)
  obtain ⟨W0, hW0⟩ : ∃ W0, W0 = w.alloc (.cells #[.int .i64 ln, .int .i64 er] 63) := ⟨_, rfl⟩
  have HB0 := Lib.hid (show Below w.heap.size w W0 by rw [hW0]; exact alb w _)
  have ZF := Lib.hid (show W0.heap[w.heap.size]? = some (.cells #[.int .i64 ln, .int .i64 er] 63) by rw [hW0]; exact heap_alloc_new w _)
  have ZP := Lib.hid (keep_bel HB0.out hp)
  have ZQ := Lib.hid (keep_bel HB0.out hq)
  have ZS := Lib.hid (keep_bel HB0.out hs)
  clear hp hq hs hpl hql hsl hpq hps hqs
  refine callsD_of_wpS Tryz.func30 rfl fun c₀ cs hu => ?_
  apply wpS_seq
  apply wpS_region
  simp [wpOpsS, go_sem, recoverD, hu, Tryz.ntmps30, Exit.thenS, FP]
  have hta : ∀ W, (Instr.typeAssert (.iface 63 (.agg #[.int .i64 ln, .int .i64 er])) 20 63 true).run Tryz.prog W = .ok (.tuple #[.agg #[.int .i64 ln, .int .i64 er], .bool true]) W := fun _ => by kernel_rfl
  refine wpS_of_wp ?_
  change Code.wp Tryz.prog _ _ { tmps := #[.pointer (some ⟨p, 0, none⟩), .pointer (some ⟨q, 0, none⟩), .pointer (some ⟨s, 0, none⟩), undef, undef, undef, .iface 63 (.agg #[.int .i64 ln, .int .i64 er]), undef, undef, undef, undef, undef, undef, undef, undef, undef, undef], defers := [] } _
  go_upto_region 7 with fail
  rw [← hW0]
  clear hW0 hta
  refine wp_region_held_drew (S := (fun V : World => V.heap[w.heap.size]? = some (.cells #[.int .i64 ln, .int .i64 er] 63))) (by kernel_rfl) ?_ (fun hHeld => ?_)
  · exact ZF.out
  have HHeld := Lib.hid hHeld; clear hHeld
  refine wT (i := 0) (oi := { dst := some 12, op := Op.build 24 #[], type := 24, pos := "parse.go:35", after := #[], guard := none }) (v := ?_) rfl (Or.inl ⟨by rfl, ?_⟩) HHeld.out ?_
  rotate_left
  · intro w hSw; clear hSw; go_simp; try with_reducible rfl
  try simp only [pu, pn, s1, s2, s3]
  refine wT (i := 1) (oi := { dst := some 13, op := Op.fieldAddr 63 (Operand.tmp 4) 0, type := 0, pos := "parse.go:35", after := #[{ on := 5, ground := Ground.gcOnly Departure.lateStores }], guard := none }) (v := ?_) rfl (Or.inl ⟨by rfl, ?_⟩) HHeld.out ?_
  rotate_left
  · intro w hSw; clear hSw; go_simp; try with_reducible rfl
  try simp only [pu, pn, s1, s2, s3]
  refine wT (i := 2) (oi := { dst := some 14, op := Op.load 3 (Operand.tmp 13), type := 3, pos := "parse.go:35", after := #[{ on := 1, ground := Ground.data }, { on := 5, ground := Ground.gcOnly Departure.lateStores }], guard := none }) (v := (.int .i64 ln : Value)) rfl (Or.inl ⟨by rfl, ?_⟩) HHeld.out ?_
  · intro V hV; have hc0 := cellh hV (i := 0) (v := .int .i64 ln) rfl; clear hV; go_simp
  try simp only [pu, pn, s1, s2, s3]
  refine wT (i := 3) (oi := { dst := some 15, op := Op.fieldAddr 63 (Operand.tmp 4) 1, type := 0, pos := "parse.go:35", after := #[{ on := 6, ground := Ground.gcOnly Departure.lateStores }], guard := none }) (v := ?_) rfl (Or.inl ⟨by rfl, ?_⟩) HHeld.out ?_
  rotate_left
  · intro w hSw; clear hSw; go_simp; try with_reducible rfl
  try simp only [pu, pn, s1, s2, s3]
  refine wT (i := 4) (oi := { dst := some 16, op := Op.load 27 (Operand.tmp 15), type := 27, pos := "parse.go:35", after := #[{ on := 3, ground := Ground.data }, { on := 6, ground := Ground.gcOnly Departure.lateStores }], guard := none }) (v := (.int .i64 er : Value)) rfl (Or.inl ⟨by rfl, ?_⟩) HHeld.out ?_
  · intro V hV; have hc0 := cellh hV (i := 1) (v := .int .i64 er) rfl; clear hV; go_simp
  try simp only [pu, pn, s1, s2, s3]
  refine wpAnyH_ready (rs := [5]) (by kernel_rfl) (by simp) ?_
  refine AllReadyH.cons (o := { dst := none, op := Op.store 24 (Operand.tmp 0) (Operand.tmp 12), type := 0, pos := "parse.go:35", after := #[{ on := 0, ground := Ground.data }, { on := 0, ground := Ground.phase }, { on := 1, ground := Ground.textOnly Departure.lateStores }, { on := 2, ground := Ground.textOnly Departure.lateStores }, { on := 3, ground := Ground.textOnly Departure.lateStores }, { on := 4, ground := Ground.textOnly Departure.lateStores }], guard := none }) rfl (fun K hK => ?_) AllReadyH.nil
  have k0 := cellh ZP.out (i := 0) (v := v0) rfl
  have f0 : W0.frozen? ⟨p, 0, none⟩ = false := froh ZP.out
  go_simp
  clear k0 f0
  have X1 := Lib.hid (hset (i := 0) ZP.out (.slice none 0 0))
  have C1 := Lib.hid (Chg.set (D := fun x => x = p) W0 (l := p) (o := 0) (.slice none 0 0) rfl)
  obtain ⟨W1, hW1⟩ : ∃ W1, W1 = W0.setCell ⟨p, 0, none⟩ (.slice none 0 0) := ⟨_, rfl⟩
  rw [← hW1] at X1 C1 ⊢
  clear hW1
  have F1 := Lib.hid (C1.out.keep ZF.out HN.out.1)
  have Q1 := Lib.hid (C1.out.keep ZQ.out (fun e => HN.out.2.2.2.1 e.symm))
  have S1 := Lib.hid (C1.out.keep ZS.out (fun e => HN.out.2.2.2.2.1 e.symm))
  refine hK.out _ _ ?_ (fun hHeld => ?_)
  · exact F1.out
  clear HHeld; have HHeld := Lib.hid hHeld; clear hHeld
  clear hK K
  try simp only [pu, pn, s1, s2, s3]
  refine wpAnyH_ready (rs := [6]) (by kernel_rfl) (by simp) ?_
  refine AllReadyH.cons (o := { dst := none, op := Op.store 3 (Operand.tmp 1) (Operand.tmp 14), type := 0, pos := "parse.go:35", after := #[{ on := 2, ground := Ground.data }, { on := 5, ground := Ground.chain }, { on := 0, ground := Ground.phase }, { on := 1, ground := Ground.phase }, { on := 2, ground := Ground.phase }, { on := 3, ground := Ground.textOnly Departure.lateStores }, { on := 4, ground := Ground.textOnly Departure.lateStores }, { on := 5, ground := Ground.phase }], guard := none }) rfl (fun K hK => ?_) AllReadyH.nil
  have k0 := cellh Q1.out (i := 0) (v := l0) rfl
  have f0 : W1.frozen? ⟨q, 0, none⟩ = false := froh Q1.out
  go_simp
  clear k0 f0
  have Q2 := Lib.hid (hset (i := 0) Q1.out (.int .i64 ln))
  have C2 := Lib.hid (Chg.set (D := fun x => x = q) W1 (l := q) (o := 0) (.int .i64 ln) rfl)
  obtain ⟨W2, hW2⟩ : ∃ W2, W2 = W1.setCell ⟨q, 0, none⟩ (.int .i64 ln) := ⟨_, rfl⟩
  rw [← hW2] at Q2 C2 ⊢
  clear hW2
  have F2 := Lib.hid (C2.out.keep F1.out HN.out.2.1)
  have X2 := Lib.hid (C2.out.keep X1.out HN.out.2.2.2.1)
  have S2 := Lib.hid (C2.out.keep S1.out (fun e => HN.out.2.2.2.2.2 e.symm))
  refine hK.out _ _ ?_ (fun hHeld => ?_)
  · exact F2.out
  clear HHeld; have HHeld := Lib.hid hHeld; clear hHeld
  clear hK K
  try simp only [pu, pn, s1, s2, s3]
  refine wpAnyH_ready (rs := [7]) (by kernel_rfl) (by simp) ?_
  refine AllReadyH.cons (o := { dst := none, op := Op.store 27 (Operand.tmp 2) (Operand.tmp 16), type := 0, pos := "parse.go:35", after := #[{ on := 4, ground := Ground.data }, { on := 6, ground := Ground.chain }, { on := 0, ground := Ground.phase }, { on := 1, ground := Ground.phase }, { on := 2, ground := Ground.phase }, { on := 3, ground := Ground.phase }, { on := 4, ground := Ground.phase }, { on := 5, ground := Ground.phase }, { on := 6, ground := Ground.phase }], guard := none }) rfl (fun K hK => ?_) AllReadyH.nil
  have k0 := cellh S2.out (i := 0) (v := e0) rfl
  have f0 : W2.frozen? ⟨s, 0, none⟩ = false := froh S2.out
  go_simp
  clear k0 f0
  have S3 := Lib.hid (hset (i := 0) S2.out (.int .i64 er))
  have C3 := Lib.hid (Chg.set (D := fun x => x = s) W2 (l := s) (o := 0) (.int .i64 er) rfl)
  obtain ⟨W3, hW3⟩ : ∃ W3, W3 = W2.setCell ⟨s, 0, none⟩ (.int .i64 er) := ⟨_, rfl⟩
  rw [← hW3] at S3 C3 ⊢
  clear hW3
  have F3 := Lib.hid (C3.out.keep F2.out HN.out.2.2.1)
  have X3 := Lib.hid (C3.out.keep X2.out HN.out.2.2.2.2.1)
  have Q3 := Lib.hid (C3.out.keep Q2.out HN.out.2.2.2.2.2)
  refine hK.out _ _ ?_ (fun hHeld => ?_)
  · exact F3.out
  clear HHeld; have HHeld := Lib.hid hHeld; clear hHeld
  clear hK K
  try simp only [pu, pn, s1, s2, s3]
  refine wpAnyH_done (by kernel_rfl) ?_ _
  clear HHeld
  go_wp2
  cases c₀
  refine ⟨rfl, _, rfl, _, ?_, rfl, ?_, X3.out, Q3.out, S3.out, ?_⟩
  · simp [results, Tryz.results30, go_sem]
  · simp_all
  · exact ((Chg.of_below (D := fun x => x = p ∨ x = q ∨ x = s) HB0.out).then (Chg.or (D := fun x => x = p ∨ x = q ∨ x = s) C1.out (.inl rfl))).then ((Chg.or (D := fun x => x = p ∨ x = q ∨ x = s) C2.out (.inr (.inl rfl))).then (Chg.or (D := fun x => x = p ∨ x = q ∨ x = s) C3.out.drew (.inr (.inr rfl))))
end Go.Proofs.YtdebedeebmmleaaGreatDoor
