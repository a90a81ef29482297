/- Texts of the proof, one behind the other. -/
import Derived.Test.YtdebedeebmmleaaGreatDoorTc24
set_option linter.unusedVariables false
set_option linter.unusedSimpArgs false
namespace Go.Proofs.YtdebedeebmmleaaGreatDoor
open Go.RowKit Go.Maps
/-- A node with short texts. -/
structure ShN (y : NdV) : Prop where
  p : ∀ t ∈ y.piv, t.size ≤ 300
  m : ∀ m ∈ y.ms, m.key.size ≤ 300 ∧ m.too.size ≤ 300 ∧ m.val.size ≤ 300
  b : ∀ l ∈ y.bl, ∀ e ∈ l, e.key.size ≤ 300 ∧ e.val.size ≤ 300
def ShP (ys : List NdV) (e : Ending) : Prop := ∃ b, e = .returned (.bool b) ∧ (b = true → ∀ y ∈ ys, ShN y)
theorem shp_no {ys : List NdV} : ShP ys (.returned (.bool false)) := ⟨false, rfl, fun h => by cases h⟩
set_option maxHeartbeats 8000000 in
set_option maxRecDepth 100000 in
theorem short_any (A : Option Addr) (n c : Nat) (ns : List NC) (ys : List NdV) (w : World) (hT : NT w A ns ys) (hl : ys.length = n) (hn : n ≤ 40) (hS : ∀ y ∈ ys, SmN y) :
    Calls Tryz.prog 17 #[.agg #[.slice A n c]] w fun e w' => ShP ys e ∧ Below w.heap.size w w' := by
  have HT := Lib.hid hT
  have HL := Lib.hid (And.intro hl hn)
  have HS := Lib.hid hS
  obtain ⟨W0, hW0⟩ : ∃ W0, W0 = w.alloc (.cells #[.slice A n c] 24) := ⟨_, rfl⟩
  have B0 := Lib.hid (show Below w.heap.size w W0 by rw [hW0]; exact alb w _)
  have Z0 := Lib.hid (show W0.heap[w.heap.size]? = some (.cells #[.slice A n c] 24 (0, 0)) by rw [hW0]; exact heap_alloc_new w _)
  have c0 : W0.cell? ⟨w.heap.size, 0, none⟩ = some (.slice A n c) := cellh Z0.out rfl
  clear hT hl hn hS
  go_enter Tryz.func17, Tryz.ntmps17
  go_upto_region 1 with fail
  rw [← hW0]
  clear hW0
  go_upto_region 2 with fail
  clear c0
  go_loopw [3, 4, 5, 6, 7, 8] (fun iv _ _ _ _ _ wr => ∃ i : Nat, i ≤ n ∧ iv = .int .i64 i ∧ Hid (∀ y ∈ ys.take i, ShN y) ∧ Below W0.heap.size W0 wr) (fun iv _ _ _ _ _ _ => n - (intOf iv).toNat)
  case atStart => exact ⟨0, by omega, rfl, Lib.hid (by simp), Below.refl _ _⟩
  case round =>
    rename World => w4
    obtain ⟨i, hi, rfl, HSH, hb⟩ := hrel
    have HB := Lib.hid hb
    clear hb
    have BW := Lib.hid (bel_trans B0.out HB.out)
    have hnn := HL.out
    have c0 : w4.cell? ⟨w.heap.size, 0, none⟩ = some (.slice A n c) := cellh (keep_bel HB.out Z0.out) rfl
    by_cases h8 : i < n
    · have q1 : (i : Int) < (n : Int) := by omega
      have q0 : (0 : Int) ≤ (i : Int) := by omega
      have WK : IntKind.i64.wrap ((i : Int) + 1) = (i : Int) + 1 := IntWalk.i64_in _ (by omega)
      obtain ⟨y, hy⟩ : ∃ y, ys[i]? = some y := ⟨_, List.getElem?_eq_getElem (by omega)⟩
      obtain ⟨x, hx⟩ : ∃ x, ns[i]? = some x := ⟨_, List.getElem?_eq_getElem (by have := HT.out.l; omega)⟩
      obtain ⟨hs, hN⟩ := HT.out.e i x y hx hy
      have hsm := HS.out y (List.mem_of_getElem? hy)
      obtain ⟨b2, off, hA, hlt, g0, g1, g2, g3, g4⟩ := en_at (HT.out.r.later BW.out) hx
      rw [hA] at c0
      obtain ⟨np, hnp⟩ : ∃ n, n = y.piv.length := ⟨_, rfl⟩
      obtain ⟨nm, hnm⟩ : ∃ n, n = y.ms.length := ⟨_, rfl⟩
      obtain ⟨nl, hnl⟩ : ∃ n, n = y.bl.length := ⟨_, rfl⟩
      have HNN := Lib.hid (show (np = y.piv.length ∧ nm = y.ms.length ∧ nl = y.bl.length ∧ nl = hs.length) ∧ np ≤ 20 ∧ nm ≤ 40 ∧ nl ≤ 20 from ⟨⟨hnp, hnm, hnl, by rw [hnl, hN.b.2.2.1]⟩, by rw [hnp]; exact hsm.p, by rw [hnm]; exact hsm.m, by rw [hnl]; exact hsm.b⟩)
      have HSL := Lib.hid hsm.l
      have HX := Lib.hid hy
      obtain ⟨W5, hW5⟩ : ∃ W5, W5 = w4.alloc (nodeO x) := ⟨_, rfl⟩
      have B5 := Lib.hid (show Below W0.heap.size W0 W5 by rw [hW5]; exact bel_alloc HB.out _)
      have Z5 := Lib.hid (show W5.heap[w4.heap.size]? = some (nodeO x) by rw [hW5]; exact heap_alloc_new w4 _)
      have BW5 := Lib.hid (bel_trans B0.out B5.out)
      have HNR := Lib.hid (hN.later BW5.out)
      have UP := Lib.hid (fun V (h : Below W5.heap.size W5 V) => (show V.cell? ⟨w4.heap.size, 1, none⟩ = some (.slice x.p.A np x.p.c) ∧ V.cell? ⟨w4.heap.size, 3, none⟩ = some (.slice x.m.A nm x.m.c) ∧ V.cell? ⟨w4.heap.size, 4, none⟩ = some (.slice x.b.A nl x.b.c) by
        obtain ⟨a0, a1, a2, a3, a4⟩ := cells5 (keep_bel h Z5.out)
        exact ⟨by rw [hnp, ← hN.p.1]; exact a1, by rw [hnm, ← hN.m.1]; exact a3, by rw [hnl, ← hN.b.2.2.1, ← hN.b.1]; exact a4⟩))
      clear hx hy hN hA hlt hnp hnm hnl hnn hsm
      go_upto_region 6 with fail
      rw [← hW5]
      clear hW5 g0 g1 g2 g3 g4 c0
      go_loopw [5] (fun jv wr => ∃ j : Nat, j ≤ np ∧ jv = .int .i64 j ∧ Hid (∀ t ∈ y.piv.take j, t.size ≤ 300) ∧ Below W5.heap.size W5 wr) (fun jv _ => np - (intOf jv).toNat)
      case atStart => exact ⟨0, by omega, rfl, Lib.hid (by simp), Below.refl _ _⟩
      case round =>
        rename World => w6
        obtain ⟨j, hj, rfl, HPS, hb⟩ := hrel
        have HB6 := Lib.hid hb
        clear hb
        obtain ⟨c1, c3, c4⟩ := UP.out w6 HB6.out
        have hnn := HNN.out
        by_cases h9 : j < np
        · have j1 : (j : Int) < (np : Int) := by omega
          have j0 : (0 : Int) ≤ (j : Int) := by omega
          have WJ : IntKind.i64.wrap ((j : Int) + 1) = (j : Int) + 1 := IntWalk.i64_in _ (by omega)
          obtain ⟨t, ht⟩ : ∃ u, y.piv[j]? = some u := ⟨_, List.getElem?_eq_getElem (by omega)⟩
          obtain ⟨b3, off3, hA3, hlt3, g0⟩ := es_at (HNR.out.p.2.later HB6.out) ht
          rw [hA3] at c1
          have HT3 := Lib.hid ht
          clear ht hA3 hlt3 hnn c3 c4
          by_cases h5 : t.size ≤ 300
          · have e5 : ¬ (300 : Int) < (t.size : Int) := by omega
            have HPN := Lib.hid (mem_next (P := fun t : ByteArray => t.size ≤ 300) HPS.out HT3.out h5)
            clear h5
            go_wp2
            exact ⟨⟨j + 1, by omega, by simp, HPN, HB6.out⟩, by simp [intOf]; omega⟩
          · have e5 : (300 : Int) < (t.size : Int) := by omega
            clear h5
            go_wp2
            go_ret
            exact ⟨shp_no, bel_trans BW5.out HB6.out⟩
        · have hje : j = np := by omega
          subst hje
          have j1 : ¬ (j : Int) < (j : Int) := by omega
          have HPA := Lib.hid (show ∀ t ∈ y.piv, t.size ≤ 300 by have h := HPS.out; rw [List.take_of_length_le (by omega)] at h; exact h)
          clear hnn c3 c4
          go_upto_region 11 with fail
          clear c1
          go_loopw [6] (fun jv wr => ∃ q : Nat, q ≤ nm ∧ jv = .int .i64 q ∧ Hid (∀ m ∈ y.ms.take q, m.key.size ≤ 300 ∧ m.too.size ≤ 300 ∧ m.val.size ≤ 300) ∧ Below W5.heap.size W5 wr) (fun jv _ => nm - (intOf jv).toNat)
          case atStart => exact ⟨0, by omega, rfl, Lib.hid (by simp), HB6.out⟩
          case round =>
            rename World => w7
            obtain ⟨q, hq, rfl, HMS, hb⟩ := hrel
            have HB7 := Lib.hid hb
            clear hb
            obtain ⟨c1, c3, c4⟩ := UP.out w7 HB7.out
            have hnn := HNN.out
            by_cases h10 : q < nm
            · have j2 : (q : Int) < (nm : Int) := by omega
              have j3 : (0 : Int) ≤ (q : Int) := by omega
              have WQ : IntKind.i64.wrap ((q : Int) + 1) = (q : Int) + 1 := IntWalk.i64_in _ (by omega)
              obtain ⟨m0, hm0⟩ : ∃ u, y.ms[q]? = some u := ⟨_, List.getElem?_eq_getElem (by omega)⟩
              obtain ⟨b4, off4, hA4, hlt4, e0, e1, e2, e3, e4, e5⟩ := em_at (HNR.out.m.2.later HB7.out) hm0
              rw [hA4] at c3
              have HM0 := Lib.hid hm0
              clear hm0 hA4 hlt4 hnn c1 c4
              by_cases h1 : m0.key.size ≤ 300
              · have f1 : ¬ (300 : Int) < (m0.key.size : Int) := by omega
                by_cases h2 : m0.too.size ≤ 300
                · have f2 : ¬ (300 : Int) < (m0.too.size : Int) := by omega
                  by_cases h3 : m0.val.size ≤ 300
                  · have f3 : ¬ (300 : Int) < (m0.val.size : Int) := by omega
                    have HMN := Lib.hid (mem_next (P := fun m : M => m.key.size ≤ 300 ∧ m.too.size ≤ 300 ∧ m.val.size ≤ 300) HMS.out HM0.out ⟨h1, h2, h3⟩)
                    clear h1 h2 h3
                    go_wp2
                    exact ⟨⟨q + 1, by omega, by simp, HMN, HB7.out⟩, by simp [intOf]; omega⟩
                  · have f3 : (300 : Int) < (m0.val.size : Int) := by omega
                    clear h1 h2 h3
                    go_wp2
                    go_ret
                    exact ⟨shp_no, bel_trans BW5.out HB7.out⟩
                · have f2 : (300 : Int) < (m0.too.size : Int) := by omega
                  clear h1 h2
                  go_wp2
                  go_ret
                  exact ⟨shp_no, bel_trans BW5.out HB7.out⟩
              · have f1 : (300 : Int) < (m0.key.size : Int) := by omega
                clear h1
                go_wp2
                go_ret
                exact ⟨shp_no, bel_trans BW5.out HB7.out⟩
            · have hqe : q = nm := by omega
              subst hqe
              have j2 : ¬ (q : Int) < (q : Int) := by omega
              have HMA := Lib.hid (show ∀ m ∈ y.ms, m.key.size ≤ 300 ∧ m.too.size ≤ 300 ∧ m.val.size ≤ 300 by have h := HMS.out; rw [List.take_of_length_le (by omega)] at h; exact h)
              clear hnn c1 c4
              go_upto_region 16 with fail
              clear c3
              go_loopw [7, 8] (fun jv _ wr => ∃ k : Nat, k ≤ nl ∧ jv = .int .i64 k ∧ Hid (∀ l ∈ y.bl.take k, ∀ e ∈ l, e.key.size ≤ 300 ∧ e.val.size ≤ 300) ∧ Below W5.heap.size W5 wr) (fun jv _ _ => nl - (intOf jv).toNat)
              case atStart => exact ⟨0, by omega, rfl, Lib.hid (by simp), HB7.out⟩
              case round =>
                rename World => w8
                obtain ⟨k, hk, rfl, HLS, hb⟩ := hrel
                have HB8 := Lib.hid hb
                clear hb
                obtain ⟨c1, c3, c4⟩ := UP.out w8 HB8.out
                have hnn := HNN.out
                by_cases h11 : k < nl
                · have j4 : (k : Int) < (nl : Int) := by omega
                  have j5 : (0 : Int) ≤ (k : Int) := by omega
                  have WB3 : IntKind.i64.wrap ((k : Int) + 1) = (k : Int) + 1 := IntWalk.i64_in _ (by omega)
                  have hbN := HNR.out.b
                  obtain ⟨l0, hl0⟩ : ∃ u, y.bl[k]? = some u := ⟨_, List.getElem?_eq_getElem (by omega)⟩
                  obtain ⟨h0, hh0⟩ : ∃ u, hs[k]? = some u := ⟨_, List.getElem?_eq_getElem (by omega)⟩
                  obtain ⟨b3, off3, hA3, hlt3, g00⟩ := eh_at hbN.2.1 hh0
                  obtain ⟨r1, r2⟩ := hbN.2.2.2 k h0 l0 hh0 hl0
                  obtain ⟨m, hm⟩ : ∃ m, m = l0.length := ⟨_, rfl⟩
                  rw [r1, ← hm] at g00
                  have HCC := Lib.hid (fun V (h : Below W5.heap.size W5 V) => (show V.cell? ⟨w4.heap.size, 4, none⟩ = some (.slice (some ⟨b3, off3, none⟩) nl x.b.c) ∧ V.cell? ⟨b3, off3 + k, none⟩ = some (.slice h0.A m h0.c) from ⟨by rw [← hA3]; exact (UP.out V h).2.2, bel_later h g00⟩))
                  rw [hA3] at c4
                  have HR0 := Lib.hid r2
                  have HM := Lib.hid (show m = l0.length ∧ m ≤ 20 from ⟨hm, by rw [hm]; exact HSL.out l0 (List.mem_of_getElem? hl0)⟩)
                  have HLK := Lib.hid hl0
                  clear hbN hl0 hh0 hA3 hlt3 r1 r2 hm hnn c1 c3 g00
                  go_upto_region 19 with fail
                  clear c4
                  go_loopw [8] (fun jv wr => ∃ p : Nat, p ≤ m ∧ jv = .int .i64 p ∧ Hid (∀ e ∈ l0.take p, e.key.size ≤ 300 ∧ e.val.size ≤ 300) ∧ Below W5.heap.size W5 wr) (fun jv _ => m - (intOf jv).toNat)
                  case atStart => exact ⟨0, by omega, rfl, Lib.hid (by simp), HB8.out⟩
                  case round =>
                    rename World => w9
                    obtain ⟨p, hp, rfl, HES, hb⟩ := hrel
                    have HB9 := Lib.hid hb
                    clear hb
                    obtain ⟨c4, g0⟩ := HCC.out w9 HB9.out
                    have hmm := HM.out
                    by_cases h12 : p < m
                    · have j6 : (p : Int) < (m : Int) := by omega
                      have j7 : (0 : Int) ≤ (p : Int) := by omega
                      have WP : IntKind.i64.wrap ((p : Int) + 1) = (p : Int) + 1 := IntWalk.i64_in _ (by omega)
                      obtain ⟨e0, he0⟩ : ∃ u, l0[p]? = some u := ⟨_, List.getElem?_eq_getElem (by omega)⟩
                      obtain ⟨b4, o4, hA4, hlt4, e1, e2⟩ := ee_at (HR0.out.later HB9.out) he0
                      rw [hA4] at g0
                      have HE0 := Lib.hid he0
                      clear he0 hA4 hlt4 hmm
                      by_cases h1 : e0.key.size ≤ 300
                      · have f1 : ¬ (300 : Int) < (e0.key.size : Int) := by omega
                        by_cases h2 : e0.val.size ≤ 300
                        · have f2 : ¬ (300 : Int) < (e0.val.size : Int) := by omega
                          have HEN := Lib.hid (mem_next (P := fun e : EnV => e.key.size ≤ 300 ∧ e.val.size ≤ 300) HES.out HE0.out ⟨h1, h2⟩)
                          clear h1 h2
                          go_wp2
                          exact ⟨⟨p + 1, by omega, by simp, HEN, HB9.out⟩, by simp [intOf]; omega⟩
                        · have f2 : (300 : Int) < (e0.val.size : Int) := by omega
                          clear h1 h2
                          go_wp2
                          go_ret
                          exact ⟨shp_no, bel_trans BW5.out HB9.out⟩
                      · have f1 : (300 : Int) < (e0.key.size : Int) := by omega
                        clear h1
                        go_wp2
                        go_ret
                        exact ⟨shp_no, bel_trans BW5.out HB9.out⟩
                    · have hpe : p = m := by omega
                      subst hpe
                      have j6 : ¬ (p : Int) < (p : Int) := by omega
                      have HLN := Lib.hid (mem_next (P := fun l : List EnV => ∀ e ∈ l, e.key.size ≤ 300 ∧ e.val.size ≤ 300) HLS.out HLK.out (by have h := HES.out; rw [List.take_of_length_le (by omega)] at h; exact h))
                      clear hmm
                      go_wp2
                      exact ⟨⟨k + 1, by omega, by simp, HLN, HB9.out⟩, by simp [intOf]; omega⟩
                · have hke : k = nl := by omega
                  subst hke
                  have j4 : ¬ (k : Int) < (k : Int) := by omega
                  have HSN := Lib.hid (mem_next (P := ShN) HSH.out HX.out ⟨HPA.out, HMA.out, by have h := HLS.out; rw [List.take_of_length_le (by omega)] at h; exact h⟩)
                  clear hnn c1 c3
                  go_wp2
                  exact ⟨⟨i + 1, by omega, by simp, HSN, bel_trans B5.out HB8.out⟩, by simp [intOf]; omega⟩
    · have hie : i = n := by omega
      subst hie
      have q1 : ¬ (i : Int) < (i : Int) := by omega
      have HSN := Lib.hid (show ∀ y ∈ ys, ShN y by have h1 := HSH.out; rw [List.take_of_length_le (by omega)] at h1; exact h1)
      clear hnn
      go_wp2
      go_ret
      exact ⟨⟨true, rfl, fun _ => HSN.out⟩, BW.out⟩
end Go.Proofs.YtdebedeebmmleaaGreatDoor
namespace Go.Proofs.YtdebedeebmmleaaGreatDoor
open Go.RowKit Go.Maps
def nodeF (x : NdV × Nat) : List UInt8 := nodeL x.2 x.1
theorem tm_of {m : M} (h : TMs m) : tmB m = true := by
  unfold tmB
  simp only [Bool.and_eq_true, decide_eq_true_eq]
  exact ⟨⟨h.q.1, h.q.2⟩, h.f⟩
theorem node_of {y : NdV} (h : TNd y) : nodeB y = true := by
  unfold nodeB
  rcases h with ⟨h0, h1, h2, h3, h4⟩ | ⟨h0, h1, h2, h3⟩ | ⟨h0, h1, h2, h3, h4⟩
  · rw [if_pos h0, h1, h2, h3, h4]; rfl
  · rw [if_neg (by omega), if_pos h0, h1, h2, h3]; rfl
  · rw [if_neg (by omega), if_neg (by omega), if_pos h0, h1]
    have e1 : y.kids.any kdB = false := by
      rw [List.any_eq_false]
      intro v hv
      have := h3 v hv
      unfold kdB
      simp
      omega
    have e2 : y.ms.any (fun m => !tmB m) = false := by
      rw [List.any_eq_false]
      intro m hm
      simp [tm_of (h4 m hm)]
    rw [e1, e2]
    simp [h2]
theorem told_of {ys : List NdV} (h : TAll ys) (hl : ys.length ≤ 4097) : toldB ys = true := by
  unfold toldB
  rw [Bool.and_eq_true]
  refine ⟨by simp [hl], ?_⟩
  rw [List.all_eq_true]
  intro x hx
  obtain ⟨i, hi⟩ := List.mem_iff_getElem?.1 hx
  rw [List.getElem?_zipIdx] at hi
  cases hq : ys[i]? with
  | none => rw [hq] at hi; cases hi
  | some y =>
    rw [hq] at hi
    simp only [Option.map_some, Option.some.injEq] at hi
    subst hi
    unfold toldAt
    simp only
    rw [node_of (h.2 y (List.mem_of_getElem? hq))]
    by_cases h0 : i = 0
    · subst h0
      rw [h.1 y hq]
      simp
    · simp [h0]
set_option maxHeartbeats 4000000 in
set_option maxRecDepth 100000 in
theorem print_ok (A : Option Addr) (n c : Nat) (ns : List NC) (ys : List NdV) (w : World) (hg : GW w) (hT : NT w A ns ys) (hl : ys.length = n) (hn : n ≤ 4097) (hS : ∀ y ∈ ys, NSm y) (hA : TAll ys) (ht : (dprL ys).length ≤ 4194304) :
    Calls Tryz.prog 9 #[.agg #[.slice A n c]] w fun e w' => e = .returned (.tuple #[.string ⟨(dprL ys).toArray⟩, .int .i64 0]) ∧ Below w.heap.size w w' := by
  have TD := told_any A n c ns ys
  rw [told_of hA (by omega)] at TD
  obtain ⟨l0, hl0⟩ : ∃ l0, l0 = lineL [wTree, itoaB (n : Int)] := ⟨_, rfl⟩
  have hpr : dprL ys = l0 ++ ys.zipIdx.flatMap nodeF := by rw [hl0, ← hl]; rfl
  obtain ⟨T, hT0⟩ : ∃ T, T = dprL ys := ⟨_, rfl⟩
  rw [← hT0] at ht hpr ⊢
  have HL := Lib.hid (fun k => (show (l0 ++ (ys.zipIdx.take k).flatMap nodeF).length ≤ 4194304 by
    have := fm_take nodeF ys.zipIdx k
    rw [hpr, List.length_append] at ht
    rw [List.length_append]
    omega))
  have HPR := Lib.hid hpr
  have HL0 := Lib.hid hl0
  have HNE : Hid (T ≠ []) := Lib.hid (by rw [hpr, hl0]; simp [line_ne])
  have HTL : Hid (¬ (4194304 : Int) < (T.length : Int)) := Lib.hid (by omega)
  have HG := Lib.hid hg
  have HT := Lib.hid hT
  have HLN := Lib.hid (And.intro hl hn)
  have HS := Lib.hid hS
  have HA := Lib.hid hA
  obtain ⟨W0, hW0⟩ : ∃ W0, W0 = w.alloc (.cells #[.slice A n c] 24) := ⟨_, rfl⟩
  have B0 := Lib.hid (show Below w.heap.size w W0 by rw [hW0]; exact alb w _)
  have Z0 := Lib.hid (show W0.heap[w.heap.size]? = some (.cells #[.slice A n c] 24 (0, 0)) by rw [hW0]; exact heap_alloc_new w _)
  have c0 : W0.cell? ⟨w.heap.size, 0, none⟩ = some (.slice A n c) := cellh Z0.out rfl
  have TD0 := Lib.hid (TD W0 (hg.later B0.out) (hT.later B0.out) hl (by omega) hS)
  clear hg hT hl hn hS hA ht hpr hT0 hl0 TD
  go_enter Tryz.func9, Tryz.ntmps9
  go_upto_region 1 with fail
  rw [← hW0]
  clear hW0
  go_upto_region 3 with (first
    | (go_at_call 18; ((with_reducible refine TD0.out.mono ?_); rintro e w1 ⟨rfl, b1⟩; have B1 := Lib.hid (bel_trans B0.out b1); have Z1 := Lib.hid (keep_bel b1 Z0.out); clear b1))
    | fail)
  obtain ⟨W2, hW2⟩ : ∃ W2, W2 = w1.alloc (.cells #[.pointer none, .slice none 0 0] 51) := ⟨_, rfl⟩
  obtain ⟨b, hb⟩ : ∃ b, b = w1.heap.size := ⟨_, rfl⟩
  have D2 := Lib.hid (show Bd 51 b b [] W2 by rw [hb, hW2]; exact Bd.new59 w1)
  have B2 := Lib.hid (show Below b w1 W2 by rw [hb, hW2]; exact alb w1 _)
  have HB2 := Lib.hid (show b < W2.heap.size by rw [hb, hW2]; simp)
  have HBW := Lib.hid (show w.heap.size < b by rw [hb]; exact heap_lt Z1.out)
  have G2 := Lib.hid (show GB b W2 from ⟨Nat.le_of_lt HB2.out, fun V hV => HG.out.later (B1.out.trans ((B2.out.trans hV).mono (Nat.le_of_lt HBW.out)))⟩)
  have NT2 := Lib.hid (show ∀ V, Below b W2 V → NT V A ns ys from fun V hV => HT.out.later (B1.out.trans ((B2.out.trans hV).mono (Nat.le_of_lt HBW.out))))
  have BW2 := Lib.hid (show ∀ V, Below b W2 V → Below w.heap.size w V from fun V hV => B1.out.trans ((B2.out.trans hV).mono (Nat.le_of_lt HBW.out)))
  have Z2 := Lib.hid (show ∀ V, Below b W2 V → V.cell? ⟨w.heap.size, 0, none⟩ = some (.slice A n c) from fun V hV => cellh (((B2.out.trans hV).block _ HBW.out).trans Z1.out) rfl)
  have P2 := Lib.hid (PK.start D2.out)
  clear c0
  go_upto_region 4 with fail
  rw [← hW2, ← hb]
  clear hW2 hb
  have c0 := Z2.out W2 (Below.refl _ _)
  go_upto_region 5 with (first
    | (go_at_call 20; ((with_reducible refine (itoa_any (n : Int) (by have := HLN.out; omega) (by have := HLN.out; omega) _ G2.out.gw).mono ?_); rintro e w3 ⟨rfl, b3⟩; have B3 := Lib.hid b3; clear b3))
    | (go_at_call 19; ((refine (line_any b b _ 2 2 [wTree, itoaB (n : Int)] [] _ rfl (by omega) (by omega) (WB.lit w3 #[.string wTree, .string (itoaB (n : Int))] [wTree, itoaB (n : Int)] rfl) (P2.out.later (bel_alloc B3.out _) G2.out.le).d (Nat.le_trans G2.out.le (bel_alloc B3.out _).size) (by simp) (by intro z hz; simp only [List.mem_cons, List.not_mem_nil, or_false] at hz; rcases hz with rfl | rfl <;> first | decide | (have := itoa_sz (n : Int) (by have := HLN.out; omega) (by have := HLN.out; omega); omega)) (by have := HB2.out; have := B3.out.size; omega)).mono ?_); rintro e w4 ⟨rfl, p4⟩; have P4 := Lib.hid ((P2.out.later (bel_alloc B3.out _) G2.out.le).then p4); clear p4))
    | fail)
  rw [List.nil_append, ← HL0.out] at P4
  replace c0 := Z2.out w4 P4.out.bl
  go_upto_region 6 with fail
  clear c0
  go_loopw [22] (fun kv wr => ∃ k : Nat, k ≤ n ∧ kv = .int .i64 k ∧ PK b b (l0 ++ (ys.zipIdx.take k).flatMap nodeF) W2 wr) (fun kv _ => n - (intOf kv).toNat)
  case atStart => exact ⟨0, by omega, rfl, by simpa using P4.out⟩
  case round =>
    obtain ⟨k, hk, rfl, hpk⟩ := hrel
    have HP := Lib.hid hpk
    clear hpk
    have hnn := HLN.out
    by_cases h8 : k < n
    · have hk1 : (k : Int) < (n : Int) := by omega
      have hk0 : (0 : Int) ≤ (k : Int) := by omega
      have WK : IntKind.i64.wrap ((k : Int) + 1) = (k : Int) + 1 := IntWalk.i64_in _ (by omega)
      obtain ⟨y, hy⟩ : ∃ y, ys[k]? = some y := ⟨_, List.getElem?_eq_getElem (by omega)⟩
      have hNT := NT2.out wr HP.out.bl
      obtain ⟨x, hx⟩ : ∃ x, ns[k]? = some x := ⟨_, List.getElem?_eq_getElem (by have := hNT.l; omega)⟩
      obtain ⟨b5, off, hAe, hlt, g0, g1, g2, g3, g4⟩ := en_at hNT.r hx
      obtain ⟨hs, hnr⟩ := HT.out.e k x y hx hy
      obtain ⟨W3, hW3⟩ : ∃ W3, W3 = wr.alloc (nodeO x) := ⟨_, rfl⟩
      have B3 := Lib.hid (show Below wr.heap.size wr W3 by rw [hW3]; exact alb wr _)
      have Z3 := Lib.hid (show W3.heap[wr.heap.size]? = some (nodeO x) by rw [hW3]; exact heap_alloc_new wr _)
      have P3 := Lib.hid (HP.out.later B3.out (Nat.le_trans G2.out.le HP.out.bl.size))
      have G3 := Lib.hid (G2.out.bel P3.out.bl)
      have HX := Lib.hid (fm_next nodeF (zi_get hy))
      have HLX := Lib.hid (show ((l0 ++ (ys.zipIdx.take k).flatMap nodeF) ++ nodeL k y).length ≤ 4194304 by have := HL.out (k + 1); rw [HX.out, ← List.append_assoc] at this; exact this)
      have HNV := Lib.hid (show ∀ V, Below b W3 V → NRd V x hs y from fun V hV => hnr.later (BW2.out V (P3.out.bl.trans hV)))
      have HYK := Lib.hid (show x.k = y.k from hnr.k)
      have HSY := Lib.hid (HS.out y (List.mem_of_getElem? hy))
      have HTY := HA.out.2 y (List.mem_of_getElem? hy)
      rw [hAe]
      clear hNT hx hy hlt hnr hnn hAe
      go_upto_region 8 with fail
      rw [← hW3]
      clear hW3 g0 g1 g2 g3 g4
      obtain ⟨d0, d1, d2, d3, d4⟩ := cells5 Z3.out
      rcases HTY with hty | hty | hty
      · have e1 : (x.k == 1) = false := beq_eq_false_iff_ne.2 (by rw [HYK.out, hty.1]; decide)
        have e2 : (x.k == 2) = false := beq_eq_false_iff_ne.2 (by rw [HYK.out, hty.1]; decide)
        have HZ := Lib.hid (show nodeF (y, k) = [] by unfold nodeF nodeL; simp only; rw [hty.1]; rfl)
        clear hty
        go_wp2
        exact ⟨⟨k + 1, by omega, rfl, by rw [HX.out, HZ.out, List.append_nil]; exact P3.out⟩, by simp [intOf]; omega⟩
      · have e1 : (x.k == 1) = true := by rw [HYK.out, hty.1]; rfl
        have LF := Lib.hid (leaf_any b b k x hs y _ W3 G3.out (by have := HLN.out; omega) hty.1 HNV.out HSY.out P3.out.d (Nat.lt_of_lt_of_le HB2.out P3.out.bl.size) HLX.out)
        clear hty
        go_wp2_with (first
          | (go_at_call 21; ((with_reducible refine LF.out.mono ?_); rintro e w5 ⟨rfl, p5⟩; have P5 := Lib.hid (P3.out.then p5); clear p5))
          | fail)
        exact ⟨⟨k + 1, by omega, rfl, by rw [HX.out, ← List.append_assoc]; exact P5.out⟩, by simp [intOf]; omega⟩
      · have e1 : (x.k == 1) = false := beq_eq_false_iff_ne.2 (by rw [HYK.out, hty.1]; decide)
        have e2 : (x.k == 2) = true := by rw [HYK.out, hty.1]; rfl
        have LF := Lib.hid (inner_pr b b k x hs y _ W3 G3.out (by have := HLN.out; omega) hty.1 ⟨hty.2.2.1, hty.2.2.2.1, hty.2.2.2.2⟩ HNV.out HSY.out P3.out.d (Nat.lt_of_lt_of_le HB2.out P3.out.bl.size) HLX.out)
        clear hty
        go_wp2_with (first
          | (go_at_call 22; ((with_reducible refine LF.out.mono ?_); rintro e w5 ⟨rfl, p5⟩; have P5 := Lib.hid (P3.out.then p5); clear p5))
          | fail)
        exact ⟨⟨k + 1, by omega, rfl, by rw [HX.out, ← List.append_assoc]; exact P5.out⟩, by simp [intOf]; omega⟩
    · have hke : k = n := by omega
      subst hke
      have hk1 : ¬ (k : Int) < (k : Int) := by omega
      have e : ys.zipIdx.take k = ys.zipIdx := List.take_of_length_le (by rw [List.length_zipIdx]; omega)
      rw [e, ← HPR.out] at HP
      have kT := HTL.out
      have LN := Lib.hid (len_any b b T wr HP.out.d)
      have SS := Lib.hid (string_some b b T wr HP.out.d HNE.out)
      clear e hnn
      go_wp2_with (first
        | (go_at_call 23; ((with_reducible refine LN.out.mono ?_); rintro e w7 ⟨rfl, hw⟩; (have hw2 := hw.symm; subst hw2; clear hw)))
        | (go_at_call 24; ((with_reducible refine SS.out.mono ?_); rintro e w8 ⟨rfl, b8, o8⟩; have B8 := Lib.hid (HP.out.bl.trans b8); clear b8 o8))
        | fail)
      refine bodyPost_ret (v := .tuple #[.string ⟨T.toArray⟩, .int .i64 0]) (by simp [results, Tryz.results9, go_sem]) rfl ⟨rfl, BW2.out _ B8.out⟩
end Go.Proofs.YtdebedeebmmleaaGreatDoor
namespace Go.Proofs.YtdebedeebmmleaaGreatDoor
open Go.RowKit Go.Maps
theorem eq_len {α : Type} {xs ys : List α} {b : Bool} (hb : b = true ↔ xs = ys) (h : ¬ xs.length = ys.length) : b = false := by
  cases b with
  | false => rfl
  | true => exact absurd (congrArg List.length (hb.1 rfl)) h
theorem eq_at {α : Type} {xs ys : List α} {b : Bool} {k : Nat} {x y : α} (hb : b = true ↔ xs = ys) (hx : xs[k]? = some x) (hy : ys[k]? = some y) (h : ¬ x = y) : b = false := by
  cases b with
  | false => rfl
  | true =>
    have e := hb.1 rfl
    subst e
    rw [hx] at hy
    injection hy with hy
    exact absurd hy h
theorem eq_next {α : Type} {xs ys : List α} {k : Nat} {x : α} (ht : xs.take k = ys.take k) (hx : xs[k]? = some x) (hy : ys[k]? = some x) : xs.take (k + 1) = ys.take (k + 1) := by
  rw [List.take_add_one, List.take_add_one, hx, hy, ht]
theorem eq_end {α : Type} {xs ys : List α} {b : Bool} {k : Nat} (hb : b = true ↔ xs = ys) (ht : xs.take k = ys.take k) (h1 : xs.length ≤ k) (h2 : ys.length ≤ k) : b = true := by
  rw [List.take_of_length_le h1, List.take_of_length_le h2] at ht
  exact hb.2 ht
theorem bne_l {a b : ByteArray} (h : ¬ a = b) : (a.toList == b.toList) = false :=
  beq_eq_false_iff_ne.2 (fun e => h (ba_inj (by rw [← ByteArray.toList_eq, ← ByteArray.toList_eq, e])))
theorem m_diff {a0 b0 a1 b1 a5 b5 : Int} {a2 b2 a3 b3 a4 b4 : ByteArray} (h : ¬ (⟨a0, a1, a2, a3, a4, a5⟩ : M) = ⟨b0, b1, b2, b3, b4, b5⟩) :
    ¬ a0 = b0 ∨ (a0 = b0 ∧ ¬ a1 = b1) ∨ (a0 = b0 ∧ a1 = b1 ∧ ¬ a2 = b2) ∨ (a0 = b0 ∧ a1 = b1 ∧ a2 = b2 ∧ ¬ a3 = b3) ∨ (a0 = b0 ∧ a1 = b1 ∧ a2 = b2 ∧ a3 = b3 ∧ ¬ a4 = b4) ∨ (a0 = b0 ∧ a1 = b1 ∧ a2 = b2 ∧ a3 = b3 ∧ a4 = b4 ∧ ¬ a5 = b5) := by
  by_cases h0 : a0 = b0
  · by_cases h1 : a1 = b1
    · by_cases h2 : a2 = b2
      · by_cases h3 : a3 = b3
        · by_cases h4 : a4 = b4
          · by_cases h5 : a5 = b5
            · subst h0 h1 h2 h3 h4 h5; exact absurd rfl h
            · exact .inr (.inr (.inr (.inr (.inr ⟨h0, h1, h2, h3, h4, h5⟩))))
          · exact .inr (.inr (.inr (.inr (.inl ⟨h0, h1, h2, h3, h4⟩))))
        · exact .inr (.inr (.inr (.inl ⟨h0, h1, h2, h3⟩)))
      · exact .inr (.inr (.inl ⟨h0, h1, h2⟩))
    · exact .inr (.inl ⟨h0, h1⟩)
  · exact .inl h0
set_option maxRecDepth 10000 in
set_option maxHeartbeats 4000000 in
theorem ssame_any (A B : Option Addr) (n m c d : Nat) (xs ys : List ByteArray) (b : Bool) (w : World) (hb : b = true ↔ xs = ys) (hl : xs.length = n) (hm : ys.length = m) (hn : n ≤ 1000000) (hA : ES.Rd w A xs) (hB : ES.Rd w B ys) :
    Calls Tryz.prog 49 #[.slice A n c, .slice B m d] w fun r w' => r = .returned (.bool b) ∧ Below w.heap.size w w' := by
  by_cases hnm : n = m
  rotate_left
  · have hq : ¬ (n : Int) = (m : Int) := by omega
    have HF := Lib.hid (eq_len hb (by rw [hl, hm]; exact hnm))
    clear hb hl hm hn hA hB hnm
    go_enter Tryz.func49, Tryz.ntmps49
    go_wp2
    go_ret
    exact ⟨by rw [HF.out]; rfl, Below.refl _ _⟩
  subst hnm
  have HNN := Lib.hid hn
  have HL := Lib.hid (And.intro hl hm)
  have HA := Lib.hid hA
  have HB2 := Lib.hid hB
  have HBB := Lib.hid hb
  clear hl hm hA hB hb
  go_enter Tryz.func49, Tryz.ntmps49
  go_upto_region 4 with fail
  go_loopw [5] (fun iv wr => ∃ (k : Nat), k ≤ n ∧ iv = .int .i64 k ∧ Hid (xs.take k = ys.take k) ∧ Below w.heap.size w wr) (fun i _ => n - (intOf i).toNat)
  case atStart => exact ⟨0, by omega, rfl, Lib.hid rfl, Below.refl _ _⟩
  case round =>
    obtain ⟨k, hk, rfl, HT, hb⟩ := hrel
    have HB := Lib.hid hb
    clear hb
    by_cases h8 : k < n
    · have hk1 : (k : Int) < (n : Int) := by omega
      have hk0 : (0 : Int) ≤ (k : Int) := by omega
      have WK : IntKind.i64.wrap ((k : Int) + 1) = (k : Int) + 1 := IntWalk.i64_in _ (by have := HNN.out; omega)
      obtain ⟨x, hx⟩ : ∃ x, xs[k]? = some x := ⟨_, List.getElem?_eq_getElem (by rw [HL.out.1]; omega)⟩
      obtain ⟨y, hy⟩ : ∃ y, ys[k]? = some y := ⟨_, List.getElem?_eq_getElem (by rw [HL.out.2]; omega)⟩
      have HN : Hid (x = y → xs.take (k + 1) = ys.take (k + 1)) := Lib.hid (fun e => eq_next HT.out hx (by rw [e]; exact hy))
      have HE : Hid (¬ x = y → b = false) := Lib.hid (fun e => eq_at HBB.out hx hy e)
      obtain ⟨b', off, rfl, hlt, g0⟩ := es_at (HA.out.later HB.out) hx
      obtain ⟨b'', off', rfl, hlt', g1⟩ := es_at (HB2.out.later HB.out) hy
      clear hx hy hlt hlt'
      by_cases hxy : x = y
      · have HN2 := Lib.hid (HN.out hxy)
        subst hxy
        go_wp2_with fail
        go_quiet (fail)
        go_wp2
        exact ⟨⟨k + 1, by omega, by simp, HN2, bel_drewN HB.out _⟩, by simp [intOf]; omega⟩
      · have HF := Lib.hid (HE.out hxy)
        have h' := bne_l hxy
        clear HE HN
        go_wp2_with fail
        go_quiet (fail)
        go_wp2
        go_ret
        exact ⟨by rw [HF.out]; rfl, bel_drewN HB.out _⟩
    · have hk1 : ¬ (k : Int) < (n : Int) := by omega
      have HF := Lib.hid (eq_end HBB.out HT.out (by rw [HL.out.1]; omega) (by rw [HL.out.2]; omega))
      go_wp2
      go_ret
      exact ⟨by rw [HF.out]; rfl, HB.out⟩
set_option maxRecDepth 10000 in
set_option maxHeartbeats 4000000 in
theorem msame_any (A B : Option Addr) (n m c d : Nat) (xs ys : List M) (b : Bool) (w : World) (hb : b = true ↔ xs = ys) (hl : xs.length = n) (hm : ys.length = m) (hn : n ≤ 1000000) (hA : EM.Rd w A xs) (hB : EM.Rd w B ys) :
    Calls Tryz.prog 50 #[.slice A n c, .slice B m d] w fun r w' => r = .returned (.bool b) ∧ Below w.heap.size w w' := by
  by_cases hnm : n = m
  rotate_left
  · have hq : ¬ (n : Int) = (m : Int) := by omega
    have HF := Lib.hid (eq_len hb (by rw [hl, hm]; exact hnm))
    clear hb hl hm hn hA hB hnm
    go_enter Tryz.func50, Tryz.ntmps50
    go_wp2
    go_ret
    exact ⟨by rw [HF.out]; rfl, Below.refl _ _⟩
  subst hnm
  have HNN := Lib.hid hn
  have HL := Lib.hid (And.intro hl hm)
  have HA := Lib.hid hA
  have HB2 := Lib.hid hB
  have HBB := Lib.hid hb
  clear hl hm hA hB hb
  go_enter Tryz.func50, Tryz.ntmps50
  go_upto_region 4 with fail
  go_loopw [5] (fun iv wr => ∃ (k : Nat), k ≤ n ∧ iv = .int .i64 k ∧ Hid (xs.take k = ys.take k) ∧ Below w.heap.size w wr) (fun i _ => n - (intOf i).toNat)
  case atStart => exact ⟨0, by omega, rfl, Lib.hid rfl, Below.refl _ _⟩
  case round =>
    obtain ⟨k, hk, rfl, HT, hb⟩ := hrel
    have HB := Lib.hid hb
    clear hb
    by_cases h8 : k < n
    · have hk1 : (k : Int) < (n : Int) := by omega
      have hk0 : (0 : Int) ≤ (k : Int) := by omega
      have WK : IntKind.i64.wrap ((k : Int) + 1) = (k : Int) + 1 := IntWalk.i64_in _ (by have := HNN.out; omega)
      obtain ⟨x, hx⟩ : ∃ x, xs[k]? = some x := ⟨_, List.getElem?_eq_getElem (by rw [HL.out.1]; omega)⟩
      obtain ⟨y, hy⟩ : ∃ y, ys[k]? = some y := ⟨_, List.getElem?_eq_getElem (by rw [HL.out.2]; omega)⟩
      have HN : Hid (x = y → xs.take (k + 1) = ys.take (k + 1)) := Lib.hid (fun e => eq_next HT.out hx (by rw [e]; exact hy))
      have HE : Hid (¬ x = y → b = false) := Lib.hid (fun e => eq_at HBB.out hx hy e)
      obtain ⟨b', off, rfl, hlt, hc⟩ := (HA.out.later HB.out).get hx
      obtain ⟨b'', off', rfl, hlt', hd⟩ := (HB2.out.later HB.out).get hy
      obtain ⟨mk, mq, mkey, mtoo, mval, mdl⟩ := x
      obtain ⟨nk, nq, nkey, ntoo, nval, ndl⟩ := y
      have g0 : wr.cell? ⟨b', off + k * 6, none⟩ = some (.int .u8 mk) := hc 0 _ rfl
      have g1 : wr.cell? ⟨b', off + k * 6 + 1, none⟩ = some (.int .i64 mq) := hc 1 _ rfl
      have g2 : wr.cell? ⟨b', off + k * 6 + 2, none⟩ = some (.string mkey) := hc 2 _ rfl
      have g3 : wr.cell? ⟨b', off + k * 6 + 3, none⟩ = some (.string mtoo) := hc 3 _ rfl
      have g4 : wr.cell? ⟨b', off + k * 6 + 4, none⟩ = some (.string mval) := hc 4 _ rfl
      have g5 : wr.cell? ⟨b', off + k * 6 + 5, none⟩ = some (.int .u64 mdl) := hc 5 _ rfl
      have e0 : wr.cell? ⟨b'', off' + k * 6, none⟩ = some (.int .u8 nk) := hd 0 _ rfl
      have e1 : wr.cell? ⟨b'', off' + k * 6 + 1, none⟩ = some (.int .i64 nq) := hd 1 _ rfl
      have e2 : wr.cell? ⟨b'', off' + k * 6 + 2, none⟩ = some (.string nkey) := hd 2 _ rfl
      have e3 : wr.cell? ⟨b'', off' + k * 6 + 3, none⟩ = some (.string ntoo) := hd 3 _ rfl
      have e4 : wr.cell? ⟨b'', off' + k * 6 + 4, none⟩ = some (.string nval) := hd 4 _ rfl
      have e5 : wr.cell? ⟨b'', off' + k * 6 + 5, none⟩ = some (.int .u64 ndl) := hd 5 _ rfl
      clear hx hy hlt hlt' hc hd
      by_cases hxy : (⟨mk, mq, mkey, mtoo, mval, mdl⟩ : M) = ⟨nk, nq, nkey, ntoo, nval, ndl⟩
      · have HN2 := Lib.hid (HN.out hxy)
        injection hxy with q0 q1 q2 q3 q4 q5
        subst q0 q1 q2 q3 q4 q5
        go_wp2_with fail
        go_quiet (fail)
        go_wp2
        exact ⟨⟨k + 1, by omega, by simp, HN2, bel_drewN HB.out _⟩, by simp [intOf]; omega⟩
      · have HF := Lib.hid (HE.out hxy)
        rcases m_diff hxy with h | ⟨rfl, h⟩ | ⟨rfl, rfl, h⟩ | ⟨rfl, rfl, rfl, h⟩ | ⟨rfl, rfl, rfl, rfl, h⟩ | ⟨rfl, rfl, rfl, rfl, rfl, h⟩
        all_goals
          clear hxy HE HN
          try have h' := bne_l h
          go_wp2_with fail
          go_quiet (fail)
          go_wp2
          go_ret
          exact ⟨by rw [HF.out]; rfl, bel_drewN HB.out _⟩
    · have hk1 : ¬ (k : Int) < (n : Int) := by omega
      have HF := Lib.hid (eq_end HBB.out HT.out (by rw [HL.out.1]; omega) (by rw [HL.out.2]; omega))
      go_wp2
      go_ret
      exact ⟨by rw [HF.out]; rfl, HB.out⟩
end Go.Proofs.YtdebedeebmmleaaGreatDoor
