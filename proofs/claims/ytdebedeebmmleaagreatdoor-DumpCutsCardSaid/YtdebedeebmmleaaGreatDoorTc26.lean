/- The document's Same of nodes, and of trees. -/
import Derived.Test.YtdebedeebmmleaaGreatDoorTc01
import Derived.Test.YtdebedeebmmleaaGreatDoorTc25
set_option linter.unusedVariables false
set_option linter.unusedSimpArgs false
namespace Go.Proofs.YtdebedeebmmleaaGreatDoor
open Go.RowKit Go.Maps
theorem bool_ex (p : Prop) : ∃ b : Bool, b = true ↔ p := by
  by_cases h : p
  · exact ⟨true, by simp [h]⟩
  · exact ⟨false, by simp [h]⟩
theorem nd_eq {y z : NdV} (h : y.k = z.k ∧ y.piv = z.piv ∧ y.kids = z.kids ∧ y.ms = z.ms ∧ y.bl = z.bl) : y = z := by
  cases y; cases z; simp at h; obtain ⟨h1, h2, h3, h4, h5⟩ := h; subst h1 h2 h3 h4 h5; rfl
theorem no_if {b : Bool} {p q : Prop} (hb : b = true ↔ p) (hp : p → q) (h : ¬ q) : b = false := by
  cases b with
  | false => rfl
  | true => exact absurd (hp (hb.1 rfl)) h
theorem ne_at {α : Type} {xs ys : List α} {k : Nat} {x y : α} (hx : xs[k]? = some x) (hy : ys[k]? = some y) (h : ¬ x = y) : ¬ xs = ys := fun e => by
  subst e
  rw [hx] at hy
  injection hy with hy
  exact h hy
/-- Two nodes in boxes. -/
structure Bx2 (g g' np np' nq nq' nm nm' nl nl' : Nat) (k k' : Int) (x x' : NC) (V : World) : Prop where
  a0 : V.cell? ⟨g, 0, none⟩ = some (.int .u8 k)
  a1 : V.cell? ⟨g, 1, none⟩ = some (.slice x.p.A np x.p.c)
  a2 : V.cell? ⟨g, 2, none⟩ = some (.slice x.q.A nq x.q.c)
  a3 : V.cell? ⟨g, 3, none⟩ = some (.slice x.m.A nm x.m.c)
  a4 : V.cell? ⟨g, 4, none⟩ = some (.slice x.b.A nl x.b.c)
  b0 : V.cell? ⟨g', 0, none⟩ = some (.int .u8 k')
  b1 : V.cell? ⟨g', 1, none⟩ = some (.slice x'.p.A np' x'.p.c)
  b2 : V.cell? ⟨g', 2, none⟩ = some (.slice x'.q.A nq' x'.q.c)
  b3 : V.cell? ⟨g', 3, none⟩ = some (.slice x'.m.A nm' x'.m.c)
  b4 : V.cell? ⟨g', 4, none⟩ = some (.slice x'.b.A nl' x'.b.c)
set_option maxHeartbeats 8000000 in
set_option maxRecDepth 100000 in
theorem nsame_any (x x' : NC) (hs hs' : List Hd) (y y' : NdV) (b : Bool) (w : World) (hb : b = true ↔ y = y') (hN : NRd w x hs y) (hN' : NRd w x' hs' y') (hS : NSm y) (hS' : NSm y') :
    Calls Tryz.prog 29 #[nodeA x, nodeA x'] w fun e w' => e = .returned (.bool b) ∧ Below w.heap.size w w' := by
  have FK := Lib.hid (fun h : ¬ y.k = y'.k => no_if hb (fun e => by rw [e]) h)
  have FP := Lib.hid (fun h : ¬ y.piv = y'.piv => no_if hb (fun e => by rw [e]) h)
  have FQ := Lib.hid (fun h : ¬ y.kids = y'.kids => no_if hb (fun e => by rw [e]) h)
  have FM := Lib.hid (fun h : ¬ y.ms = y'.ms => no_if hb (fun e => by rw [e]) h)
  have FB := Lib.hid (fun h : ¬ y.bl = y'.bl => no_if hb (fun e => by rw [e]) h)
  have YES := Lib.hid (fun h : y.k = y'.k ∧ y.piv = y'.piv ∧ y.kids = y'.kids ∧ y.ms = y'.ms ∧ y.bl = y'.bl => hb.2 (nd_eq h))
  obtain ⟨np, hp⟩ : ∃ n, n = y.piv.length := ⟨_, rfl⟩
  obtain ⟨np', hp'⟩ : ∃ n, n = y'.piv.length := ⟨_, rfl⟩
  obtain ⟨nq, hq⟩ : ∃ n, n = y.kids.length := ⟨_, rfl⟩
  obtain ⟨nq', hq'⟩ : ∃ n, n = y'.kids.length := ⟨_, rfl⟩
  obtain ⟨nm, hm⟩ : ∃ n, n = y.ms.length := ⟨_, rfl⟩
  obtain ⟨nm', hm'⟩ : ∃ n, n = y'.ms.length := ⟨_, rfl⟩
  obtain ⟨nl, hl⟩ : ∃ n, n = y.bl.length := ⟨_, rfl⟩
  obtain ⟨nl', hl'⟩ : ∃ n, n = y'.bl.length := ⟨_, rfl⟩
  obtain ⟨k0, hk0⟩ : ∃ k, k = y.k := ⟨_, rfl⟩
  obtain ⟨k1, hk1⟩ : ∃ k, k = y'.k := ⟨_, rfl⟩
  have HLEN := Lib.hid (show (np = y.piv.length ∧ np' = y'.piv.length ∧ nq = y.kids.length ∧ nq' = y'.kids.length) ∧ (nm = y.ms.length ∧ nm' = y'.ms.length ∧ nl = y.bl.length ∧ nl' = y'.bl.length) ∧ k0 = y.k ∧ k1 = y'.k from ⟨⟨hp, hp', hq, hq'⟩, ⟨hm, hm', hl, hl'⟩, hk0, hk1⟩)
  obtain ⟨W0, hW0⟩ : ∃ W0, W0 = (w.alloc (nodeO x)).alloc (nodeO x') := ⟨_, rfl⟩
  have B0 := Lib.hid (show Below w.heap.size w W0 by rw [hW0]; exact bel_alloc (alb w _) _)
  have Z0 := Lib.hid (show W0.heap[w.heap.size]? = some (nodeO x) by rw [hW0]; exact keep_bel (alb _ _) (heap_alloc_new w _))
  have Z1 := Lib.hid (show W0.heap[w.heap.size + 1]? = some (nodeO x') by
    rw [hW0]
    have := heap_alloc_new (w.alloc (nodeO x)) (nodeO x')
    simpa using this)
  have UP := Lib.hid (fun V (h : Below W0.heap.size W0 V) => (show Bx2 w.heap.size (w.heap.size + 1) np np' nq nq' nm nm' nl nl' k0 k1 x x' V by
    obtain ⟨a0, a1, a2, a3, a4⟩ := cells5 (keep_bel h Z0.out)
    obtain ⟨b0, b1, b2, b3, b4⟩ := cells5 (keep_bel h Z1.out)
    exact ⟨by rw [hk0, ← hN.k]; exact a0, by rw [hp, ← hN.p.1]; exact a1, by rw [hq, ← hN.q.1]; exact a2, by rw [hm, ← hN.m.1]; exact a3, by rw [hl, ← hN.b.2.2.1, ← hN.b.1]; exact a4,
      by rw [hk1, ← hN'.k]; exact b0, by rw [hp', ← hN'.p.1]; exact b1, by rw [hq', ← hN'.q.1]; exact b2, by rw [hm', ← hN'.m.1]; exact b3, by rw [hl', ← hN'.b.2.2.1, ← hN'.b.1]; exact b4⟩))
  have HN := Lib.hid (hN.later B0.out)
  have HN' := Lib.hid (hN'.later B0.out)
  have HS := Lib.hid (And.intro hS hS')
  clear hb hN hN' hS hS' hp hp' hq hq' hm hm' hl hl' hk0 hk1
  obtain ⟨c0, c1, c2, c3, c4, d0, d1, d2, d3, d4⟩ := UP.out W0 (Below.refl _ _)
  by_cases e1 : k0 = k1
  rotate_left
  · have HF := Lib.hid (FK.out (by rw [← HLEN.out.2.2.1, ← HLEN.out.2.2.2]; exact e1))
    go_enter Tryz.func29, Tryz.ntmps29
    go_upto_region 1 with fail
    rw [← hW0]
    clear hW0
    go_wp2
    go_ret
    exact ⟨by rw [HF.out]; try rfl, B0.out⟩
  have HK := Lib.hid (show y.k = y'.k by rw [← HLEN.out.2.2.1, ← HLEN.out.2.2.2]; exact e1)
  subst e1
  by_cases e2 : nq = nq'
  rotate_left
  · have f2 : ¬ (nq : Int) = (nq' : Int) := by omega
    have HF := Lib.hid (FQ.out (fun h => e2 (by rw [HLEN.out.1.2.2.1, HLEN.out.1.2.2.2, h])))
    clear e2
    go_enter Tryz.func29, Tryz.ntmps29
    go_upto_region 1 with fail
    rw [← hW0]
    clear hW0
    go_wp2
    go_ret
    exact ⟨by rw [HF.out]; try rfl, B0.out⟩
  by_cases e3 : nl = nl'
  rotate_left
  · subst e2
    have f3 : ¬ (nl : Int) = (nl' : Int) := by omega
    have HF := Lib.hid (FB.out (fun h => e3 (by rw [HLEN.out.2.1.2.2.1, HLEN.out.2.1.2.2.2, h])))
    clear e3
    go_enter Tryz.func29, Tryz.ntmps29
    go_upto_region 1 with fail
    rw [← hW0]
    clear hW0
    go_wp2
    go_ret
    exact ⟨by rw [HF.out]; try rfl, B0.out⟩
  subst e2 e3
  go_enter Tryz.func29, Tryz.ntmps29
  go_upto_region 1 with fail
  rw [← hW0]
  clear hW0
  go_upto_region 4 with fail
  clear c0 c1 c2 c3 c4 d0 d1 d2 d3 d4
  go_loopw [5] (fun iv wr => ∃ k : Nat, k ≤ nq ∧ iv = .int .i64 k ∧ Hid (y.kids.take k = y'.kids.take k) ∧ Below W0.heap.size W0 wr) (fun iv _ => nq - (intOf iv).toNat)
  case atStart => exact ⟨0, by omega, rfl, Lib.hid rfl, Below.refl _ _⟩
  case round =>
    rename World => w4
    obtain ⟨k, hk, rfl, HT, hb⟩ := hrel
    have HB := Lib.hid hb
    clear hb
    obtain ⟨c0, c1, c2, c3, c4, d0, d1, d2, d3, d4⟩ := UP.out w4 HB.out
    by_cases h8 : k < nq
    · have q1 : (k : Int) < (nq : Int) := by omega
      have q0 : (0 : Int) ≤ (k : Int) := by omega
      have WK : IntKind.i64.wrap ((k : Int) + 1) = (k : Int) + 1 := IntWalk.i64_in _ (by have := HS.out.1.q; have := HLEN.out.1; omega)
      obtain ⟨u, hu⟩ : ∃ u, y.kids[k]? = some u := ⟨_, List.getElem?_eq_getElem (by have := HLEN.out.1; omega)⟩
      obtain ⟨v, hv⟩ : ∃ v, y'.kids[k]? = some v := ⟨_, List.getElem?_eq_getElem (by have := HLEN.out.1; omega)⟩
      obtain ⟨b2, off, hA, hlt, g0⟩ := ei_at (HN.out.q.2.later HB.out) hu
      obtain ⟨b3, off3, hA3, hlt3, g1⟩ := ei_at (HN'.out.q.2.later HB.out) hv
      rw [hA] at c2
      rw [hA3] at d2
      have HNX : Hid (u = v → y.kids.take (k + 1) = y'.kids.take (k + 1)) := Lib.hid (fun e => eq_next HT.out hu (by rw [e]; exact hv))
      have HNE : Hid (¬ u = v → b = false) := Lib.hid (fun e => FQ.out (ne_at hu hv e))
      clear hu hv hA hA3 hlt hlt3 c0 c1 c3 c4 d0 d1 d3 d4
      by_cases huv : u = v
      · have HN2 := Lib.hid (HNX.out huv)
        subst huv
        go_wp2_with fail
        go_quiet (fail)
        go_wp2
        exact ⟨⟨k + 1, by omega, by simp, HN2, bel_drewN HB.out _⟩, by simp [intOf]; omega⟩
      · have HF := Lib.hid (HNE.out huv)
        clear HNX HNE
        go_wp2_with fail
        go_quiet (fail)
        go_wp2
        go_ret
        exact ⟨by rw [HF.out]; try rfl, bel_drewN (B0.out.trans (HB.out.mono B0.out.size)) _⟩
    · have hke : k = nq := by omega
      subst hke
      have q1 : ¬ (k : Int) < (k : Int) := by omega
      have HKK := Lib.hid (show y.kids = y'.kids by have h := HT.out; rw [List.take_of_length_le (by have := HLEN.out.1; omega), List.take_of_length_le (by have := HLEN.out.1; omega)] at h; exact h)
      go_upto_region 9 with fail
      clear c0 c1 c2 c3 c4 d0 d1 d2 d3 d4
      go_loopw [6, 7] (fun iv jv wr => ∃ i : Nat, i ≤ nl ∧ iv = .int .i64 i ∧ Hid (y.bl.take i = y'.bl.take i) ∧ Below W0.heap.size W0 wr) (fun iv _ _ => nl - (intOf iv).toNat)
      case atStart => exact ⟨0, by omega, rfl, Lib.hid rfl, HB.out⟩
      case round =>
        rename World => w5
        obtain ⟨i, hi, rfl, HTB, hb5⟩ := hrel
        have HB5 := Lib.hid hb5
        clear hb5
        obtain ⟨c0, c1, c2, c3, c4, d0, d1, d2, d3, d4⟩ := UP.out w5 HB5.out
        by_cases h9 : i < nl
        · have i1 : (i : Int) < (nl : Int) := by omega
          have i0 : (0 : Int) ≤ (i : Int) := by omega
          have WI : IntKind.i64.wrap ((i : Int) + 1) = (i : Int) + 1 := IntWalk.i64_in _ (by have := HS.out.1.b.1; have := HLEN.out.2.1; omega)
          have hbN := HN.out.b
          have hbN' := HN'.out.b
          obtain ⟨l0, hl0⟩ : ∃ u, y.bl[i]? = some u := ⟨_, List.getElem?_eq_getElem (by have := HLEN.out.2.1; omega)⟩
          obtain ⟨l1, hl1⟩ : ∃ u, y'.bl[i]? = some u := ⟨_, List.getElem?_eq_getElem (by have := HLEN.out.2.1; omega)⟩
          obtain ⟨h0, hh0⟩ : ∃ u, hs[i]? = some u := ⟨_, List.getElem?_eq_getElem (by have := HLEN.out.2.1; omega)⟩
          obtain ⟨h1, hh1⟩ : ∃ u, hs'[i]? = some u := ⟨_, List.getElem?_eq_getElem (by have := HLEN.out.2.1; omega)⟩
          obtain ⟨b2, off, hA, hlt, g00⟩ := eh_at hbN.2.1 hh0
          obtain ⟨b3, off3, hA3, hlt3, g10⟩ := eh_at hbN'.2.1 hh1
          obtain ⟨r1, r2⟩ := hbN.2.2.2 i h0 l0 hh0 hl0
          obtain ⟨r3, r4⟩ := hbN'.2.2.2 i h1 l1 hh1 hl1
          obtain ⟨m, hm⟩ : ∃ m, m = l0.length := ⟨_, rfl⟩
          obtain ⟨m', hm'⟩ : ∃ m, m = l1.length := ⟨_, rfl⟩
          rw [hA] at c4
          rw [hA3] at d4
          rw [r1, ← hm] at g00
          rw [r3, ← hm'] at g10
          have g0 := bel_later HB5.out g00
          have g1 := bel_later HB5.out g10
          have HCC := Lib.hid (fun V (h : Below W0.heap.size W0 V) => (show V.cell? ⟨w.heap.size, 4, none⟩ = some (.slice (some ⟨b2, off, none⟩) nl x.b.c) ∧ V.cell? ⟨w.heap.size + 1, 4, none⟩ = some (.slice (some ⟨b3, off3, none⟩) nl x'.b.c) ∧ V.cell? ⟨b2, off + i, none⟩ = some (.slice h0.A m h0.c) ∧ V.cell? ⟨b3, off3 + i, none⟩ = some (.slice h1.A m' h1.c) from ⟨by rw [← hA]; exact (UP.out V h).a4, by rw [← hA3]; exact (UP.out V h).b4, bel_later h g00, bel_later h g10⟩))
          have HR0 := Lib.hid r2
          have HR1 := Lib.hid r4
          have HM := Lib.hid (show m = l0.length ∧ m' = l1.length ∧ m ≤ 400000 from ⟨hm, hm', by rw [hm]; exact (HS.out.1.b.2 l0 (List.mem_of_getElem? hl0)).1⟩)
          have HNX : Hid (l0 = l1 → y.bl.take (i + 1) = y'.bl.take (i + 1)) := Lib.hid (fun e => eq_next HTB.out hl0 (by rw [e]; exact hl1))
          have HNE : Hid (¬ l0 = l1 → b = false) := Lib.hid (fun e => FB.out (ne_at hl0 hl1 e))
          clear g00 g10 hbN hbN' hl0 hl1 hh0 hh1 hA hA3 hlt hlt3 r1 r2 r3 r4 hm hm' c0 c1 c2 c3 d0 d1 d2 d3
          by_cases hmm : m = m'
          rotate_left
          · have hq : ¬ (m : Int) = (m' : Int) := by omega
            have HF := Lib.hid (HNE.out (fun e => hmm (by rw [HM.out.1, HM.out.2.1, e])))
            clear hmm
            go_wp2_with fail
            go_quiet (fail)
            go_wp2
            go_ret
            exact ⟨by rw [HF.out]; try rfl, bel_drewN (B0.out.trans (HB5.out.mono B0.out.size)) _⟩
          subst hmm
          go_upto_region 11 with fail
          go_quiet (fail)
          go_upto_region 14 with fail
          clear c4 d4 g0 g1
          go_loopw [7] (fun jv wr => ∃ j : Nat, j ≤ m ∧ jv = .int .i64 j ∧ Hid (l0.take j = l1.take j) ∧ Below W0.heap.size W0 wr) (fun jv _ => m - (intOf jv).toNat)
          case atStart => exact ⟨0, by omega, rfl, Lib.hid rfl, bel_drewN HB5.out _⟩
          case round =>
            rename World => w6
            obtain ⟨j, hj, rfl, HTJ, hb6⟩ := hrel
            have HB6 := Lib.hid hb6
            clear hb6
            obtain ⟨c4, d4, g0, g1⟩ := HCC.out w6 HB6.out
            by_cases h10 : j < m
            · have j1 : (j : Int) < (m : Int) := by omega
              have j0 : (0 : Int) ≤ (j : Int) := by omega
              have WJ : IntKind.i64.wrap ((j : Int) + 1) = (j : Int) + 1 := IntWalk.i64_in _ (by have := HM.out; omega)
              obtain ⟨u, hu⟩ : ∃ u, l0[j]? = some u := ⟨_, List.getElem?_eq_getElem (by have := HM.out; omega)⟩
              obtain ⟨v, hv⟩ : ∃ u, l1[j]? = some u := ⟨_, List.getElem?_eq_getElem (by have := HM.out; omega)⟩
              obtain ⟨b4, o4, hA4, hlt4, e0, e1⟩ := ee_at (HR0.out.later HB6.out) hu
              obtain ⟨b5, o5, hA5, hlt5, e2, e3⟩ := ee_at (HR1.out.later HB6.out) hv
              rw [hA4] at g0
              rw [hA5] at g1
              have HNXJ : Hid (u = v → l0.take (j + 1) = l1.take (j + 1)) := Lib.hid (fun e => eq_next HTJ.out hu (by rw [e]; exact hv))
              have HNEJ : Hid (¬ u = v → b = false) := Lib.hid (fun e => HNE.out (ne_at hu hv e))
              clear hu hv hA4 hA5 hlt4 hlt5
              obtain ⟨xk, xv⟩ := u
              obtain ⟨yk, yv⟩ := v
              simp only at e0 e1 e2 e3
              by_cases hxy : (⟨xk, xv⟩ : EnV) = ⟨yk, yv⟩
              · have HN2 := Lib.hid (HNXJ.out hxy)
                injection hxy with q0 q1
                subst q0 q1
                go_wp2_with fail
                go_quiet (fail)
                go_wp2
                exact ⟨⟨j + 1, by omega, by simp, HN2, bel_drewN HB6.out _⟩, by simp [intOf]; omega⟩
              · have HF := Lib.hid (HNEJ.out hxy)
                have hd2 : ¬ xk = yk ∨ (xk = yk ∧ ¬ xv = yv) := by
                  by_cases h : xk = yk
                  · exact .inr ⟨h, fun e => hxy (by rw [h, e])⟩
                  · exact .inl h
                rcases hd2 with h | ⟨rfl, h⟩
                all_goals
                  clear hxy HNXJ HNEJ
                  have h' := bne_l h
                  go_wp2_with fail
                  go_quiet (fail)
                  go_wp2
                  go_ret
                  exact ⟨by rw [HF.out]; try rfl, bel_drewN (B0.out.trans (HB6.out.mono B0.out.size)) _⟩
            · have hje : j = m := by omega
              subst hje
              have j1 : ¬ (j : Int) < (j : Int) := by omega
              have HLL := Lib.hid (HNX.out (by have h := HTJ.out; rw [List.take_of_length_le (by have := HM.out; omega), List.take_of_length_le (by have := HM.out; omega)] at h; exact h))
              clear HNX HNE
              go_wp2
              exact ⟨⟨i + 1, by omega, rfl, HLL, HB6.out⟩, by simp [intOf]; omega⟩
        · have hie : i = nl := by omega
          subst hie
          have i1 : ¬ (i : Int) < (i : Int) := by omega
          have HBB := Lib.hid (show y.bl = y'.bl by have h := HTB.out; rw [List.take_of_length_le (by have := HLEN.out.2.1; omega), List.take_of_length_le (by have := HLEN.out.2.1; omega)] at h; exact h)
          obtain ⟨bp, hbp⟩ := bool_ex (y.piv = y'.piv)
          obtain ⟨bm, hbm⟩ := bool_ex (y.ms = y'.ms)
          have SP := Lib.hid (ssame_any x.p.A x'.p.A np np' x.p.c x'.p.c y.piv y'.piv bp w5 hbp HLEN.out.1.1.symm HLEN.out.1.2.1.symm (by have := HS.out.1.p.1; have := HLEN.out.1; omega) (HN.out.p.2.later HB5.out) (HN'.out.p.2.later HB5.out))
          have SM := Lib.hid (fun V (h : Below w5.heap.size w5 V) => msame_any x.m.A x'.m.A nm nm' x.m.c x'.m.c y.ms y'.ms bm V hbm HLEN.out.2.1.1.symm HLEN.out.2.1.2.1.symm (by have := HS.out.1.m.1; have := HLEN.out.2.1; omega) ((HN.out.m.2.later HB5.out).later h) ((HN'.out.m.2.later HB5.out).later h))
          clear c0 c2 d0 d2 d4
          cases bp with
          | false =>
            have HF := Lib.hid (FP.out (fun e => by have := hbp.2 e; cases this))
            clear hbp hbm
            go_wp2_with (first
              | (go_at_call 49; ((with_reducible refine SP.out.mono ?_); rintro e w6 ⟨rfl, b6⟩; have B6 := Lib.hid (bel_trans HB5.out b6); clear b6))
              | fail)
            go_ret
            exact ⟨by rw [HF.out]; try rfl, B0.out.trans (B6.out.mono B0.out.size)⟩
          | true =>
            have HPP := Lib.hid (hbp.1 rfl)
            have HRES : Hid (b = bm) := Lib.hid (by
              cases bm with
              | true => exact YES.out ⟨HK.out, HPP.out, HKK.out, hbm.1 rfl, HBB.out⟩
              | false => exact FM.out (fun e => by have := hbm.2 e; cases this))
            clear hbp hbm
            go_wp2_with (first
              | (go_at_call 49; ((with_reducible refine SP.out.mono ?_); rintro e w6 ⟨rfl, b6⟩; have B6 := Lib.hid b6; obtain ⟨_, c1, _, c3, _, _, d1, _, d3, _⟩ := UP.out w6 (bel_trans HB5.out b6); clear b6))
              | (go_at_call 50; ((with_reducible refine (SM.out _ B6.out).mono ?_); rintro e w7 ⟨rfl, b7⟩; have B7 := Lib.hid (bel_trans (bel_trans HB5.out B6.out) b7); clear b7))
              | fail)
            go_ret
            exact ⟨by rw [HRES.out]; try rfl, B0.out.trans (B7.out.mono B0.out.size)⟩
set_option maxHeartbeats 4000000 in
set_option maxRecDepth 100000 in
theorem tsame_any (A A' : Option Addr) (n n' c c' : Nat) (ns ns' : List NC) (ys ys' : List NdV) (b : Bool) (w : World) (hb : b = true ↔ ys = ys') (hT : NT w A ns ys) (hT' : NT w A' ns' ys') (hl : ys.length = n) (hl' : ys'.length = n') (hn : n ≤ 1000000) (hS : ∀ y ∈ ys, NSm y) (hS' : ∀ y ∈ ys', NSm y) :
    Calls Tryz.prog 14 #[.agg #[.slice A n c], .agg #[.slice A' n' c']] w fun e w' => e = .returned (.bool b) ∧ Below w.heap.size w w' := by
  have NO := Lib.hid (fun h : ¬ ys = ys' => no_if hb (fun e => e) h)
  have YES := Lib.hid hb.2
  obtain ⟨W0, hW0⟩ : ∃ W0, W0 = (w.alloc (.cells #[.slice A n c] 24)).alloc (.cells #[.slice A' n' c'] 24) := ⟨_, rfl⟩
  have B0 := Lib.hid (show Below w.heap.size w W0 by rw [hW0]; exact bel_alloc (alb w _) _)
  have Z0 := Lib.hid (show W0.heap[w.heap.size]? = some (.cells #[.slice A n c] 24 (0, 0)) by rw [hW0]; exact keep_bel (alb _ _) (heap_alloc_new w _))
  have Z1 := Lib.hid (show W0.heap[w.heap.size + 1]? = some (.cells #[.slice A' n' c'] 24 (0, 0)) by
    rw [hW0]
    have := heap_alloc_new (w.alloc (.cells #[.slice A n c] 24)) (.cells #[.slice A' n' c'] 24)
    simpa using this)
  have c0 : W0.cell? ⟨w.heap.size, 0, none⟩ = some (.slice A n c) := cellh Z0.out rfl
  have d0 : W0.cell? ⟨w.heap.size + 1, 0, none⟩ = some (.slice A' n' c') := cellh Z1.out rfl
  have HT := Lib.hid hT
  have HT' := Lib.hid hT'
  have HS := Lib.hid (And.intro hS hS')
  by_cases hnn : n = n'
  rotate_left
  · have f1 : ¬ (n : Int) = (n' : Int) := by omega
    have HF := Lib.hid (NO.out (fun e => hnn (by rw [← hl, ← hl', e])))
    clear hnn hb hT hT' hl hl' hn hS hS'
    go_enter Tryz.func14, Tryz.ntmps14
    go_upto_region 1 with fail
    rw [← hW0]
    clear hW0
    go_wp2
    go_ret
    exact ⟨by rw [HF.out]; try rfl, B0.out⟩
  subst hnn
  have HL := Lib.hid (show ys.length = n ∧ ys'.length = n ∧ n ≤ 1000000 from ⟨hl, hl', hn⟩)
  clear hb hT hT' hl hl' hn hS hS'
  go_enter Tryz.func14, Tryz.ntmps14
  go_upto_region 1 with fail
  rw [← hW0]
  clear hW0
  go_upto_region 4 with fail
  clear c0 d0
  go_loopw [5] (fun iv wr => ∃ k : Nat, k ≤ n ∧ iv = .int .i64 k ∧ Hid (ys.take k = ys'.take k) ∧ Below W0.heap.size W0 wr) (fun iv _ => n - (intOf iv).toNat)
  case atStart => exact ⟨0, by omega, rfl, Lib.hid rfl, Below.refl _ _⟩
  case round =>
    rename World => w4
    obtain ⟨k, hk, rfl, HTK, hb⟩ := hrel
    have HB := Lib.hid hb
    clear hb
    have BW := Lib.hid (B0.out.trans (HB.out.mono B0.out.size))
    have c0 : w4.cell? ⟨w.heap.size, 0, none⟩ = some (.slice A n c) := cellh (keep_bel HB.out Z0.out) rfl
    have d0 : w4.cell? ⟨w.heap.size + 1, 0, none⟩ = some (.slice A' n c') := cellh (keep_bel HB.out Z1.out) rfl
    by_cases h8 : k < n
    · have q1 : (k : Int) < (n : Int) := by omega
      have q0 : (0 : Int) ≤ (k : Int) := by omega
      have WK : IntKind.i64.wrap ((k : Int) + 1) = (k : Int) + 1 := IntWalk.i64_in _ (by have := HL.out; omega)
      obtain ⟨y, hy⟩ : ∃ u, ys[k]? = some u := ⟨_, List.getElem?_eq_getElem (by have := HL.out; omega)⟩
      obtain ⟨y', hy'⟩ : ∃ u, ys'[k]? = some u := ⟨_, List.getElem?_eq_getElem (by have := HL.out; omega)⟩
      obtain ⟨x, hx⟩ : ∃ u, ns[k]? = some u := ⟨_, List.getElem?_eq_getElem (by have := HL.out; have := HT.out.l; omega)⟩
      obtain ⟨x', hx'⟩ : ∃ u, ns'[k]? = some u := ⟨_, List.getElem?_eq_getElem (by have := HL.out; have := HT'.out.l; omega)⟩
      obtain ⟨hs, hN⟩ := HT.out.e k x y hx hy
      obtain ⟨hs', hN'⟩ := HT'.out.e k x' y' hx' hy'
      obtain ⟨b2, off, hA, hlt, g0, g1, g2, g3, g4⟩ := en_at (HT.out.r.later BW.out) hx
      obtain ⟨b3, off3, hA3, hlt3, e0, e1, e2, e3, e4⟩ := en_at (HT'.out.r.later BW.out) hx'
      rw [hA] at c0
      rw [hA3] at d0
      obtain ⟨bn, hbn⟩ := bool_ex (y = y')
      have SN := Lib.hid (fun V (h : Below w4.heap.size w4 V) => nsame_any x x' hs hs' y y' bn V hbn ((hN.later BW.out).later h) ((hN'.later BW.out).later h) (HS.out.1 y (List.mem_of_getElem? hy)) (HS.out.2 y' (List.mem_of_getElem? hy')))
      have HNX : Hid (y = y' → ys.take (k + 1) = ys'.take (k + 1)) := Lib.hid (fun e => eq_next HTK.out hy (by rw [e]; exact hy'))
      have HNE : Hid (¬ y = y' → b = false) := Lib.hid (fun e => NO.out (ne_at hy hy' e))
      have HBN := Lib.hid hbn
      clear hx hx' hy hy' hN hN' hA hA3 hlt hlt3 hbn
      cases bn with
      | true =>
        have HN2 := Lib.hid (HNX.out (HBN.out.1 rfl))
        clear HNX HNE HBN
        go_upto_region 6 with fail
        refine wp_region_held_drew (S := (fun V : World => Below w4.heap.size w4 V)) (by kernel_rfl) ?_ (fun hHeld => ?_)
        · exact (Below.refl _ _).drew
        have HHeld := Lib.hid hHeld; clear hHeld
        refine wT (i := 0) (oi := { dst := some 20, op := Op.fieldAddr 24 (Operand.tmp 2) 0, type := 0, pos := "ref.go:174", after := #[], guard := none }) (v := ?_) rfl (Or.inl ⟨by rfl, ?_⟩) HHeld.out ?_
        rotate_left
        · intro w hSw; clear hSw; go_simp; try with_reducible rfl
        try simp only [pu, pn, s1, s2, s3]
        refine wT (i := 1) (oi := { dst := some 21, op := Op.load 22 (Operand.tmp 20), type := 22, pos := "ref.go:174", after := #[{ on := 0, ground := Ground.data }], guard := none }) (v := (.slice (some ⟨b2, off, none⟩) n c : Value)) rfl (Or.inl ⟨by rfl, ?_⟩) HHeld.out ?_
        · intro V hV; have hc0 := bel_later hV c0; clear hV; go_simp
        try simp only [pu, pn, s1, s2, s3]
        refine wT (i := 2) (oi := { dst := some 22, op := Op.move (Operand.tmp 5), type := 3, pos := "ref.go:174", after := #[], guard := none }) (v := ?_) rfl (Or.inl ⟨by rfl, ?_⟩) HHeld.out ?_
        rotate_left
        · intro w hSw; clear hSw; go_simp; try with_reducible rfl
        try simp only [pu, pn, s1, s2, s3]
        refine wT (i := 3) (oi := { dst := some 23, op := Op.indexAddr 22 (Operand.tmp 21) (Operand.tmp 22), type := 0, pos := "ref.go:174", after := #[{ on := 1, ground := Ground.data }, { on := 2, ground := Ground.data }], guard := none }) (v := ?_) rfl (Or.inl ⟨by rfl, ?_⟩) HHeld.out ?_
        rotate_left
        · intro w hSw; clear hSw; go_simp; try with_reducible rfl
        try simp only [pu, pn, s1, s2, s3]
        refine wT (i := 4) (oi := { dst := some 24, op := Op.load 44 (Operand.tmp 23), type := 44, pos := "ref.go:174", after := #[{ on := 3, ground := Ground.data }], guard := none }) (v := (nodeA x : Value)) rfl (Or.inl ⟨by rfl, ?_⟩) HHeld.out ?_
        · intro V hV; have hc0 := bel_later hV g0; have hc1 := bel_later hV g1; have hc2 := bel_later hV g2; have hc3 := bel_later hV g3; have hc4 := bel_later hV g4; clear hV; go_simp
        try simp only [pu, pn, s1, s2, s3]
        refine wT (i := 5) (oi := { dst := some 25, op := Op.fieldAddr 24 (Operand.tmp 3) 0, type := 0, pos := "ref.go:174", after := #[], guard := none }) (v := ?_) rfl (Or.inl ⟨by rfl, ?_⟩) HHeld.out ?_
        rotate_left
        · intro w hSw; clear hSw; go_simp; try with_reducible rfl
        try simp only [pu, pn, s1, s2, s3]
        refine wT (i := 6) (oi := { dst := some 26, op := Op.load 22 (Operand.tmp 25), type := 22, pos := "ref.go:174", after := #[{ on := 5, ground := Ground.data }], guard := none }) (v := (.slice (some ⟨b3, off3, none⟩) n c' : Value)) rfl (Or.inl ⟨by rfl, ?_⟩) HHeld.out ?_
        · intro V hV; have hc0 := bel_later hV d0; clear hV; go_simp
        try simp only [pu, pn, s1, s2, s3]
        refine wT (i := 7) (oi := { dst := some 27, op := Op.move (Operand.tmp 5), type := 3, pos := "ref.go:174", after := #[], guard := none }) (v := ?_) rfl (Or.inl ⟨by rfl, ?_⟩) HHeld.out ?_
        rotate_left
        · intro w hSw; clear hSw; go_simp; try with_reducible rfl
        try simp only [pu, pn, s1, s2, s3]
        refine wT (i := 8) (oi := { dst := some 28, op := Op.indexAddr 22 (Operand.tmp 26) (Operand.tmp 27), type := 0, pos := "ref.go:174", after := #[{ on := 6, ground := Ground.data }, { on := 7, ground := Ground.data }], guard := none }) (v := ?_) rfl (Or.inl ⟨by rfl, ?_⟩) HHeld.out ?_
        rotate_left
        · intro w hSw; clear hSw; go_simp; try with_reducible rfl
        try simp only [pu, pn, s1, s2, s3]
        refine wT (i := 9) (oi := { dst := some 29, op := Op.load 44 (Operand.tmp 28), type := 44, pos := "ref.go:174", after := #[{ on := 8, ground := Ground.data }], guard := none }) (v := (nodeA x' : Value)) rfl (Or.inl ⟨by rfl, ?_⟩) HHeld.out ?_
        · intro V hV; have hc0 := bel_later hV e0; have hc1 := bel_later hV e1; have hc2 := bel_later hV e2; have hc3 := bel_later hV e3; have hc4 := bel_later hV e4; clear hV; go_simp
        try simp only [pu, pn, s1, s2, s3]
        refine wpAnyH_ready (rs := [10]) (by kernel_rfl) (by simp) ?_
        refine AllReadyH.cons (o := { dst := some 30, op := Op.call { callee := Callee.value (Operand.func 29), args := #[Operand.tmp 24, Operand.tmp 29], argTypes := #[44, 44] }, type := 4, pos := "ref.go:174", after := #[{ on := 4, ground := Ground.data }, { on := 9, ground := Ground.data }], guard := none }) rfl (fun K hK => ?_) AllReadyH.nil
        go_simp
        (go_at_call 29; ((with_reducible refine (SN.out _ HHeld.out).mono ?_); rintro e v5 ⟨rfl, bb⟩; have K5 := Lib.hid (HHeld.out.trans (bb.mono HHeld.out.size)); clear bb))
        refine hK.out _ _ ?_ (fun hHeld => ?_)
        · exact K5.out
        clear HHeld; have HHeld := Lib.hid hHeld; clear hHeld
        clear hK K
        try simp only [pu, pn, s1, s2, s3]
        refine wT (i := 11) (oi := { dst := some 31, op := Op.unOp UnOp.not 4 (Operand.tmp 30), type := 4, pos := "ref.go:174", after := #[{ on := 10, ground := Ground.data }], guard := none }) (v := ?_) rfl (Or.inl ⟨by rfl, ?_⟩) HHeld.out ?_
        rotate_left
        · intro w hSw; clear hSw; go_simp; try with_reducible rfl
        try simp only [pu, pn, s1, s2, s3]
        refine wpAnyH_done (by kernel_rfl) ?_ _
        go_wp2
        exact ⟨⟨k + 1, by omega, by simp, HN2, bel_trans HB.out K5.out⟩, by simp [intOf]; omega⟩
      | false =>
        have HF := Lib.hid (HNE.out (fun e => by have := HBN.out.2 e; cases this))
        clear HNX HNE HBN
        go_upto_region 6 with fail
        refine wp_region_held_drew (S := (fun V : World => Below w4.heap.size w4 V)) (by kernel_rfl) ?_ (fun hHeld => ?_)
        · exact (Below.refl _ _).drew
        have HHeld := Lib.hid hHeld; clear hHeld
        refine wT (i := 0) (oi := { dst := some 20, op := Op.fieldAddr 24 (Operand.tmp 2) 0, type := 0, pos := "ref.go:174", after := #[], guard := none }) (v := ?_) rfl (Or.inl ⟨by rfl, ?_⟩) HHeld.out ?_
        rotate_left
        · intro w hSw; clear hSw; go_simp; try with_reducible rfl
        try simp only [pu, pn, s1, s2, s3]
        refine wT (i := 1) (oi := { dst := some 21, op := Op.load 22 (Operand.tmp 20), type := 22, pos := "ref.go:174", after := #[{ on := 0, ground := Ground.data }], guard := none }) (v := (.slice (some ⟨b2, off, none⟩) n c : Value)) rfl (Or.inl ⟨by rfl, ?_⟩) HHeld.out ?_
        · intro V hV; have hc0 := bel_later hV c0; clear hV; go_simp
        try simp only [pu, pn, s1, s2, s3]
        refine wT (i := 2) (oi := { dst := some 22, op := Op.move (Operand.tmp 5), type := 3, pos := "ref.go:174", after := #[], guard := none }) (v := ?_) rfl (Or.inl ⟨by rfl, ?_⟩) HHeld.out ?_
        rotate_left
        · intro w hSw; clear hSw; go_simp; try with_reducible rfl
        try simp only [pu, pn, s1, s2, s3]
        refine wT (i := 3) (oi := { dst := some 23, op := Op.indexAddr 22 (Operand.tmp 21) (Operand.tmp 22), type := 0, pos := "ref.go:174", after := #[{ on := 1, ground := Ground.data }, { on := 2, ground := Ground.data }], guard := none }) (v := ?_) rfl (Or.inl ⟨by rfl, ?_⟩) HHeld.out ?_
        rotate_left
        · intro w hSw; clear hSw; go_simp; try with_reducible rfl
        try simp only [pu, pn, s1, s2, s3]
        refine wT (i := 4) (oi := { dst := some 24, op := Op.load 44 (Operand.tmp 23), type := 44, pos := "ref.go:174", after := #[{ on := 3, ground := Ground.data }], guard := none }) (v := (nodeA x : Value)) rfl (Or.inl ⟨by rfl, ?_⟩) HHeld.out ?_
        · intro V hV; have hc0 := bel_later hV g0; have hc1 := bel_later hV g1; have hc2 := bel_later hV g2; have hc3 := bel_later hV g3; have hc4 := bel_later hV g4; clear hV; go_simp
        try simp only [pu, pn, s1, s2, s3]
        refine wT (i := 5) (oi := { dst := some 25, op := Op.fieldAddr 24 (Operand.tmp 3) 0, type := 0, pos := "ref.go:174", after := #[], guard := none }) (v := ?_) rfl (Or.inl ⟨by rfl, ?_⟩) HHeld.out ?_
        rotate_left
        · intro w hSw; clear hSw; go_simp; try with_reducible rfl
        try simp only [pu, pn, s1, s2, s3]
        refine wT (i := 6) (oi := { dst := some 26, op := Op.load 22 (Operand.tmp 25), type := 22, pos := "ref.go:174", after := #[{ on := 5, ground := Ground.data }], guard := none }) (v := (.slice (some ⟨b3, off3, none⟩) n c' : Value)) rfl (Or.inl ⟨by rfl, ?_⟩) HHeld.out ?_
        · intro V hV; have hc0 := bel_later hV d0; clear hV; go_simp
        try simp only [pu, pn, s1, s2, s3]
        refine wT (i := 7) (oi := { dst := some 27, op := Op.move (Operand.tmp 5), type := 3, pos := "ref.go:174", after := #[], guard := none }) (v := ?_) rfl (Or.inl ⟨by rfl, ?_⟩) HHeld.out ?_
        rotate_left
        · intro w hSw; clear hSw; go_simp; try with_reducible rfl
        try simp only [pu, pn, s1, s2, s3]
        refine wT (i := 8) (oi := { dst := some 28, op := Op.indexAddr 22 (Operand.tmp 26) (Operand.tmp 27), type := 0, pos := "ref.go:174", after := #[{ on := 6, ground := Ground.data }, { on := 7, ground := Ground.data }], guard := none }) (v := ?_) rfl (Or.inl ⟨by rfl, ?_⟩) HHeld.out ?_
        rotate_left
        · intro w hSw; clear hSw; go_simp; try with_reducible rfl
        try simp only [pu, pn, s1, s2, s3]
        refine wT (i := 9) (oi := { dst := some 29, op := Op.load 44 (Operand.tmp 28), type := 44, pos := "ref.go:174", after := #[{ on := 8, ground := Ground.data }], guard := none }) (v := (nodeA x' : Value)) rfl (Or.inl ⟨by rfl, ?_⟩) HHeld.out ?_
        · intro V hV; have hc0 := bel_later hV e0; have hc1 := bel_later hV e1; have hc2 := bel_later hV e2; have hc3 := bel_later hV e3; have hc4 := bel_later hV e4; clear hV; go_simp
        try simp only [pu, pn, s1, s2, s3]
        refine wpAnyH_ready (rs := [10]) (by kernel_rfl) (by simp) ?_
        refine AllReadyH.cons (o := { dst := some 30, op := Op.call { callee := Callee.value (Operand.func 29), args := #[Operand.tmp 24, Operand.tmp 29], argTypes := #[44, 44] }, type := 4, pos := "ref.go:174", after := #[{ on := 4, ground := Ground.data }, { on := 9, ground := Ground.data }], guard := none }) rfl (fun K hK => ?_) AllReadyH.nil
        go_simp
        (go_at_call 29; ((with_reducible refine (SN.out _ HHeld.out).mono ?_); rintro e v5 ⟨rfl, bb⟩; have K5 := Lib.hid (HHeld.out.trans (bb.mono HHeld.out.size)); clear bb))
        refine hK.out _ _ ?_ (fun hHeld => ?_)
        · exact K5.out
        clear HHeld; have HHeld := Lib.hid hHeld; clear hHeld
        clear hK K
        try simp only [pu, pn, s1, s2, s3]
        refine wT (i := 11) (oi := { dst := some 31, op := Op.unOp UnOp.not 4 (Operand.tmp 30), type := 4, pos := "ref.go:174", after := #[{ on := 10, ground := Ground.data }], guard := none }) (v := ?_) rfl (Or.inl ⟨by rfl, ?_⟩) HHeld.out ?_
        rotate_left
        · intro w hSw; clear hSw; go_simp; try with_reducible rfl
        try simp only [pu, pn, s1, s2, s3]
        refine wpAnyH_done (by kernel_rfl) ?_ _
        go_wp2
        go_ret
        exact ⟨by rw [HF.out]; try rfl, bel_trans BW.out K5.out⟩
    · have hke : k = n := by omega
      subst hke
      have q1 : ¬ (k : Int) < (k : Int) := by omega
      have HF := Lib.hid (YES.out (by have h := HTK.out; rw [List.take_of_length_le (by have := HL.out; omega), List.take_of_length_le (by have := HL.out; omega)] at h; exact h))
      go_wp2
      go_ret
      exact ⟨by rw [HF.out]; try rfl, BW.out⟩
end Go.Proofs.YtdebedeebmmleaaGreatDoor
