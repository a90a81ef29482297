/- Texts of the proof, one behind the other. -/
import Derived.Test.YtdebedeebmmleaaGreatDoorTp26
import Derived.Test.YtdebedeebmmleaaGreatDoorTp24
set_option linter.unusedVariables false
set_option linter.unusedSimpArgs false
namespace Go.Proofs.YtdebedeebmmleaaGreatDoor
open Go.RowKit Go.Maps
/-- Rows of entries, in memory. -/
def BX (w : World) (A : Option Addr) (n : Nat) (bl : List (List EnV)) : Prop := ∃ hs : List Hd, n = hs.length ∧ EH.Rd w A hs ∧ hs.length = bl.length ∧ ∀ (i : Nat) (h : Hd) (l : List EnV), hs[i]? = some h → bl[i]? = some l → h.n = l.length ∧ EE.Rd w h.A l
theorem BX.later {w w' : World} {A : Option Addr} {n : Nat} {bl : List (List EnV)} (h : BX w A n bl) (b : Below w.heap.size w w') : BX w' A n bl := by
  obtain ⟨hs, h1, h2, h3, h4⟩ := h
  exact ⟨hs, h1, h2.later b, h3, fun i x l hx hl => ⟨(h4 i x l hx hl).1, (h4 i x l hx hl).2.later b⟩⟩
theorem BX.at {w : World} {A : Option Addr} {n : Nat} {bl : List (List EnV)} (h : BX w A n bl) {i : Nat} {l : List EnV} (hl : bl[i]? = some l) : ∃ b off hA hc, A = some ⟨b, off, none⟩ ∧ b < w.heap.size ∧ w.cell? ⟨b, off + i, none⟩ = some (.slice hA l.length hc) ∧ EE.Rd w hA l := by
  obtain ⟨hs, h1, h2, h3, h4⟩ := h
  obtain ⟨x, hx⟩ : ∃ x, hs[i]? = some x := ⟨_, List.getElem?_eq_getElem (by rw [h3]; exact (List.getElem?_eq_some_iff.1 hl).1)⟩
  obtain ⟨b, off, e, hlt, hc⟩ := h2.get hx
  obtain ⟨q1, q2⟩ := h4 i x l hx hl
  exact ⟨b, off, x.A, x.c, e, hlt, by rw [← q1]; simpa [EH] using hc 0 _ rfl, q2⟩
theorem NRd.bx {w : World} {x : NC} {hs : List Hd} {y : NdV} (h : NRd w x hs y) : BX w x.b.A x.b.n y.bl := ⟨hs, h.b.1, h.b.2.1, h.b.2.2.1, h.b.2.2.2⟩
theorem BX.len {w : World} {A : Option Addr} {n : Nat} {bl : List (List EnV)} (h : BX w A n bl) : bl.length = n := by
  obtain ⟨hs, h1, h2, h3, h4⟩ := h
  rw [h1, h3]
theorem BX.as {w : World} {A : Option Addr} {n m : Nat} {bl : List (List EnV)} (h : BX w A n bl) (e : m = bl.length) : BX w A m bl := by
  rw [e, h.len]; exact h
set_option maxRecDepth 100000 in
set_option maxHeartbeats 2000000 in
theorem bleq_any (A B : Option Addr) (n m c d : Nat) (xs ys : List (List EnV)) (b : Bool) (w : World) (hb : b = true ↔ xs = ys) (hn : n ≤ 1000000) (hls : ∀ r ∈ xs, r.length ≤ 1000000) (hA : BX w A n xs) (hB : BX w B m ys) :
    Calls Tryz.prog 47 #[.slice A n c, .slice B m d, .func (.func 48) #[] #[]] w fun r w' => r = .returned (.bool b) ∧ Below w.heap.size w w' := by
  have hl := hA.len
  have hm := hB.len
  by_cases hnm : n = m
  rotate_left
  · have hq : ¬ (n : Int) = (m : Int) := by omega
    have HF := Lib.hid (eq_len hb (by rw [hl, hm]; exact hnm))
    clear hb hl hm hn hA hB hnm hls
    go_enter Tryz.func47, Tryz.ntmps47
    go_wp2
    go_ret
    exact ⟨by rw [HF.out]; try rfl, Below.refl _ _⟩
  subst hnm
  have HL := Lib.hid (And.intro hl hm)
  have HA := Lib.hid hA
  have HB2 := Lib.hid hB
  have HBB := Lib.hid hb
  have HMS := Lib.hid hls
  clear hl hm hA hB hb hls
  go_enter Tryz.func47, Tryz.ntmps47
  go_upto_region 4 with fail
  go_loopw [17] (fun iv wr => ∃ (k : Nat), k ≤ n ∧ iv = .int .i64 k ∧ Hid (xs.take k = ys.take k) ∧ Below w.heap.size w wr) (fun i _ => n - (intOf i).toNat)
  case atStart => exact ⟨0, by omega, rfl, Lib.hid rfl, Below.refl _ _⟩
  case round =>
    obtain ⟨k, hk, rfl, HT, hb⟩ := hrel
    have HB := Lib.hid hb
    clear hb
    by_cases h8 : k < n
    · have hk1 : (k : Int) < (n : Int) := by omega
      have hk0 : (0 : Int) ≤ (k : Int) := by omega
      have WK : IntKind.i64.wrap ((k : Int) + 1) = (k : Int) + 1 := IntWalk.i64_in _ (by omega)
      obtain ⟨x, hx⟩ : ∃ x, xs[k]? = some x := ⟨_, List.getElem?_eq_getElem (by rw [HL.out.1]; omega)⟩
      obtain ⟨y, hy⟩ : ∃ y, ys[k]? = some y := ⟨_, List.getElem?_eq_getElem (by rw [HL.out.2]; omega)⟩
      obtain ⟨b5, off5, xA, xc, rfl, hlt, g0, g5⟩ := (HA.out.later HB.out).at hx
      obtain ⟨b6, off6, yA, yc, rfl, hlt6, g1, g6⟩ := (HB2.out.later HB.out).at hy
      obtain ⟨bb, hbb⟩ := bool_ex (x = y)
      have HN : Hid (bb = true → xs.take (k + 1) = ys.take (k + 1)) := Lib.hid (fun e => eq_next HT.out hx (by rw [hbb.1 e]; exact hy))
      have HE : Hid (bb = false → b = false) := Lib.hid (fun e => eq_at HBB.out hx hy (fun q => by rw [hbb.2 q] at e; cases e))
      have hxm := HMS.out x (List.mem_of_getElem? hx)
      obtain ⟨xn, hxn⟩ : ∃ n, x.length = n := ⟨_, rfl⟩
      obtain ⟨yn, hyn⟩ : ∃ n, y.length = n := ⟨_, rfl⟩
      have HO := Lib.hid (eeq_any xA yA xn yn xc yc x y bb wr hbb hxn hyn (by omega) g5 g6)
      rw [hxn] at g0
      rw [hyn] at g1
      clear hx hy g5 g6 hlt hlt6 hbb hxm hxn hyn
      cases bb with
      | true =>
        have HN2 := Lib.hid (HN.out rfl)
        clear HN HE
        go_wp2_with (first
          | (go_at_call 48; ((with_reducible refine HO.out.mono ?_); rintro e w8 ⟨rfl, b8⟩; have B8 := Lib.hid (bel_trans HB.out b8); clear b8))
          | fail)
        exact ⟨⟨k + 1, by omega, by simp, HN2, B8.out⟩, by simp [intOf]; omega⟩
      | false =>
        have HF := Lib.hid (HE.out rfl)
        clear HN HE
        go_wp2_with (first
          | (go_at_call 48; ((with_reducible refine HO.out.mono ?_); rintro e w8 ⟨rfl, b8⟩; have B8 := Lib.hid (bel_trans HB.out b8); clear b8))
          | fail)
        go_ret
        exact ⟨by rw [HF.out]; try rfl, B8.out⟩
    · have hk1 : ¬ (k : Int) < (n : Int) := by omega
      have HF := Lib.hid (eq_end HBB.out HT.out (by rw [HL.out.1]; omega) (by rw [HL.out.2]; omega))
      go_wp2
      go_ret
      exact ⟨by rw [HF.out]; try rfl, HB.out⟩
set_option maxHeartbeats 4000000 in
set_option maxRecDepth 100000 in
theorem psn_any (x x' : NC) (hs hs' : List Hd) (y y' : NdV) (b : Bool) (w : World) (hb : b = true ↔ y = y') (hN : NRd w x hs y) (hN' : NRd w x' hs' y') (hS : NSm y) (hS' : NSm y') :
    Calls Tryz.prog 28 #[nodeA x, nodeA x'] w fun e w' => e = .returned (.bool b) ∧ Below w.heap.size w w' := by
  have FK := Lib.hid (fun h : ¬ y.k = y'.k => no_if hb (fun e => by rw [e]) h)
  have FP := Lib.hid (fun h : ¬ y.piv = y'.piv => no_if hb (fun e => by rw [e]) h)
  have FQ := Lib.hid (fun h : ¬ y.kids = y'.kids => no_if hb (fun e => by rw [e]) h)
  have FM := Lib.hid (fun h : ¬ y.ms = y'.ms => no_if hb (fun e => by rw [e]) h)
  have FB := Lib.hid (fun h : ¬ y.bl = y'.bl => no_if hb (fun e => by rw [e]) h)
  have YES := Lib.hid (fun h : y.k = y'.k ∧ y.piv = y'.piv ∧ y.kids = y'.kids ∧ y.ms = y'.ms ∧ y.bl = y'.bl => hb.2 (nd_eq h))
  obtain ⟨np, hp⟩ : ∃ n, n = y.piv.length := ⟨_, rfl⟩
  obtain ⟨np', hp'⟩ : ∃ n, n = y'.piv.length := ⟨_, rfl⟩
  obtain ⟨nq, hq⟩ : ∃ n, n = y.kids.length := ⟨_, rfl⟩
  obtain ⟨nq', hq'⟩ : ∃ n, n = y'.kids.length := ⟨_, rfl⟩
  obtain ⟨nm, hm⟩ : ∃ n, n = y.ms.length := ⟨_, rfl⟩
  obtain ⟨nm', hm'⟩ : ∃ n, n = y'.ms.length := ⟨_, rfl⟩
  obtain ⟨nl, hl⟩ : ∃ n, n = y.bl.length := ⟨_, rfl⟩
  obtain ⟨nl', hl'⟩ : ∃ n, n = y'.bl.length := ⟨_, rfl⟩
  obtain ⟨k0, hk0⟩ : ∃ k, k = y.k := ⟨_, rfl⟩
  obtain ⟨k1, hk1⟩ : ∃ k, k = y'.k := ⟨_, rfl⟩
  have HLEN := Lib.hid (show (np = y.piv.length ∧ np' = y'.piv.length ∧ nq = y.kids.length ∧ nq' = y'.kids.length) ∧ (nm = y.ms.length ∧ nm' = y'.ms.length ∧ nl = y.bl.length ∧ nl' = y'.bl.length) ∧ k0 = y.k ∧ k1 = y'.k from ⟨⟨hp, hp', hq, hq'⟩, ⟨hm, hm', hl, hl'⟩, hk0, hk1⟩)
  obtain ⟨W0, hW0⟩ : ∃ W0, W0 = (w.alloc (nodeO x)).alloc (nodeO x') := ⟨_, rfl⟩
  have B0 := Lib.hid (show Below w.heap.size w W0 by rw [hW0]; exact bel_alloc (alb w _) _)
  have Z0 := Lib.hid (show W0.heap[w.heap.size]? = some (nodeO x) by rw [hW0]; exact keep_bel (alb _ _) (heap_alloc_new w _))
  have Z1 := Lib.hid (show W0.heap[w.heap.size + 1]? = some (nodeO x') by
    rw [hW0]
    have := heap_alloc_new (w.alloc (nodeO x)) (nodeO x')
    simpa using this)
  have UP := Lib.hid (fun V (h : Below W0.heap.size W0 V) => (show Bx2 w.heap.size (w.heap.size + 1) np np' nq nq' nm nm' nl nl' k0 k1 x x' V by
    obtain ⟨a0, a1, a2, a3, a4⟩ := cells5 (keep_bel h Z0.out)
    obtain ⟨b0, b1, b2, b3, b4⟩ := cells5 (keep_bel h Z1.out)
    exact ⟨by rw [hk0, ← hN.k]; exact a0, by rw [hp, ← hN.p.1]; exact a1, by rw [hq, ← hN.q.1]; exact a2, by rw [hm, ← hN.m.1]; exact a3, by rw [hl, ← hN.b.2.2.1, ← hN.b.1]; exact a4,
      by rw [hk1, ← hN'.k]; exact b0, by rw [hp', ← hN'.p.1]; exact b1, by rw [hq', ← hN'.q.1]; exact b2, by rw [hm', ← hN'.m.1]; exact b3, by rw [hl', ← hN'.b.2.2.1, ← hN'.b.1]; exact b4⟩))
  have HN := Lib.hid (hN.later B0.out)
  have HN' := Lib.hid (hN'.later B0.out)
  have HS := Lib.hid (And.intro hS hS')
  clear hb hN hN' hS hS' hp hp' hq hq' hm hm' hl hl' hk0 hk1
  obtain ⟨c0, c1, c2, c3, c4, d0, d1, d2, d3, d4⟩ := UP.out W0 (Below.refl _ _)
  by_cases e1 : k0 = k1
  rotate_left
  · have HF := Lib.hid (FK.out (by rw [← HLEN.out.2.2.1, ← HLEN.out.2.2.2]; exact e1))
    go_enter Tryz.func28, Tryz.ntmps28
    go_upto_region 1 with fail
    rw [← hW0]
    clear hW0
    go_wp2
    go_ret
    exact ⟨by rw [HF.out]; try rfl, B0.out⟩
  have HK := Lib.hid (show y.k = y'.k by rw [← HLEN.out.2.2.1, ← HLEN.out.2.2.2]; exact e1)
  subst e1
  by_cases e2 : y.piv = y'.piv
  rotate_left
  · have HF := Lib.hid (FP.out e2)
    have C44 := Lib.hid (fun V (h : Below W0.heap.size W0 V) => seq_any x.p.A x'.p.A np np' x.p.c x'.p.c y.piv y'.piv false V (by simp [e2]) HLEN.out.1.1.symm HLEN.out.1.2.1.symm (by have := HS.out.1.p.1; have := HLEN.out.1.1; omega) (HN.out.p.2.later h) (HN'.out.p.2.later h))
    clear e2
    go_enter Tryz.func28, Tryz.ntmps28
    go_upto_region 1 with fail
    rw [← hW0]
    clear hW0
    go_wp2_with (first
      | (go_at_call 44; ((with_reducible refine (C44.out _ (Below.refl W0.heap.size W0)).mono ?_); rintro e v1 ⟨rfl, bb⟩; have D1 := Lib.hid (bb); obtain ⟨c0, c1, c2, c3, c4, d0, d1, d2, d3, d4⟩ := UP.out v1 D1.out; clear bb))
      | fail)
    go_ret
    exact ⟨by rw [HF.out]; try rfl, bel_trans B0.out D1.out⟩
  have E2 := Lib.hid e2
  have C44 := Lib.hid (fun V (h : Below W0.heap.size W0 V) => seq_any x.p.A x'.p.A np np' x.p.c x'.p.c y.piv y'.piv true V (by simp [e2]) HLEN.out.1.1.symm HLEN.out.1.2.1.symm (by have := HS.out.1.p.1; have := HLEN.out.1.1; omega) (HN.out.p.2.later h) (HN'.out.p.2.later h))
  clear e2
  by_cases e3 : y.kids = y'.kids
  rotate_left
  · have HF := Lib.hid (FQ.out e3)
    have C45 := Lib.hid (fun V (h : Below W0.heap.size W0 V) => ieq_any x.q.A x'.q.A nq nq' x.q.c x'.q.c y.kids y'.kids false V (by simp [e3]) HLEN.out.1.2.2.1.symm HLEN.out.1.2.2.2.symm (by have := HS.out.1.q; have := HLEN.out.1.2.2.1; omega) (HN.out.q.2.later h) (HN'.out.q.2.later h))
    clear e3
    go_enter Tryz.func28, Tryz.ntmps28
    go_upto_region 1 with fail
    rw [← hW0]
    clear hW0
    go_wp2_with (first
      | (go_at_call 44; ((with_reducible refine (C44.out _ (Below.refl W0.heap.size W0)).mono ?_); rintro e v1 ⟨rfl, bb⟩; have D1 := Lib.hid (bb); obtain ⟨c0, c1, c2, c3, c4, d0, d1, d2, d3, d4⟩ := UP.out v1 D1.out; clear bb))
      | (go_at_call 45; ((with_reducible refine (C45.out _ D1.out).mono ?_); rintro e v2 ⟨rfl, bb⟩; have D2 := Lib.hid (bel_trans D1.out bb); obtain ⟨c0, c1, c2, c3, c4, d0, d1, d2, d3, d4⟩ := UP.out v2 D2.out; clear bb))
      | fail)
    go_ret
    exact ⟨by rw [HF.out]; try rfl, bel_trans B0.out D2.out⟩
  have E3 := Lib.hid e3
  have C45 := Lib.hid (fun V (h : Below W0.heap.size W0 V) => ieq_any x.q.A x'.q.A nq nq' x.q.c x'.q.c y.kids y'.kids true V (by simp [e3]) HLEN.out.1.2.2.1.symm HLEN.out.1.2.2.2.symm (by have := HS.out.1.q; have := HLEN.out.1.2.2.1; omega) (HN.out.q.2.later h) (HN'.out.q.2.later h))
  clear e3
  by_cases e4 : y.ms = y'.ms
  rotate_left
  · have HF := Lib.hid (FM.out e4)
    have C46 := Lib.hid (fun V (h : Below W0.heap.size W0 V) => meq_any x.m.A x'.m.A nm nm' x.m.c x'.m.c y.ms y'.ms false V (by simp [e4]) HLEN.out.2.1.1.symm HLEN.out.2.1.2.1.symm (by have := HS.out.1.m.1; have := HLEN.out.2.1.1; omega) (HN.out.m.2.later h) (HN'.out.m.2.later h))
    clear e4
    go_enter Tryz.func28, Tryz.ntmps28
    go_upto_region 1 with fail
    rw [← hW0]
    clear hW0
    go_wp2_with (first
      | (go_at_call 44; ((with_reducible refine (C44.out _ (Below.refl W0.heap.size W0)).mono ?_); rintro e v1 ⟨rfl, bb⟩; have D1 := Lib.hid (bb); obtain ⟨c0, c1, c2, c3, c4, d0, d1, d2, d3, d4⟩ := UP.out v1 D1.out; clear bb))
      | (go_at_call 45; ((with_reducible refine (C45.out _ D1.out).mono ?_); rintro e v2 ⟨rfl, bb⟩; have D2 := Lib.hid (bel_trans D1.out bb); obtain ⟨c0, c1, c2, c3, c4, d0, d1, d2, d3, d4⟩ := UP.out v2 D2.out; clear bb))
      | (go_at_call 46; ((with_reducible refine (C46.out _ D2.out).mono ?_); rintro e v3 ⟨rfl, bb⟩; have D3 := Lib.hid (bel_trans D2.out bb); obtain ⟨c0, c1, c2, c3, c4, d0, d1, d2, d3, d4⟩ := UP.out v3 D3.out; clear bb))
      | fail)
    go_ret
    exact ⟨by rw [HF.out]; try rfl, bel_trans B0.out D3.out⟩
  have E4 := Lib.hid e4
  have C46 := Lib.hid (fun V (h : Below W0.heap.size W0 V) => meq_any x.m.A x'.m.A nm nm' x.m.c x'.m.c y.ms y'.ms true V (by simp [e4]) HLEN.out.2.1.1.symm HLEN.out.2.1.2.1.symm (by have := HS.out.1.m.1; have := HLEN.out.2.1.1; omega) (HN.out.m.2.later h) (HN'.out.m.2.later h))
  clear e4
  obtain ⟨bb, hbb⟩ := bool_ex (y.bl = y'.bl)
  have HF : Hid (b = bb) := Lib.hid (by
    cases bb with
    | true => exact YES.out ⟨HK.out, E2.out, E3.out, E4.out, hbb.1 rfl⟩
    | false => exact FB.out (fun h => by have := hbb.2 h; cases this))
  have C47 := Lib.hid (fun V (h : Below W0.heap.size W0 V) => bleq_any x.b.A x'.b.A nl nl' x.b.c x'.b.c y.bl y'.bl bb V hbb (by have := HS.out.1.b.1; have := HLEN.out.2.1.2.2.1; omega) (fun r hr => by have := (HS.out.1.b.2 r hr).1; omega) ((HN.out.later h).bx.as HLEN.out.2.1.2.2.1) ((HN'.out.later h).bx.as HLEN.out.2.1.2.2.2))
  clear hbb
  go_enter Tryz.func28, Tryz.ntmps28
  go_upto_region 1 with fail
  rw [← hW0]
  clear hW0
  go_wp2_with (first
    | (go_at_call 44; ((with_reducible refine (C44.out _ (Below.refl W0.heap.size W0)).mono ?_); rintro e v1 ⟨rfl, bb⟩; have D1 := Lib.hid (bb); obtain ⟨c0, c1, c2, c3, c4, d0, d1, d2, d3, d4⟩ := UP.out v1 D1.out; clear bb))
    | (go_at_call 45; ((with_reducible refine (C45.out _ D1.out).mono ?_); rintro e v2 ⟨rfl, bb⟩; have D2 := Lib.hid (bel_trans D1.out bb); obtain ⟨c0, c1, c2, c3, c4, d0, d1, d2, d3, d4⟩ := UP.out v2 D2.out; clear bb))
    | (go_at_call 46; ((with_reducible refine (C46.out _ D2.out).mono ?_); rintro e v3 ⟨rfl, bb⟩; have D3 := Lib.hid (bel_trans D2.out bb); obtain ⟨c0, c1, c2, c3, c4, d0, d1, d2, d3, d4⟩ := UP.out v3 D3.out; clear bb))
    | (go_at_call 47; ((with_reducible refine (C47.out _ D3.out).mono ?_); rintro e v4 ⟨rfl, bb⟩; have D4 := Lib.hid (bel_trans D3.out bb); obtain ⟨c0, c1, c2, c3, c4, d0, d1, d2, d3, d4⟩ := UP.out v4 D4.out; clear bb))
    | fail)
  go_ret
  exact ⟨by rw [HF.out]; try rfl, bel_trans B0.out D4.out⟩
set_option maxRecDepth 100000 in
set_option maxHeartbeats 4000000 in
theorem pnodes_any (A A' : Option Addr) (n n' c c' : Nat) (ns ns' : List NC) (ys ys' : List NdV) (b : Bool) (w : World) (hb : b = true ↔ ys = ys') (hT : NT w A ns ys) (hT' : NT w A' ns' ys') (hl : ys.length = n) (hl' : ys'.length = n') (hn : n ≤ 1000000) (hS : ∀ y ∈ ys, NSm y) (hS' : ∀ y ∈ ys', NSm y) :
    Calls Tryz.prog 27 #[.slice A n c, .slice A' n' c', .func (.func 28) #[] #[]] w fun e w' => e = .returned (.bool b) ∧ Below w.heap.size w w' := by
  by_cases hnm : n = n'
  rotate_left
  · have hq : ¬ (n : Int) = (n' : Int) := by omega
    have HF := Lib.hid (eq_len hb (by rw [hl, hl']; exact hnm))
    clear hb hT hT' hl hl' hn hS hS' hnm
    go_enter Tryz.func27, Tryz.ntmps27
    go_wp2
    go_ret
    exact ⟨by rw [HF.out]; try rfl, Below.refl _ _⟩
  subst hnm
  have HL := Lib.hid (And.intro hl hl')
  have HT1 := Lib.hid hT
  have HT2 := Lib.hid hT'
  have HS := Lib.hid (And.intro hS hS')
  have HBB := Lib.hid hb
  clear hl hl' hT hT' hS hS' hb
  go_enter Tryz.func27, Tryz.ntmps27
  go_upto_region 4 with fail
  go_loopw [17] (fun iv wr => ∃ (k : Nat), k ≤ n ∧ iv = .int .i64 k ∧ Hid (ys.take k = ys'.take k) ∧ Below w.heap.size w wr) (fun i _ => n - (intOf i).toNat)
  case atStart => exact ⟨0, by omega, rfl, Lib.hid rfl, Below.refl _ _⟩
  case round =>
    obtain ⟨k, hk, rfl, HT, hb⟩ := hrel
    have HB := Lib.hid hb
    clear hb
    by_cases h8 : k < n
    · have hk1 : (k : Int) < (n : Int) := by omega
      have hk0 : (0 : Int) ≤ (k : Int) := by omega
      have WK : IntKind.i64.wrap ((k : Int) + 1) = (k : Int) + 1 := IntWalk.i64_in _ (by omega)
      obtain ⟨y, hy⟩ : ∃ y, ys[k]? = some y := ⟨_, List.getElem?_eq_getElem (by rw [HL.out.1]; omega)⟩
      obtain ⟨y', hy'⟩ : ∃ y, ys'[k]? = some y := ⟨_, List.getElem?_eq_getElem (by rw [HL.out.2]; omega)⟩
      obtain ⟨x, hx⟩ : ∃ x, ns[k]? = some x := ⟨_, List.getElem?_eq_getElem (by have := HT1.out.l; have := HL.out; omega)⟩
      obtain ⟨x', hx'⟩ : ∃ x, ns'[k]? = some x := ⟨_, List.getElem?_eq_getElem (by have := HT2.out.l; have := HL.out; omega)⟩
      obtain ⟨hs, hN⟩ := HT1.out.e k x y hx hy
      obtain ⟨hs', hN'⟩ := HT2.out.e k x' y' hx' hy'
      obtain ⟨b2, off, hA, hlt, g0, g1, g2, g3, g4⟩ := en_at (HT1.out.r.later HB.out) hx
      obtain ⟨b6, off6, hA6, -⟩ := en_at (HT2.out.r.later HB.out) hx'
      have HY := Lib.hid (fun V (hV : Below w.heap.size w V) => (show V.cell? ⟨b6, off6 + k * 5, none⟩ = some (.int .u8 x'.k) ∧ V.cell? ⟨b6, off6 + k * 5 + 1, none⟩ = some (.slice x'.p.A x'.p.n x'.p.c) ∧ V.cell? ⟨b6, off6 + k * 5 + 2, none⟩ = some (.slice x'.q.A x'.q.n x'.q.c) ∧ V.cell? ⟨b6, off6 + k * 5 + 3, none⟩ = some (.slice x'.m.A x'.m.n x'.m.c) ∧ V.cell? ⟨b6, off6 + k * 5 + 4, none⟩ = some (.slice x'.b.A x'.b.n x'.b.c) by
        obtain ⟨b7, off7, hA7, _, q⟩ := en_at (HT2.out.r.later hV) hx'
        rw [hA6] at hA7
        injection hA7 with hA7
        injection hA7 with e1 e2
        subst e1 e2
        exact q))
      obtain ⟨bb, hbb⟩ := bool_ex (y = y')
      have HN : Hid (bb = true → ys.take (k + 1) = ys'.take (k + 1)) := Lib.hid (fun e => eq_next HT.out hy (by rw [hbb.1 e]; exact hy'))
      have HE : Hid (bb = false → b = false) := Lib.hid (fun e => eq_at HBB.out hy hy' (fun q => by rw [hbb.2 q] at e; cases e))
      have HO := Lib.hid (fun V (hV : Below w.heap.size w V) => psn_any x x' hs hs' y y' bb V hbb (hN.later hV) (hN'.later hV) (HS.out.1 y (List.mem_of_getElem? hy)) (HS.out.2 y' (List.mem_of_getElem? hy')))
      rw [hA, hA6]
      clear hx hx' hy hy' hN hN' hA hA6 hlt hbb
      go_upto_region 6 with fail
      obtain ⟨W4, hW4⟩ : ∃ W4, W4 = wr.alloc (nodeO x) := ⟨_, rfl⟩
      have B4 := Lib.hid (show Below w.heap.size w W4 by rw [hW4]; exact bel_alloc HB.out _)
      have Z4 := Lib.hid (show W4.heap[wr.heap.size]? = some (nodeO x) by rw [hW4]; exact heap_alloc_new wr _)
      rw [← hW4]
      clear hW4 g0 g1 g2 g3 g4
      obtain ⟨g0, g1, g2, g3, g4⟩ := HY.out W4 B4.out
      go_upto_region 7 with fail
      obtain ⟨W5, hW5⟩ : ∃ W5, W5 = W4.alloc (nodeO x') := ⟨_, rfl⟩
      have B5 := Lib.hid (show Below w.heap.size w W5 by rw [hW5]; exact bel_alloc B4.out _)
      have Z5 := Lib.hid (show W5.heap[wr.heap.size]? = some (nodeO x) by rw [hW5]; exact keep_bel (alb _ _) Z4.out)
      have Y5 := Lib.hid (show W5.heap[W4.heap.size]? = some (nodeO x') by rw [hW5]; exact heap_alloc_new W4 _)
      rw [← hW5]
      clear hW5 g0 g1 g2 g3 g4
      obtain ⟨c0, c1, c2, c3, c4⟩ := cells5 Z5.out
      obtain ⟨d0, d1, d2, d3, d4⟩ := cells5 Y5.out
      cases bb with
      | true =>
        have HN2 := Lib.hid (HN.out rfl)
        clear HN HE
        go_wp2_with (first
          | (go_at_call 28; ((with_reducible refine (HO.out _ B5.out).mono ?_); rintro e w8 ⟨rfl, b8⟩; have B8 := Lib.hid (bel_trans B5.out b8); clear b8))
          | fail)
        exact ⟨⟨k + 1, by omega, by simp, HN2, B8.out⟩, by simp [intOf]; omega⟩
      | false =>
        have HF := Lib.hid (HE.out rfl)
        clear HN HE
        go_wp2_with (first
          | (go_at_call 28; ((with_reducible refine (HO.out _ B5.out).mono ?_); rintro e w8 ⟨rfl, b8⟩; have B8 := Lib.hid (bel_trans B5.out b8); clear b8))
          | fail)
        go_ret
        exact ⟨by rw [HF.out]; try rfl, B8.out⟩
    · have hk1 : ¬ (k : Int) < (n : Int) := by omega
      have HF := Lib.hid (eq_end HBB.out HT.out (by rw [HL.out.1]; omega) (by rw [HL.out.2]; omega))
      go_wp2
      go_ret
      exact ⟨by rw [HF.out]; try rfl, HB.out⟩
set_option maxRecDepth 100000 in
set_option maxHeartbeats 2000000 in
theorem pts_any (A A' : Option Addr) (n n' c c' : Nat) (ns ns' : List NC) (ys ys' : List NdV) (b : Bool) (w : World) (hb : b = true ↔ ys = ys') (hT : NT w A ns ys) (hT' : NT w A' ns' ys') (hl : ys.length = n) (hl' : ys'.length = n') (hn : n ≤ 1000000) (hS : ∀ y ∈ ys, NSm y) (hS' : ∀ y ∈ ys', NSm y) :
    Calls Tryz.prog 13 #[.agg #[.slice A n c], .agg #[.slice A' n' c']] w fun e w' => e = .returned (.bool b) ∧ Below w.heap.size w w' := by
  obtain ⟨W0, hW0⟩ : ∃ W0, W0 = (w.alloc (.cells #[.slice A n c] 24)).alloc (.cells #[.slice A' n' c'] 24) := ⟨_, rfl⟩
  have B0 := Lib.hid (show Below w.heap.size w W0 by rw [hW0]; exact bel_alloc (alb w _) _)
  have Z0 := Lib.hid (show W0.heap[w.heap.size]? = some (.cells #[.slice A n c] 24 (0, 0)) by rw [hW0]; exact keep_bel (alb _ _) (heap_alloc_new w _))
  have Z1 := Lib.hid (show W0.heap[w.heap.size + 1]? = some (.cells #[.slice A' n' c'] 24 (0, 0)) by
    rw [hW0]
    have := heap_alloc_new (w.alloc (.cells #[.slice A n c] 24)) (.cells #[.slice A' n' c'] 24)
    simpa using this)
  have c0 : W0.cell? ⟨w.heap.size, 0, none⟩ = some (.slice A n c) := cellh Z0.out rfl
  have d0 : W0.cell? ⟨w.heap.size + 1, 0, none⟩ = some (.slice A' n' c') := cellh Z1.out rfl
  have HO := Lib.hid (pnodes_any A A' n n' c c' ns ns' ys ys' b W0 hb (hT.later B0.out) (hT'.later B0.out) hl hl' hn hS hS')
  clear hb hT hT' hl hl' hn hS hS'
  go_enter Tryz.func13, Tryz.ntmps13
  go_upto_region 1 with fail
  rw [← hW0]
  clear hW0
  go_wp2_with (first
    | (go_at_call 27; ((with_reducible refine HO.out.mono ?_); rintro e w8 ⟨rfl, b8⟩; have B8 := Lib.hid (bel_trans B0.out b8); clear b8))
    | fail)
  go_ret
  exact ⟨rfl, B8.out⟩
set_option maxRecDepth 100000 in
set_option maxHeartbeats 2000000 in
theorem print_no (A : Option Addr) (n c : Nat) (ns : List NC) (ys : List NdV) (w : World) (hg : GW w) (hT : NT w A ns ys) (hl : ys.length = n) (hn : n ≤ 1000000) (hS : ∀ y ∈ ys, NSm y) (ht : toldB ys = false) :
    Calls Tryz.prog 9 #[.agg #[.slice A n c]] w fun e w' => e = .returned (.tuple #[.string ⟨#[]⟩, .int .i64 3]) ∧ Below w.heap.size w w' := by
  have TD := told_any A n c ns ys
  rw [ht] at TD
  obtain ⟨W0, hW0⟩ : ∃ W0, W0 = w.alloc (.cells #[.slice A n c] 24) := ⟨_, rfl⟩
  have B0 := Lib.hid (show Below w.heap.size w W0 by rw [hW0]; exact alb w _)
  have Z0 := Lib.hid (show W0.heap[w.heap.size]? = some (.cells #[.slice A n c] 24 (0, 0)) by rw [hW0]; exact heap_alloc_new w _)
  have c0 : W0.cell? ⟨w.heap.size, 0, none⟩ = some (.slice A n c) := cellh Z0.out rfl
  have TD0 := Lib.hid (TD W0 (hg.later B0.out) (hT.later B0.out) hl hn hS)
  clear hg hT hl hn hS ht TD
  go_enter Tryz.func9, Tryz.ntmps9
  go_upto_region 1 with fail
  rw [← hW0]
  clear hW0
  go_wp2_with (first
    | (go_at_call 18; ((with_reducible refine TD0.out.mono ?_); rintro e w1 ⟨rfl, b1⟩; have B1 := Lib.hid (bel_trans B0.out b1); clear b1))
    | fail)
  refine bodyPost_ret (v := .tuple #[.string ⟨#[]⟩, .int .i64 3]) (by simp [results, Tryz.results9, go_sem]) rfl ⟨rfl, B1.out⟩
end Go.Proofs.YtdebedeebmmleaaGreatDoor
namespace Go.Proofs.YtdebedeebmmleaaGreatDoor
open Go.RowKit Go.Maps
/-- A node with few things. -/
structure SmN (y : NdV) : Prop where
  q : y.kids.length ≤ 20
  p : y.piv.length ≤ 20
  m : y.ms.length ≤ 40
  b : y.bl.length ≤ 20
  l : ∀ l ∈ y.bl, l.length ≤ 20
def blN (bl : List (List EnV)) : Nat := (bl.map List.length).sum
def thAt (y : NdV) : Nat := y.ms.length + blN y.bl
def thN (ys : List NdV) : Nat := (ys.map thAt).sum
theorem blk_next {bl : List (List EnV)} {k : Nat} {l : List EnV} (h : bl[k]? = some l) : blN (bl.take (k + 1)) = blN (bl.take k) + l.length := by
  unfold blN; rw [List.take_add_one, h]; simp
theorem th_next {ys : List NdV} {k : Nat} {y : NdV} (h : ys[k]? = some y) : thN (ys.take (k + 1)) = thN (ys.take k) + thAt y := by
  unfold thN; rw [List.take_add_one, h]; simp
theorem blk_le : ∀ (bl : List (List EnV)), (∀ l ∈ bl, l.length ≤ 20) → blN bl ≤ 20 * bl.length
  | [], _ => by simp [blN]
  | l :: bl, h => by
    have ih := blk_le bl (fun x hx => h x (List.mem_cons_of_mem _ hx))
    have h1 := h l (by simp)
    unfold blN at ih ⊢
    rw [List.map_cons, List.sum_cons, List.length_cons]
    omega
theorem th_le : ∀ (ys : List NdV), (∀ y ∈ ys, SmN y) → thN ys ≤ 440 * ys.length
  | [], _ => by simp [thN]
  | y :: ys, h => by
    have ih := th_le ys (fun x hx => h x (List.mem_cons_of_mem _ hx))
    have h1 := h y (by simp)
    have h2 := blk_le y.bl h1.l
    have h3 := h1.m
    have h4 := h1.b
    unfold thN at ih ⊢
    rw [List.map_cons, List.sum_cons, List.length_cons]
    have h5 : thAt y ≤ 440 := by unfold thAt; omega
    omega
theorem mem_next {α : Type} {P : α → Prop} {xs : List α} {k : Nat} {x : α} (h : ∀ y ∈ xs.take k, P y) (hx : xs[k]? = some x) (hp : P x) : ∀ y ∈ xs.take (k + 1), P y := by
  intro y hy
  rw [List.take_add_one, hx] at hy
  rcases List.mem_append.1 hy with hy | hy
  · exact h y hy
  · simp at hy; subst hy; exact hp
/-- What few answers: true says so much. -/
def SmP (ys : List NdV) (e : Ending) : Prop := ∃ b, e = .returned (.bool b) ∧ (b = true → ys.length ≤ 40 ∧ (∀ y ∈ ys, SmN y) ∧ thN ys ≤ 200)
set_option maxHeartbeats 8000000 in
set_option maxRecDepth 100000 in
theorem small_any (A : Option Addr) (n c : Nat) (ns : List NC) (ys : List NdV) (w : World) (hT : NT w A ns ys) (hl : ys.length = n) :
    Calls Tryz.prog 16 #[.agg #[.slice A n c]] w fun e w' => SmP ys e ∧ Below w.heap.size w w' := by
  have HT := Lib.hid hT
  have HL := Lib.hid hl
  obtain ⟨W0, hW0⟩ : ∃ W0, W0 = w.alloc (.cells #[.slice A n c] 24) := ⟨_, rfl⟩
  have B0 := Lib.hid (show Below w.heap.size w W0 by rw [hW0]; exact alb w _)
  have Z0 := Lib.hid (show W0.heap[w.heap.size]? = some (.cells #[.slice A n c] 24 (0, 0)) by rw [hW0]; exact heap_alloc_new w _)
  have c0 : W0.cell? ⟨w.heap.size, 0, none⟩ = some (.slice A n c) := cellh Z0.out rfl
  clear hT hl
  by_cases h40 : n ≤ 40
  rotate_left
  · have k40 : (40 : Int) < (n : Int) := by omega
    go_enter Tryz.func16, Tryz.ntmps16
    go_upto_region 1 with fail
    rw [← hW0]
    clear hW0
    go_wp2
    go_ret
    exact ⟨⟨false, rfl, fun h => by cases h⟩, B0.out⟩
  have k40 : ¬ (40 : Int) < (n : Int) := by omega
  have HN40 := Lib.hid h40
  clear h40
  go_enter Tryz.func16, Tryz.ntmps16
  go_upto_region 1 with fail
  rw [← hW0]
  clear hW0
  go_upto_region 5 with fail
  clear c0 k40
  go_loopw [3, 4, 5, 6] (fun sv iv _ _ wr => ∃ i s : Nat, i ≤ n ∧ iv = .int .i64 i ∧ sv = .int .i64 (s : Int) ∧ Hid (s = thN (ys.take i) ∧ ∀ y ∈ ys.take i, SmN y) ∧ Below W0.heap.size W0 wr) (fun _ iv _ _ _ => n - (intOf iv).toNat)
  case atStart => exact ⟨0, 0, by omega, rfl, rfl, Lib.hid ⟨rfl, by simp⟩, Below.refl _ _⟩
  case round =>
    rename World => w4
    obtain ⟨i, s, hi, rfl, rfl, HS, hb⟩ := hrel
    have HB := Lib.hid hb
    clear hb
    have BW := Lib.hid (bel_trans B0.out HB.out)
    have hnn := HL.out
    have h40 := HN40.out
    have hsb : s ≤ 17600 := by
      have h1 := th_le _ HS.out.2
      rw [HS.out.1]
      rw [List.length_take] at h1
      omega
    have c0 : w4.cell? ⟨w.heap.size, 0, none⟩ = some (.slice A n c) := cellh (keep_bel HB.out Z0.out) rfl
    by_cases h8 : i < n
    · have q1 : (i : Int) < (n : Int) := by omega
      have q0 : (0 : Int) ≤ (i : Int) := by omega
      have WK : IntKind.i64.wrap ((i : Int) + 1) = (i : Int) + 1 := IntWalk.i64_in _ (by omega)
      obtain ⟨y, hy⟩ : ∃ y, ys[i]? = some y := ⟨_, List.getElem?_eq_getElem (by omega)⟩
      obtain ⟨x, hx⟩ : ∃ x, ns[i]? = some x := ⟨_, List.getElem?_eq_getElem (by have := HT.out.l; omega)⟩
      obtain ⟨hs, hN⟩ := HT.out.e i x y hx hy
      obtain ⟨b2, off, hA, hlt, g0, g1, g2, g3, g4⟩ := en_at (HT.out.r.later BW.out) hx
      rw [hA] at c0
      obtain ⟨nq, hnq⟩ : ∃ n, n = y.kids.length := ⟨_, rfl⟩
      obtain ⟨np, hnp⟩ : ∃ n, n = y.piv.length := ⟨_, rfl⟩
      obtain ⟨nm, hnm⟩ : ∃ n, n = y.ms.length := ⟨_, rfl⟩
      obtain ⟨nl, hnl⟩ : ∃ n, n = y.bl.length := ⟨_, rfl⟩
      have HNN := Lib.hid (show nq = y.kids.length ∧ np = y.piv.length ∧ nm = y.ms.length ∧ nl = y.bl.length from ⟨hnq, hnp, hnm, hnl⟩)
      have HX := Lib.hid (And.intro (th_next hy) hy)
      obtain ⟨W5, hW5⟩ : ∃ W5, W5 = w4.alloc (nodeO x) := ⟨_, rfl⟩
      have B5 := Lib.hid (show Below W0.heap.size W0 W5 by rw [hW5]; exact bel_alloc HB.out _)
      have Z5 := Lib.hid (show W5.heap[w4.heap.size]? = some (nodeO x) by rw [hW5]; exact heap_alloc_new w4 _)
      have BW5 := Lib.hid (bel_trans B0.out B5.out)
      have HNR := Lib.hid (hN.later BW5.out)
      have UP := Lib.hid (fun V (h : Below W5.heap.size W5 V) => (show V.cell? ⟨w4.heap.size, 1, none⟩ = some (.slice x.p.A np x.p.c) ∧ V.cell? ⟨w4.heap.size, 2, none⟩ = some (.slice x.q.A nq x.q.c) ∧ V.cell? ⟨w4.heap.size, 3, none⟩ = some (.slice x.m.A nm x.m.c) ∧ V.cell? ⟨w4.heap.size, 4, none⟩ = some (.slice x.b.A nl x.b.c) by
        obtain ⟨a0, a1, a2, a3, a4⟩ := cells5 (keep_bel h Z5.out)
        exact ⟨by rw [hnp, ← hN.p.1]; exact a1, by rw [hnq, ← hN.q.1]; exact a2, by rw [hnm, ← hN.m.1]; exact a3, by rw [hnl, ← hN.b.2.2.1, ← hN.b.1]; exact a4⟩))
      clear hx hy hN hA hlt hnq hnp hnm hnl hnn
      go_upto_region 8 with fail
      rw [← hW5]
      clear hW5 g0 g1 g2 g3 g4 c0
      obtain ⟨c1, c2, c3, c4⟩ := UP.out W5 (Below.refl _ _)
      by_cases h1 : nq ≤ 20
      rotate_left
      · have e1 : (20 : Int) < (nq : Int) := by omega
        clear h1
        go_wp2
        go_ret
        exact ⟨⟨false, rfl, fun h => by cases h⟩, BW5.out⟩
      have e1 : ¬ (20 : Int) < (nq : Int) := by omega
      by_cases h2 : np ≤ 20
      rotate_left
      · have e2 : (20 : Int) < (np : Int) := by omega
        clear h1 h2
        go_wp2
        go_ret
        exact ⟨⟨false, rfl, fun h => by cases h⟩, BW5.out⟩
      have e2 : ¬ (20 : Int) < (np : Int) := by omega
      by_cases h3 : nm ≤ 40
      rotate_left
      · have e3 : (40 : Int) < (nm : Int) := by omega
        clear h1 h2 h3
        go_wp2
        go_ret
        exact ⟨⟨false, rfl, fun h => by cases h⟩, BW5.out⟩
      have e3 : ¬ (40 : Int) < (nm : Int) := by omega
      by_cases h4 : nl ≤ 20
      rotate_left
      · have e4 : (20 : Int) < (nl : Int) := by omega
        clear h1 h2 h3 h4
        go_wp2
        go_ret
        exact ⟨⟨false, rfl, fun h => by cases h⟩, BW5.out⟩
      have e4 : ¬ (20 : Int) < (nl : Int) := by omega
      have WS : IntKind.i64.wrap ((s : Int) + (nm : Int)) = (s : Int) + (nm : Int) := IntWalk.i64_in _ (by omega)
      have HQ := Lib.hid (show nq ≤ 20 ∧ np ≤ 20 ∧ nm ≤ 40 ∧ nl ≤ 20 ∧ s ≤ 17600 from ⟨h1, h2, h3, h4, hsb⟩)
      clear h1 h2 h3 h4 hsb h40
      go_upto_region 12 with fail
      clear c1 c2 c3 c4 e1 e2 e3 e4 WS
      go_loopw [3, 6] (fun sv jv wr => ∃ j t : Nat, j ≤ nl ∧ jv = .int .i64 j ∧ sv = .int .i64 (t : Int) ∧ Hid (t = s + nm + blN (y.bl.take j) ∧ ∀ l ∈ y.bl.take j, l.length ≤ 20) ∧ Below W5.heap.size W5 wr) (fun _ jv _ => nl - (intOf jv).toNat)
      case atStart => exact ⟨0, s + nm, by omega, rfl, by simp, Lib.hid ⟨by simp [blN], by simp⟩, Below.refl _ _⟩
      case round =>
        rename World => w6
        obtain ⟨j, t, hj, rfl, rfl, HTT, hb⟩ := hrel
        have HB6 := Lib.hid hb
        clear hb
        obtain ⟨c1, c2, c3, c4⟩ := UP.out w6 HB6.out
        have hq := HQ.out
        have hnn := HNN.out
        have htb : t ≤ 18500 := by
          have h1 := blk_le _ HTT.out.2
          rw [List.length_take] at h1
          have := HTT.out.1
          omega
        by_cases h9 : j < nl
        · have j1 : (j : Int) < (nl : Int) := by omega
          have j0 : (0 : Int) ≤ (j : Int) := by omega
          have WJ : IntKind.i64.wrap ((j : Int) + 1) = (j : Int) + 1 := IntWalk.i64_in _ (by omega)
          have hbN := HNR.out.b
          obtain ⟨l0, hl0⟩ : ∃ u, y.bl[j]? = some u := ⟨_, List.getElem?_eq_getElem (by omega)⟩
          obtain ⟨h0, hh0⟩ : ∃ u, hs[j]? = some u := ⟨_, List.getElem?_eq_getElem (by omega)⟩
          obtain ⟨b3, off3, hA3, hlt3, g0⟩ := eh_at (hbN.2.1.later HB6.out) hh0
          obtain ⟨r1, r2⟩ := hbN.2.2.2 j h0 l0 hh0 hl0
          obtain ⟨m, hm⟩ : ∃ m, m = l0.length := ⟨_, rfl⟩
          rw [r1, ← hm] at g0
          rw [hA3] at c4
          have HX3 := Lib.hid (And.intro (blk_next hl0) hl0)
          have HM := Lib.hid hm
          clear hbN hl0 hh0 hA3 hlt3 r1 r2 hm hnn c1 c2 c3
          by_cases h5 : m ≤ 20
          · have e5 : ¬ (20 : Int) < (m : Int) := by omega
            have WS : IntKind.i64.wrap ((t : Int) + (m : Int)) = (t : Int) + (m : Int) := IntWalk.i64_in _ (by omega)
            have HTN := Lib.hid (show t + m = s + nm + blN (y.bl.take (j + 1)) ∧ ∀ l ∈ y.bl.take (j + 1), l.length ≤ 20 from ⟨by rw [HX3.out.1, HTT.out.1, ← HM.out]; omega, mem_next HTT.out.2 HX3.out.2 (by rw [← HM.out]; exact h5)⟩)
            clear h5 hq htb
            go_wp2
            exact ⟨⟨j + 1, t + m, by omega, by simp, by simp, HTN, HB6.out⟩, by simp [intOf]; omega⟩
          · have e5 : (20 : Int) < (m : Int) := by omega
            clear h5 hq htb
            go_wp2
            go_ret
            exact ⟨⟨false, rfl, fun h => by cases h⟩, bel_trans BW5.out HB6.out⟩
        · have hje : j = nl := by omega
          subst hje
          have j1 : ¬ (j : Int) < (j : Int) := by omega
          have HSN := Lib.hid (show t = thN (ys.take (i + 1)) ∧ ∀ y ∈ ys.take (i + 1), SmN y by
            have h1 := HTT.out
            rw [List.take_of_length_le (by omega)] at h1
            refine ⟨by rw [HX.out.1, h1.1, HS.out.1]; unfold thAt; omega, mem_next HS.out.2 HX.out.2 ⟨by omega, by omega, by omega, by omega, h1.2⟩⟩)
          clear hq htb hnn
          go_wp2
          exact ⟨⟨i + 1, t, by omega, by simp, rfl, HSN, bel_trans B5.out HB6.out⟩, by simp [intOf]; omega⟩
    · have hie : i = n := by omega
      subst hie
      have q1 : ¬ (i : Int) < (i : Int) := by omega
      have HSN := Lib.hid (show s = thN ys ∧ ∀ y ∈ ys, SmN y by have h1 := HS.out; rw [List.take_of_length_le (by omega)] at h1; exact h1)
      clear hnn hsb
      go_wp2
      go_ret
      exact ⟨⟨_, rfl, fun h => ⟨by have := HL.out; have := HN40.out; omega, HSN.out.2, by rw [← HSN.out.1]; simp at h; omega⟩⟩, BW.out⟩
end Go.Proofs.YtdebedeebmmleaaGreatDoor
