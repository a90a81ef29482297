/- The document's lines of a leaf. -/
import Derived.Test.YtdebedeebmmleaaGreatDoorTc01
import Derived.Test.YtdebedeebmmleaaGreatDoorTc31
set_option linter.unusedVariables false
set_option linter.unusedSimpArgs false
namespace Go.Proofs.YtdebedeebmmleaaGreatDoor
open Go.RowKit Go.Maps
theorem join_flat : ∀ (p : List UInt8) (qs : List (List UInt8)), Lib.join (p :: qs) [32] = p ++ qs.flatMap (fun q => 32 :: q)
  | p, [] => by rw [Lib.join_one]; simp
  | p, q :: qs => by rw [join_two, join_flat q qs, List.flatMap_cons]; simp
theorem line2 (x y : ByteArray) : lineL [x, y] = x.data.toList ++ (32 :: (y.data.toList ++ [10])) := by
  unfold lineL
  show Lib.join (x.data.toList :: y.data.toList :: []) [32] ++ [10] = _
  rw [join_two, Lib.join_one]
  simp
def entL (e : EnV) : List UInt8 := (32 :: (tokB e.key).data.toList) ++ (32 :: (tokB e.val).data.toList)
/-- A block's line, without its end. -/
def bodyB (l : List EnV) : List UInt8 := wBlock.data.toList ++ l.flatMap entL
theorem ent_flat : ∀ (l : List EnV), ((l.flatMap eWd).map (fun x : ByteArray => x.data.toList)).flatMap (fun q => 32 :: q) = l.flatMap entL
  | [] => rfl
  | e :: l => by
    rw [List.flatMap_cons, List.map_append, List.flatMap_append, ent_flat l, List.flatMap_cons]
    simp [eWd, entL]
theorem blk_body (l : List EnV) : blkL l = bodyB l ++ [10] := by
  unfold blkL lineL bodyB bWd
  rw [List.map_cons, join_flat, ent_flat]
theorem body_next {l : List EnV} {j : Nat} {e : EnV} (h : l[j]? = some e) : bodyB (l.take (j + 1)) = bodyB (l.take j) ++ entL e := by
  unfold bodyB
  rw [fm_next entL h, List.append_assoc]
theorem body_le (l : List EnV) (j : Nat) : (bodyB (l.take j)).length ≤ (bodyB l).length := by
  unfold bodyB
  rw [List.length_append, List.length_append]
  have := fm_take entL l j
  omega
theorem told_k1 {i : Nat} {y : NdV} (h : y.k = 1) (hi : 0 < i) : toldAt (y, i) = decide (y.kids.length + y.piv.length + y.ms.length = 0) := by
  unfold toldAt nodeB
  simp only
  rw [if_neg (by omega), if_pos h]
  have : ¬ i = 0 := by omega
  simp [this]
set_option maxHeartbeats 4000000 in
set_option maxRecDepth 100000 in
theorem qnode_1 (i : Nat) (hi : 0 < i ∧ i ≤ 4097) (x : NC) (hs : List Hd) (y : NdV) (w : World) (hk : y.k = 1) (hN : NRd w x hs y) (hS : NSm y) (hl : (nodeL i y).length ≤ 4000000) : Calls Tryz.prog 26 #[.int .i64 (i : Int), nodeA x] w (QNode i y w) := by
  unfold QNode
  rw [told_k1 hk hi.1]
  obtain ⟨l1, hl1⟩ : ∃ l1, l1 = lineL [wLeaf, itoaB (i : Int)] := ⟨_, rfl⟩
  have hnl : nodeL i y = l1 ++ y.bl.flatMap blkL := by
    unfold nodeL
    rw [if_pos hk, ← hl1]
    rfl
  rw [hnl] at hl ⊢
  have HLE := Lib.hid (fun k => (show (l1 ++ (y.bl.take k).flatMap blkL).length ≤ 4000000 by
    have := fm_take blkL y.bl k
    rw [List.length_append] at hl ⊢
    omega))
  have NU := Lib.hid (fun W => rnum_any (i : Int) (by omega) (by omega) W)
  unfold numT at NU
  rw [if_pos (by unfold inR; simp; omega)] at NU
  have HNS : Hid ((itoaB (i : Int)).size ≤ 21) := Lib.hid (itoa_sz (i : Int) (by omega) (by omega))
  obtain ⟨N, hNN⟩ : ∃ N, N = itoaB (i : Int) := ⟨_, rfl⟩
  have HL1 : Hid (((⟨#[108, 101, 97, 102, 32]⟩ ++ N) ++ ⟨#[10]⟩ : ByteArray) = ⟨l1.toArray⟩) := Lib.hid (ba_inj (by rw [hl1, ← hNN, line2, ba_app, ba_app, ba_list]; simp))
  rw [← hNN] at NU HNS
  have ek : (x.k == 0) = false := beq_eq_false_iff_ne.2 (by rw [hN.k, hk]; decide)
  have ek1 : (x.k == 1) = true := by rw [hN.k, hk]; rfl
  have ek2 : ¬ (2 : Int) < x.k := by rw [hN.k, hk]; decide
  have ei : ((i : Int) == 0) = false := beq_eq_false_iff_ne.2 (by omega)
  obtain ⟨nq, hnq⟩ : ∃ n, n = y.kids.length := ⟨_, rfl⟩
  obtain ⟨np, hnp⟩ : ∃ n, n = y.piv.length := ⟨_, rfl⟩
  obtain ⟨nm, hnm⟩ : ∃ n, n = y.ms.length := ⟨_, rfl⟩
  obtain ⟨nl, hnl2⟩ : ∃ n, n = y.bl.length := ⟨_, rfl⟩
  have HNL := Lib.hid (show nl = y.bl.length ∧ nl = hs.length ∧ nl ≤ 900000 from ⟨hnl2, by rw [hnl2, hN.b.2.2.1], by rw [hnl2]; exact hS.b.1⟩)
  obtain ⟨W0, hW0⟩ : ∃ W0, W0 = w.alloc (nodeO x) := ⟨_, rfl⟩
  have B0 := Lib.hid (show Below w.heap.size w W0 by rw [hW0]; exact alb w _)
  have Z0 := Lib.hid (show W0.heap[w.heap.size]? = some (nodeO x) by rw [hW0]; exact heap_alloc_new w _)
  have UP := Lib.hid (fun V (h : Below W0.heap.size W0 V) => (show V.cell? ⟨w.heap.size, 1, none⟩ = some (.slice x.p.A np x.p.c) ∧ V.cell? ⟨w.heap.size, 2, none⟩ = some (.slice x.q.A nq x.q.c) ∧ V.cell? ⟨w.heap.size, 3, none⟩ = some (.slice x.m.A nm x.m.c) ∧ V.cell? ⟨w.heap.size, 4, none⟩ = some (.slice x.b.A nl x.b.c) by
    obtain ⟨a0, a1, a2, a3, a4⟩ := cells5 (keep_bel h Z0.out)
    exact ⟨by rw [hnp, ← hN.p.1]; exact a1, by rw [hnq, ← hN.q.1]; exact a2, by rw [hnm, ← hN.m.1]; exact a3, by rw [hnl2, ← hN.b.2.2.1, ← hN.b.1]; exact a4⟩))
  have c0 := (cells5 Z0.out).1
  have HN := Lib.hid (hN.later B0.out)
  have HSB := Lib.hid hS.b
  rw [← hnq, ← hnp, ← hnm]
  obtain ⟨T, hT⟩ : ∃ T : ByteArray, T = ⟨(l1 ++ y.bl.flatMap blkL).toArray⟩ := ⟨_, rfl⟩
  rw [← hT]
  have HT := Lib.hid hT
  have f1 : ¬ 9223372036854775807 < 5 + N.size := by have := HNS.out; omega
  have f2 : ¬ 9223372036854775807 < 5 + N.size + 1 := by have := HNS.out; omega
  clear hi hk hN hS hl hnl hl1 hNN hnq hnp hnm hnl2 hT
  go_enter Tryz.func26, Tryz.ntmps26
  go_upto_region 1 with fail
  rw [← hW0]
  clear hW0
  go_upto_region 9 with (first
    | (go_at_call 25; ((with_reducible refine (NU.out _).mono ?_); rintro e w1 ⟨rfl, hw⟩; (have hw2 := hw.symm; subst hw2; clear hw)))
    | fail)
  rw [HL1.out]
  clear c0 ek ek1 ek2 ei f1 f2
  go_loopw [8, 9, 10] (fun ov kv _ wr => ∃ k : Nat, k ≤ nl ∧ kv = .int .i64 k ∧ Hid (ov = .string ⟨(l1 ++ (y.bl.take k).flatMap blkL).toArray⟩) ∧ Below W0.heap.size W0 wr) (fun _ kv _ _ => nl - (intOf kv).toNat)
  case atStart => exact ⟨0, by omega, rfl, Lib.hid (by simp), Below.refl _ _⟩
  case round =>
    rename World => w4
    obtain ⟨k, hk, rfl, HOV, hb⟩ := hrel
    have HB := Lib.hid hb
    clear hb
    obtain ⟨L0, hL0⟩ : ∃ L, L = l1 ++ (y.bl.take k).flatMap blkL := ⟨_, rfl⟩
    have HOL : Hid (L0.length ≤ 4000000) := Lib.hid (by rw [hL0]; exact HLE.out k)
    rw [← hL0] at HOV
    obtain ⟨O, hO⟩ : ∃ O : ByteArray, O = ⟨L0.toArray⟩ := ⟨_, rfl⟩
    rw [← hO] at HOV
    (have hov := HOV.out; subst hov; clear HOV)
    have HO := Lib.hid hO
    have HOS : Hid (O.size ≤ 4000000) := Lib.hid (by rw [hO, ba_size]; exact HOL.out)
    have HL0 := Lib.hid hL0
    clear hO hL0
    obtain ⟨c1, c2, c3, c4⟩ := UP.out w4 HB.out
    have hnn := HNL.out
    by_cases h8 : k < nl
    · have q1 : (k : Int) < (nl : Int) := by omega
      have q0 : (0 : Int) ≤ (k : Int) := by omega
      have WK : IntKind.i64.wrap ((k : Int) + 1) = (k : Int) + 1 := IntWalk.i64_in _ (by omega)
      have hbN := HN.out.b
      obtain ⟨l0, hl0⟩ : ∃ u, y.bl[k]? = some u := ⟨_, List.getElem?_eq_getElem (by omega)⟩
      obtain ⟨h0, hh0⟩ : ∃ u, hs[k]? = some u := ⟨_, List.getElem?_eq_getElem (by omega)⟩
      obtain ⟨b2, off, hA, hlt, g00⟩ := eh_at hbN.2.1 hh0
      obtain ⟨r1, r2⟩ := hbN.2.2.2 k h0 l0 hh0 hl0
      obtain ⟨m, hm⟩ : ∃ m, m = l0.length := ⟨_, rfl⟩
      rw [r1, ← hm] at g00
      rw [hA] at c4
      have HCC := Lib.hid (fun V (h : Below W0.heap.size W0 V) => (show V.cell? ⟨w.heap.size, 4, none⟩ = some (.slice (some ⟨b2, off, none⟩) nl x.b.c) ∧ V.cell? ⟨b2, off + k, none⟩ = some (.slice h0.A m h0.c) from ⟨by rw [← hA]; exact (UP.out V h).2.2.2, bel_later h g00⟩))
      have HR0 := Lib.hid r2
      have HM := Lib.hid (show m = l0.length ∧ m ≤ 400000 ∧ ∀ e ∈ l0, e.key.size ≤ 900000 ∧ e.val.size ≤ 900000 from ⟨hm, by rw [hm]; exact (HSB.out.2 l0 (List.mem_of_getElem? hl0)).1, (HSB.out.2 l0 (List.mem_of_getElem? hl0)).2⟩)
      have HNXK := Lib.hid (show l1 ++ (y.bl.take (k + 1)).flatMap blkL = (L0 ++ bodyB l0) ++ [10] by rw [fm_next blkL hl0, blk_body, HL0.out]; simp [List.append_assoc])
      have HTL := Lib.hid (show (L0 ++ bodyB l0).length ≤ 4000000 by have := HLE.out (k + 1); rw [HNXK.out, List.length_append] at this; omega)
      have HST : Hid ((O ++ ⟨#[98, 108, 111, 99, 107]⟩ : ByteArray) = ⟨(L0 ++ bodyB (l0.take 0)).toArray⟩) := Lib.hid (ba_inj (by rw [ba_app, HO.out, ba_list, ba_list]; simp [bodyB]))
      have f3 : ¬ 9223372036854775807 < O.size + 5 := by have := HOS.out; omega
      clear hbN hl0 hh0 hA hlt g00 r1 r2 hm hnn c1 c2 c3
      go_upto_region 13 with fail
      rw [HST.out]
      clear c4 f3
      go_loopw [8, 10] (fun ov jv wr => ∃ j : Nat, j ≤ m ∧ jv = .int .i64 j ∧ Hid (ov = .string ⟨(L0 ++ bodyB (l0.take j)).toArray⟩) ∧ Below W0.heap.size W0 wr) (fun _ jv _ => m - (intOf jv).toNat)
      case atStart => exact ⟨0, by omega, rfl, Lib.hid rfl, HB.out⟩
      case round =>
        rename World => w6
        obtain ⟨j, hj, rfl, HOV, hb⟩ := hrel
        have HB6 := Lib.hid hb
        clear hb
        obtain ⟨O2, hO2⟩ : ∃ O : ByteArray, O = ⟨(L0 ++ bodyB (l0.take j)).toArray⟩ := ⟨_, rfl⟩
        rw [← hO2] at HOV
        (have hov := HOV.out; subst hov; clear HOV)
        have HOS2 : Hid (O2.size ≤ 4000000) := Lib.hid (by rw [hO2, ba_size]; have h1 := HTL.out; have h2 := body_le l0 j; rw [List.length_append] at h1 ⊢; omega)
        have HO2 := Lib.hid hO2
        clear hO2
        obtain ⟨c4, g0⟩ := HCC.out w6 HB6.out
        have hmm := HM.out
        by_cases h9 : j < m
        · have j1 : (j : Int) < (m : Int) := by omega
          have j0 : (0 : Int) ≤ (j : Int) := by omega
          have WJ : IntKind.i64.wrap ((j : Int) + 1) = (j : Int) + 1 := IntWalk.i64_in _ (by omega)
          obtain ⟨e0, he0⟩ : ∃ u, l0[j]? = some u := ⟨_, List.getElem?_eq_getElem (by omega)⟩
          obtain ⟨b4, o4, hA4, hlt4, e1, e2⟩ := ee_at (HR0.out.later HB6.out) he0
          have HES := hmm.2.2 e0 (List.mem_of_getElem? he0)
          have HX := Lib.hid (fun W => rtoken_any e0.key (by omega) W)
          have HY := Lib.hid (fun W => rtoken_any e0.val (by omega) W)
          have HXS := Lib.hid (tok_sz HES.1)
          have HYS := Lib.hid (tok_sz HES.2)
          obtain ⟨X, hX⟩ : ∃ X, X = tokB e0.key := ⟨_, rfl⟩
          obtain ⟨Y, hY⟩ : ∃ Y, Y = tokB e0.val := ⟨_, rfl⟩
          have HNX : Hid (((((O2 ++ ⟨#[32]⟩) ++ X) ++ ⟨#[32]⟩) ++ Y : ByteArray) = ⟨(L0 ++ bodyB (l0.take (j + 1))).toArray⟩) := Lib.hid (ba_inj (by rw [ba_app, ba_app, ba_app, ba_app, HO2.out, ba_list, ba_list, body_next he0, hX, hY]; simp [entL]))
          rw [← hX] at HX HXS
          rw [← hY] at HY HYS
          have L1 := Lib.hid (show ¬ 9223372036854775807 < O2.size + 1 by have := HOS2.out; omega)
          have L2 := Lib.hid (show ¬ 9223372036854775807 < O2.size + 1 + X.size by have := HOS2.out; have := HXS.out; omega)
          have L3 := Lib.hid (show ¬ 9223372036854775807 < O2.size + 1 + X.size + 1 by have := HOS2.out; have := HXS.out; omega)
          have L4 := Lib.hid (show ¬ 9223372036854775807 < O2.size + 1 + X.size + 1 + Y.size by have := HOS2.out; have := HXS.out; have := HYS.out; omega)
          have HA4 := Lib.hid hA4
          have hGG : ∀ V, Below w6.heap.size w6 V → V.cell? ⟨b2, off + k, none⟩ = some (.slice (some ⟨b4, o4, none⟩) m h0.c) := fun V hV => by have := (HCC.out V (HB6.out.trans (hV.mono HB6.out.size))).2; rw [HA4.out] at this; exact this
          rw [hA4] at g0
          clear he0 hA4 hlt4 HES hX hY hmm
          go_upto_region 15 with fail
          clear c4 g0
          refine wp_region_held_drew (S := (fun V : World => Below w6.heap.size w6 V)) (by kernel_rfl) ?_ (fun hHeld => ?_)
          · exact (Below.refl _ _).drew
          have HHeld := Lib.hid hHeld; clear hHeld
          refine wT (i := 0) (oi := { dst := some 80, op := Op.move (Operand.tmp 8), type := 9, pos := "ref.go:67", after := #[], guard := none }) (v := ?_) rfl (Or.inl ⟨by rfl, ?_⟩) HHeld.out ?_
          rotate_left
          · intro w hSw; clear hSw; go_simp; try with_reducible rfl
          try simp only [pu, pn, s1, s2, s3]
          refine wT (i := 1) (oi := { dst := some 81, op := Op.binOp BinOp.add 9 (Operand.tmp 80) (Operand.const (Value.string { data := #[32] })) 9, type := 9, pos := "ref.go:67", after := #[{ on := 0, ground := Ground.data }], guard := none }) (v := (.string (O2 ++ ⟨#[32]⟩) : Value)) rfl (Or.inl ⟨by rfl, ?_⟩) HHeld.out ?_
          · intro V hV; have hc0 := L1.out; clear hV; go_simp
          try simp only [pu, pn, s1, s2, s3]
          refine wT (i := 2) (oi := { dst := some 82, op := Op.fieldAddr 44 (Operand.tmp 3) 4, type := 0, pos := "ref.go:67", after := #[], guard := none }) (v := ?_) rfl (Or.inl ⟨by rfl, ?_⟩) HHeld.out ?_
          rotate_left
          · intro w hSw; clear hSw; go_simp; try with_reducible rfl
          try simp only [pu, pn, s1, s2, s3]
          refine wT (i := 3) (oi := { dst := some 83, op := Op.load 42 (Operand.tmp 82), type := 42, pos := "ref.go:67", after := #[{ on := 2, ground := Ground.data }], guard := none }) (v := (.slice (some ⟨b2, off, none⟩) nl x.b.c : Value)) rfl (Or.inl ⟨by rfl, ?_⟩) HHeld.out ?_
          · intro V hV; have hc0 := (HCC.out V (HB6.out.trans (hV.mono HB6.out.size))).1; clear hV; go_simp
          try simp only [pu, pn, s1, s2, s3]
          refine wT (i := 4) (oi := { dst := some 84, op := Op.move (Operand.tmp 9), type := 3, pos := "ref.go:67", after := #[], guard := none }) (v := ?_) rfl (Or.inl ⟨by rfl, ?_⟩) HHeld.out ?_
          rotate_left
          · intro w hSw; clear hSw; go_simp; try with_reducible rfl
          try simp only [pu, pn, s1, s2, s3]
          refine wT (i := 5) (oi := { dst := some 85, op := Op.indexAddr 42 (Operand.tmp 83) (Operand.tmp 84), type := 0, pos := "ref.go:67", after := #[{ on := 3, ground := Ground.data }, { on := 4, ground := Ground.data }], guard := none }) (v := ?_) rfl (Or.inl ⟨by rfl, ?_⟩) HHeld.out ?_
          rotate_left
          · intro w hSw; clear hSw; go_simp; try with_reducible rfl
          try simp only [pu, pn, s1, s2, s3]
          refine wT (i := 6) (oi := { dst := some 86, op := Op.load 69 (Operand.tmp 85), type := 69, pos := "ref.go:67", after := #[{ on := 5, ground := Ground.data }], guard := none }) (v := (.slice (some ⟨b4, o4, none⟩) m h0.c : Value)) rfl (Or.inl ⟨by rfl, ?_⟩) HHeld.out ?_
          · intro V hV; have hc0 := hGG V hV; clear hV; go_simp
          try simp only [pu, pn, s1, s2, s3]
          refine wT (i := 7) (oi := { dst := some 87, op := Op.move (Operand.tmp 10), type := 3, pos := "ref.go:67", after := #[], guard := none }) (v := ?_) rfl (Or.inl ⟨by rfl, ?_⟩) HHeld.out ?_
          rotate_left
          · intro w hSw; clear hSw; go_simp; try with_reducible rfl
          try simp only [pu, pn, s1, s2, s3]
          refine wT (i := 8) (oi := { dst := some 88, op := Op.indexAddr 69 (Operand.tmp 86) (Operand.tmp 87), type := 0, pos := "ref.go:67", after := #[{ on := 6, ground := Ground.data }, { on := 7, ground := Ground.data }], guard := none }) (v := ?_) rfl (Or.inl ⟨by rfl, ?_⟩) HHeld.out ?_
          rotate_left
          · intro w hSw; clear hSw; go_simp; try with_reducible rfl
          try simp only [pu, pn, s1, s2, s3]
          refine wT (i := 9) (oi := { dst := some 89, op := Op.fieldAddr 75 (Operand.tmp 88) 0, type := 0, pos := "ref.go:67", after := #[{ on := 8, ground := Ground.data }], guard := none }) (v := ?_) rfl (Or.inl ⟨by rfl, ?_⟩) HHeld.out ?_
          rotate_left
          · intro w hSw; clear hSw; go_simp; try with_reducible rfl
          try simp only [pu, pn, s1, s2, s3]
          refine wT (i := 10) (oi := { dst := some 90, op := Op.load 9 (Operand.tmp 89), type := 9, pos := "ref.go:67", after := #[{ on := 9, ground := Ground.data }], guard := none }) (v := (.string e0.key : Value)) rfl (Or.inl ⟨by rfl, ?_⟩) HHeld.out ?_
          · intro V hV; have hc0 := bel_later hV e1; clear hV; go_simp
          try simp only [pu, pn, s1, s2, s3]
          refine wT (i := 14) (oi := { dst := some 94, op := Op.fieldAddr 44 (Operand.tmp 3) 4, type := 0, pos := "ref.go:67", after := #[], guard := none }) (v := ?_) rfl (Or.inl ⟨by rfl, ?_⟩) HHeld.out ?_
          rotate_left
          · intro w hSw; clear hSw; go_simp; try with_reducible rfl
          try simp only [pu, pn, s1, s2, s3]
          refine wT (i := 15) (oi := { dst := some 95, op := Op.load 42 (Operand.tmp 94), type := 42, pos := "ref.go:67", after := #[{ on := 14, ground := Ground.data }], guard := none }) (v := (.slice (some ⟨b2, off, none⟩) nl x.b.c : Value)) rfl (Or.inl ⟨by rfl, ?_⟩) HHeld.out ?_
          · intro V hV; have hc0 := (HCC.out V (HB6.out.trans (hV.mono HB6.out.size))).1; clear hV; go_simp
          try simp only [pu, pn, s1, s2, s3]
          refine wT (i := 16) (oi := { dst := some 96, op := Op.move (Operand.tmp 9), type := 3, pos := "ref.go:67", after := #[], guard := none }) (v := ?_) rfl (Or.inl ⟨by rfl, ?_⟩) HHeld.out ?_
          rotate_left
          · intro w hSw; clear hSw; go_simp; try with_reducible rfl
          try simp only [pu, pn, s1, s2, s3]
          refine wT (i := 17) (oi := { dst := some 97, op := Op.indexAddr 42 (Operand.tmp 95) (Operand.tmp 96), type := 0, pos := "ref.go:67", after := #[{ on := 15, ground := Ground.data }, { on := 16, ground := Ground.data }], guard := none }) (v := ?_) rfl (Or.inl ⟨by rfl, ?_⟩) HHeld.out ?_
          rotate_left
          · intro w hSw; clear hSw; go_simp; try with_reducible rfl
          try simp only [pu, pn, s1, s2, s3]
          refine wT (i := 18) (oi := { dst := some 98, op := Op.load 69 (Operand.tmp 97), type := 69, pos := "ref.go:67", after := #[{ on := 17, ground := Ground.data }], guard := none }) (v := (.slice (some ⟨b4, o4, none⟩) m h0.c : Value)) rfl (Or.inl ⟨by rfl, ?_⟩) HHeld.out ?_
          · intro V hV; have hc0 := hGG V hV; clear hV; go_simp
          try simp only [pu, pn, s1, s2, s3]
          refine wT (i := 19) (oi := { dst := some 99, op := Op.move (Operand.tmp 10), type := 3, pos := "ref.go:67", after := #[], guard := none }) (v := ?_) rfl (Or.inl ⟨by rfl, ?_⟩) HHeld.out ?_
          rotate_left
          · intro w hSw; clear hSw; go_simp; try with_reducible rfl
          try simp only [pu, pn, s1, s2, s3]
          refine wT (i := 20) (oi := { dst := some 100, op := Op.indexAddr 69 (Operand.tmp 98) (Operand.tmp 99), type := 0, pos := "ref.go:67", after := #[{ on := 18, ground := Ground.data }, { on := 19, ground := Ground.data }], guard := none }) (v := ?_) rfl (Or.inl ⟨by rfl, ?_⟩) HHeld.out ?_
          rotate_left
          · intro w hSw; clear hSw; go_simp; try with_reducible rfl
          try simp only [pu, pn, s1, s2, s3]
          refine wT (i := 21) (oi := { dst := some 101, op := Op.fieldAddr 75 (Operand.tmp 100) 1, type := 0, pos := "ref.go:67", after := #[{ on := 20, ground := Ground.data }], guard := none }) (v := ?_) rfl (Or.inl ⟨by rfl, ?_⟩) HHeld.out ?_
          rotate_left
          · intro w hSw; clear hSw; go_simp; try with_reducible rfl
          try simp only [pu, pn, s1, s2, s3]
          refine wT (i := 22) (oi := { dst := some 102, op := Op.load 9 (Operand.tmp 101), type := 9, pos := "ref.go:67", after := #[{ on := 21, ground := Ground.data }], guard := none }) (v := (.string e0.val : Value)) rfl (Or.inl ⟨by rfl, ?_⟩) HHeld.out ?_
          · intro V hV; have hc0 := bel_later hV e2; clear hV; go_simp
          try simp only [pu, pn, s1, s2, s3]
          refine wpAnyH_ready (rs := [11]) (by kernel_rfl) (by simp) ?_
          refine AllReadyH.cons (o := { dst := some 91, op := Op.call { callee := Callee.value (Operand.func 42), args := #[Operand.tmp 90], argTypes := #[9] }, type := 9, pos := "ref.go:67", after := #[{ on := 10, ground := Ground.data }], guard := none }) rfl (fun K hK => ?_) AllReadyH.nil
          go_simp
          (go_at_call 42; ((with_reducible refine (HX.out _).mono ?_); rintro e v4 ⟨rfl, bb⟩; have K4 := Lib.hid (HHeld.out.trans (bb.mono HHeld.out.size)); clear bb))
          refine hK.out _ _ ?_ (fun hHeld => ?_)
          · exact K4.out
          clear HHeld; have HHeld := Lib.hid hHeld; clear hHeld
          clear hK K
          try simp only [pu, pn, s1, s2, s3]
          refine wT (i := 12) (oi := { dst := some 92, op := Op.binOp BinOp.add 9 (Operand.tmp 81) (Operand.tmp 91) 9, type := 9, pos := "ref.go:67", after := #[{ on := 1, ground := Ground.data }, { on := 11, ground := Ground.data }], guard := none }) (v := (.string ((O2 ++ ⟨#[32]⟩) ++ X) : Value)) rfl (Or.inl ⟨by rfl, ?_⟩) HHeld.out ?_
          · intro V hV; have hc0 := L2.out; clear hV; go_simp
          try simp only [pu, pn, s1, s2, s3]
          refine wT (i := 13) (oi := { dst := some 93, op := Op.binOp BinOp.add 9 (Operand.tmp 92) (Operand.const (Value.string { data := #[32] })) 9, type := 9, pos := "ref.go:67", after := #[{ on := 12, ground := Ground.data }], guard := none }) (v := (.string (((O2 ++ ⟨#[32]⟩) ++ X) ++ ⟨#[32]⟩) : Value)) rfl (Or.inl ⟨by rfl, ?_⟩) HHeld.out ?_
          · intro V hV; have hc0 := L3.out; clear hV; go_simp
          try simp only [pu, pn, s1, s2, s3]
          refine wpAnyH_ready (rs := [23]) (by kernel_rfl) (by simp) ?_
          refine AllReadyH.cons (o := { dst := some 103, op := Op.call { callee := Callee.value (Operand.func 42), args := #[Operand.tmp 102], argTypes := #[9] }, type := 9, pos := "ref.go:67", after := #[{ on := 22, ground := Ground.data }, { on := 11, ground := Ground.chain }], guard := none }) rfl (fun K hK => ?_) AllReadyH.nil
          go_simp
          (go_at_call 42; ((with_reducible refine (HY.out _).mono ?_); rintro e v5 ⟨rfl, bb⟩; have K5 := Lib.hid (HHeld.out.trans (bb.mono HHeld.out.size)); clear bb))
          refine hK.out _ _ ?_ (fun hHeld => ?_)
          · exact K5.out
          clear HHeld; have HHeld := Lib.hid hHeld; clear hHeld
          clear hK K
          try simp only [pu, pn, s1, s2, s3]
          refine wT (i := 24) (oi := { dst := some 104, op := Op.binOp BinOp.add 9 (Operand.tmp 93) (Operand.tmp 103) 9, type := 9, pos := "ref.go:67", after := #[{ on := 13, ground := Ground.data }, { on := 23, ground := Ground.data }], guard := none }) (v := (.string ((((O2 ++ ⟨#[32]⟩) ++ X) ++ ⟨#[32]⟩) ++ Y) : Value)) rfl (Or.inl ⟨by rfl, ?_⟩) HHeld.out ?_
          · intro V hV; have hc0 := L4.out; clear hV; go_simp
          try simp only [pu, pn, s1, s2, s3]
          refine wT (i := 25) (oi := { dst := some 8, op := Op.assign (Operand.tmp 104), type := 9, pos := "ref.go:67", after := #[{ on := 24, ground := Ground.data }, { on := 23, ground := Ground.chain }, { on := 0, ground := Ground.phase }, { on := 1, ground := Ground.phase }, { on := 2, ground := Ground.phase }, { on := 3, ground := Ground.phase }, { on := 4, ground := Ground.phase }, { on := 5, ground := Ground.phase }, { on := 6, ground := Ground.phase }, { on := 7, ground := Ground.phase }, { on := 8, ground := Ground.phase }, { on := 9, ground := Ground.phase }, { on := 10, ground := Ground.phase }, { on := 11, ground := Ground.phase }, { on := 12, ground := Ground.phase }, { on := 13, ground := Ground.phase }, { on := 14, ground := Ground.phase }, { on := 15, ground := Ground.phase }, { on := 16, ground := Ground.phase }, { on := 17, ground := Ground.phase }, { on := 18, ground := Ground.phase }, { on := 19, ground := Ground.phase }, { on := 20, ground := Ground.phase }, { on := 21, ground := Ground.phase }, { on := 22, ground := Ground.phase }, { on := 23, ground := Ground.phase }, { on := 24, ground := Ground.phase }], guard := none }) (v := ?_) rfl (Or.inl ⟨by rfl, ?_⟩) HHeld.out ?_
          rotate_left
          · intro w hSw; clear hSw; go_simp; try with_reducible rfl
          try simp only [pu, pn, s1, s2, s3]
          refine wpAnyH_done (by kernel_rfl) ?_ _
          clear HHeld
          go_wp2
          refine ⟨⟨_, _, _, _, _, _, _, _, _, _, _, _, _, _, _, _, _, _, _, _, _, _, _, _, _, _, _, _, _, _, _, _, _, _, _, _, _, ?_, rfl⟩, ?_⟩
          · exact ⟨j + 1, by omega, by simp, Lib.hid (by rw [HNX.out]), bel_trans HB6.out K5.out⟩
          · simp [intOf]; omega
        · have hje : j = m := by omega
          subst hje
          have j1 : ¬ (j : Int) < (j : Int) := by omega
          have HE := Lib.hid (show l0.take j = l0 by rw [List.take_of_length_le (by omega)])
          have HNX : Hid ((O2 ++ ⟨#[10]⟩ : ByteArray) = ⟨(l1 ++ (y.bl.take (k + 1)).flatMap blkL).toArray⟩) := Lib.hid (ba_inj (by rw [ba_app, HO2.out, ba_list, ba_list, HNXK.out, HE.out]))
          have L1 : ¬ 9223372036854775807 < O2.size + 1 := by have := HOS2.out; omega
          clear hmm
          go_wp2
          exact ⟨⟨k + 1, by omega, rfl, Lib.hid (by rw [HNX.out]), HB6.out⟩, by simp [intOf]; omega⟩
    · have hke : k = nl := by omega
      subst hke
      have q1 : ¬ (k : Int) < (k : Int) := by omega
      have HOT : Hid (O = T) := Lib.hid (by rw [HO.out, HL0.out, HT.out, List.take_of_length_le (by omega)])
      rw [HOT.out]
      clear hnn
      by_cases h1 : nq = 0
      · have e1 : ((nq : Int) == 0) = true := by rw [h1]; rfl
        by_cases h2 : np = 0
        · have e2 : ((np : Int) == 0) = true := by rw [h2]; rfl
          by_cases h3 : nm = 0
          · have e3 : ((nm : Int) == 0) = true := by rw [h3]; rfl
            have HD := Lib.hid (show decide (nq + np + nm = 0) = true by simp; omega)
            clear h1 h2 h3
            go_wp2_with fail
            go_quiet (fail)
            go_wp2
            rw [HD.out]
            refine bodyPost_ret (v := .tuple #[.string T, .bool true]) (by simp [results, Tryz.results26, go_sem]) rfl ⟨⟨_, rfl, fun _ => rfl⟩, bel_drewN (B0.out.trans (HB.out.mono B0.out.size)) _⟩
          · have e3 : ((nm : Int) == 0) = false := beq_eq_false_iff_ne.2 (by omega)
            have HD := Lib.hid (show decide (nq + np + nm = 0) = false by simp; omega)
            clear h1 h2 h3
            go_wp2_with fail
            go_quiet (fail)
            go_wp2
            rw [HD.out]
            refine bodyPost_ret (v := .tuple #[.string T, .bool false]) (by simp [results, Tryz.results26, go_sem]) rfl ⟨⟨_, rfl, fun h => by cases h⟩, bel_drewN (B0.out.trans (HB.out.mono B0.out.size)) _⟩
        · have e2 : ((np : Int) == 0) = false := beq_eq_false_iff_ne.2 (by omega)
          have HD := Lib.hid (show decide (nq + np + nm = 0) = false by simp; omega)
          clear h1 h2
          go_wp2_with fail
          go_quiet (fail)
          go_wp2
          rw [HD.out]
          refine bodyPost_ret (v := .tuple #[.string T, .bool false]) (by simp [results, Tryz.results26, go_sem]) rfl ⟨⟨_, rfl, fun h => by cases h⟩, bel_drewN (B0.out.trans (HB.out.mono B0.out.size)) _⟩
      · have e1 : ((nq : Int) == 0) = false := beq_eq_false_iff_ne.2 (by omega)
        have HD := Lib.hid (show decide (nq + np + nm = 0) = false by simp; omega)
        clear h1
        go_wp2_with fail
        go_quiet (fail)
        go_wp2
        rw [HD.out]
        refine bodyPost_ret (v := .tuple #[.string T, .bool false]) (by simp [results, Tryz.results26, go_sem]) rfl ⟨⟨_, rfl, fun h => by cases h⟩, bel_drewN (B0.out.trans (HB.out.mono B0.out.size)) _⟩
end Go.Proofs.YtdebedeebmmleaaGreatDoor
