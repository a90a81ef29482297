/- Texts of the proof, one behind the other. -/
import Derived.Test.YtdebedeebmmleaaGreatDoorTc32
import Derived.Test.YtdebedeebmmleaaGreatDoorTc25
import Derived.Test.YtdebedeebmmleaaGreatDoorTc29
import Derived.Test.YtdebedeebmmleaaGreatDoorTc28
set_option linter.unusedVariables false
set_option linter.unusedSimpArgs false
namespace Go.Proofs.YtdebedeebmmleaaGreatDoor
open Go.RowKit Go.Maps
theorem join_snoc : ∀ (ps : List (List UInt8)) (q : List UInt8), ps ≠ [] → Lib.join (ps ++ [q]) [32] = Lib.join ps [32] ++ 32 :: q
  | [], q, h => absurd rfl h
  | p :: ps, q, _ => by
    show Lib.join (p :: (ps ++ [q])) [32] = _
    rw [join_flat, join_flat, List.flatMap_append]
    simp
/-- The words of so many kids, without an end. -/
def iB (i : Nat) (ks : List Int) (ps : List ByteArray) (k : Nat) : List UInt8 := Lib.join ((iWd i ks ps k).map (fun x : ByteArray => x.data.toList)) [32]
theorem ib_ne (i : Nat) (ks : List Int) (ps : List ByteArray) (k : Nat) (rest : List ByteArray) : ((iWd i ks ps k ++ rest).map (fun x : ByteArray => x.data.toList)) ≠ [] := by unfold iWd; simp
theorem ib_one {i : Nat} {ks : List Int} {ps : List ByteArray} {v : Int} (h : ks[0]? = some v) : iB i ks ps (0 + 1) = iB i ks ps 0 ++ 32 :: (itoaB v).data.toList := by
  unfold iB
  rw [iwd_one h, List.map_append]
  exact join_snoc _ _ (by have := ib_ne i ks ps 0 []; rwa [List.append_nil] at this)
theorem ib_next {i k : Nat} {ks : List Int} {ps : List ByteArray} {v : Int} {p : ByteArray} (h : ks[k + 1]? = some v) (hp : ps[k]? = some p) : iB i ks ps (k + 1 + 1) = (iB i ks ps (k + 1) ++ 32 :: (tokB p).data.toList) ++ 32 :: (itoaB v).data.toList := by
  unfold iB
  rw [iwd_next h hp, List.map_append]
  show Lib.join (_ ++ [(itoaB v).data.toList]) [32] = _
  rw [join_snoc _ _ (ib_ne i ks ps (k + 1) [tokB p]), List.map_append]
  show Lib.join (_ ++ [(tokB p).data.toList]) [32] ++ _ = _
  rw [join_snoc _ _ (by have := ib_ne i ks ps (k + 1) []; rwa [List.append_nil] at this)]
theorem iwd_sz2 {i : Nat} {ks : List Int} {ps : List ByteArray} (hi : i ≤ 4097) (hk : ∀ v ∈ ks, -9223372036854775808 ≤ v ∧ v ≤ 9223372036854775807) (hp : ∀ t ∈ ps, t.size ≤ 900000) (k : Nat) : ∀ x ∈ iWd i ks ps k, x.size ≤ 2000000 := by
  intro x hx
  unfold iWd at hx
  rcases List.mem_cons.1 hx with rfl | hx
  · decide
  rcases List.mem_cons.1 hx with rfl | hx
  · have := itoa_sz (i : Int) (by omega) (by omega); omega
  cases hq : ks.take k with
  | nil => rw [hq] at hx; cases hx
  | cons a q =>
    have hsub : ∀ v ∈ a :: q, -9223372036854775808 ≤ v ∧ v ≤ 9223372036854775807 := fun v hv => hk v (by rw [← hq] at hv; exact List.mem_of_mem_take hv)
    rw [hq] at hx
    unfold kWd at hx
    simp only at hx
    rcases List.mem_cons.1 hx with rfl | hx
    · have h := hsub a (by simp)
      have := itoa_sz a (by omega) (by omega); omega
    · obtain ⟨e, he, hx⟩ := List.mem_flatMap.1 hx
      have h1 := hp e.1 (List.of_mem_zip he).1
      have h2 := hsub e.2 (List.mem_cons_of_mem _ (List.of_mem_zip he).2)
      unfold pWd at hx
      simp only [List.mem_cons, List.not_mem_nil, or_false] at hx
      rcases hx with rfl | rfl
      · exact tok_sz h1
      · have := itoa_sz e.2 (by omega) (by omega); omega
theorem ib_len {i k : Nat} {ks : List Int} {ps : List ByteArray} (hi : i ≤ 4097) (hk : ∀ v ∈ ks, -9223372036854775808 ≤ v ∧ v ≤ 9223372036854775807) (hp : ∀ t ∈ ps, t.size ≤ 900000) (h4 : k ≤ 400000) : (iB i ks ps k).length ≤ 2000001000000 := by
  have h1 := join_len 2000000 ((iWd i ks ps k).map (fun x : ByteArray => x.data.toList)) (fun p hp2 => by
    obtain ⟨x, hx, rfl⟩ := List.mem_map.1 hp2
    rw [ba_len]
    exact iwd_sz2 hi hk hp k x hx)
  rw [List.length_map] at h1
  have h2 := iwd_len i ks ps k
  have h3 := mul_le_big (n := (iWd i ks ps k).length) (m := 2000000 + 1) (by omega) (by omega)
  unfold iB
  omega
theorem told_k2 {i : Nat} {y : NdV} (h : y.k = 2) (hi : 0 < i) : toldAt (y, i) = (decide (y.bl.length = 0) && (decide (y.kids.length = y.piv.length + 1) && (!y.kids.any kdB && !y.ms.any (fun m => !tmB m)))) := by
  unfold toldAt nodeB
  simp only
  rw [if_neg (by omega), if_neg (by omega), if_pos h]
  have : ¬ i = 0 := by omega
  simp [this]
/-- What a message and a kid may be, by their types. -/
structure NIn (y : NdV) : Prop where
  q : ∀ v ∈ y.kids, -9223372036854775808 ≤ v ∧ v ≤ 9223372036854775807
  m : ∀ m ∈ y.ms, 0 ≤ m.dl ∧ m.dl ≤ 18446744073709551615
  k : 0 ≤ y.k
set_option maxHeartbeats 4000000 in
set_option maxRecDepth 100000 in
theorem qnode_2 (i : Nat) (hi : 0 < i ∧ i ≤ 4097) (x : NC) (hs : List Hd) (y : NdV) (w : World) (hk : y.k = 2) (hN : NRd w x hs y) (hS : NSm y) (hI : NIn y) (hl : (nodeL i y).length ≤ 4000000) : Calls Tryz.prog 26 #[.int .i64 (i : Int), nodeA x] w (QNode i y w) := by
  unfold QNode
  have htd := told_k2 hk hi.1
  obtain ⟨td, htd2⟩ : ∃ td, td = toldAt (y, i) := ⟨_, rfl⟩
  rw [← htd2] at htd ⊢
  obtain ⟨l1, hl1⟩ : ∃ l1, l1 = lineL (iWd i y.kids y.piv y.kids.length) := ⟨_, rfl⟩
  have hnl : nodeL i y = l1 ++ y.ms.flatMap msL := by
    unfold nodeL
    rw [if_neg (by omega), if_pos hk, hl1]
    unfold iWd
    rw [List.take_length]
    rfl
  rw [hnl] at hl ⊢
  have HLE := Lib.hid (fun k => (show (l1 ++ (y.ms.take k).flatMap msL).length ≤ 4000000 by
    have := fm_take msL y.ms k
    rw [List.length_append] at hl ⊢
    omega))
  have HL1 : Hid (l1 = iB i y.kids y.piv y.kids.length ++ [10]) := Lib.hid (by rw [hl1]; rfl)
  have NU := Lib.hid (fun W => rnum_any (i : Int) (by omega) (by omega) W)
  unfold numT at NU
  rw [if_pos (by unfold inR; simp; omega)] at NU
  have HNS : Hid ((itoaB (i : Int)).size ≤ 21) := Lib.hid (itoa_sz (i : Int) (by omega) (by omega))
  obtain ⟨N, hNN⟩ : ∃ N, N = itoaB (i : Int) := ⟨_, rfl⟩
  have HB0 : Hid ((⟨#[105, 110, 110, 101, 114, 32]⟩ ++ N : ByteArray) = ⟨(iB i y.kids y.piv 0).toArray⟩) := Lib.hid (ba_inj (by
    rw [ba_app, ba_list, hNN]
    show _ = Lib.join (wInner.data.toList :: (itoaB (i : Int)).data.toList :: []) [32]
    rw [join_two, Lib.join_one]
    simp))
  rw [← hNN] at NU HNS
  have ek : (x.k == 0) = false := beq_eq_false_iff_ne.2 (by rw [hN.k, hk]; decide)
  have ek1 : (x.k == 1) = false := beq_eq_false_iff_ne.2 (by rw [hN.k, hk]; decide)
  have ek2 : ¬ (2 : Int) < x.k := by rw [hN.k, hk]; decide
  have ei : ((i : Int) == 0) = false := beq_eq_false_iff_ne.2 (by omega)
  obtain ⟨nq, hnq⟩ : ∃ n, n = y.kids.length := ⟨_, rfl⟩
  obtain ⟨np, hnp⟩ : ∃ n, n = y.piv.length := ⟨_, rfl⟩
  obtain ⟨nm, hnm⟩ : ∃ n, n = y.ms.length := ⟨_, rfl⟩
  obtain ⟨nl, hnl2⟩ : ∃ n, n = y.bl.length := ⟨_, rfl⟩
  have HNN := Lib.hid (show nq = y.kids.length ∧ np = y.piv.length ∧ nm = y.ms.length ∧ nq ≤ 400000 ∧ np ≤ 400000 ∧ nm ≤ 900000 from ⟨hnq, hnp, hnm, by rw [hnq]; exact hS.q, by rw [hnp]; exact hS.p.1, by rw [hnm]; exact hS.m.1⟩)
  obtain ⟨W0, hW0⟩ : ∃ W0, W0 = w.alloc (nodeO x) := ⟨_, rfl⟩
  have B0 := Lib.hid (show Below w.heap.size w W0 by rw [hW0]; exact alb w _)
  have Z0 := Lib.hid (show W0.heap[w.heap.size]? = some (nodeO x) by rw [hW0]; exact heap_alloc_new w _)
  have UP := Lib.hid (fun V (h : Below W0.heap.size W0 V) => (show V.cell? ⟨w.heap.size, 1, none⟩ = some (.slice x.p.A np x.p.c) ∧ V.cell? ⟨w.heap.size, 2, none⟩ = some (.slice x.q.A nq x.q.c) ∧ V.cell? ⟨w.heap.size, 3, none⟩ = some (.slice x.m.A nm x.m.c) ∧ V.cell? ⟨w.heap.size, 4, none⟩ = some (.slice x.b.A nl x.b.c) by
    obtain ⟨a0, a1, a2, a3, a4⟩ := cells5 (keep_bel h Z0.out)
    exact ⟨by rw [hnp, ← hN.p.1]; exact a1, by rw [hnq, ← hN.q.1]; exact a2, by rw [hnm, ← hN.m.1]; exact a3, by rw [hnl2, ← hN.b.2.2.1, ← hN.b.1]; exact a4⟩))
  have c0 := (cells5 Z0.out).1
  obtain ⟨c1, c2, c3, c4⟩ := UP.out W0 (Below.refl _ _)
  have HN := Lib.hid (hN.later B0.out)
  have HSS := Lib.hid hS
  have HI := Lib.hid hI
  have HIB := Lib.hid (fun k (h : k ≤ 400000) => ib_len (i := i) (k := k) hi.2 hI.q hS.p.2 h)
  rw [← hnq, ← hnp, ← hnl2] at htd
  have HTD := Lib.hid htd
  obtain ⟨T, hT⟩ : ∃ T : ByteArray, T = ⟨(l1 ++ y.ms.flatMap msL).toArray⟩ := ⟨_, rfl⟩
  rw [← hT]
  have HT := Lib.hid hT
  have f1 : ¬ 9223372036854775807 < 6 + N.size := by have := HNS.out; omega
  have wp : IntKind.i64.wrap ((np : Int) + 1) = (np : Int) + 1 := IntWalk.i64_in _ (by have := HNN.out; omega)
  clear hi hk hN hS hI hl hnl hl1 hNN hnq hnp hnm hnl2 hT htd htd2
  by_cases hq : nq = np + 1
  rotate_left
  · have g1 : ¬ (nq : Int) = (np : Int) + 1 := by omega
    have HF : Hid (td = false) := Lib.hid (by rw [HTD.out]; simp [hq])
    clear hq
    go_enter Tryz.func26, Tryz.ntmps26
    go_upto_region 1 with fail
    rw [← hW0]
    clear hW0
    go_wp2_with (first
      | (go_at_call 25; ((with_reducible refine (NU.out _).mono ?_); rintro e w1 ⟨rfl, hw⟩; (have hw2 := hw.symm; subst hw2; clear hw)))
      | fail)
    refine bodyPost_ret (v := .tuple #[.string ⟨#[]⟩, .bool false]) (by simp [results, Tryz.results26, go_sem]) rfl ⟨⟨_, by rw [HF.out], fun h => by rw [HF.out] at h; cases h⟩, B0.out⟩
  have g1 : (nq : Int) = (np : Int) + 1 := by omega
  by_cases hb : nl = 0
  rotate_left
  · have g2 : (0 : Int) < (nl : Int) := by omega
    have HF : Hid (td = false) := Lib.hid (by rw [HTD.out]; simp [hb])
    have HG1 := Lib.hid g1
    subst hq
    clear hb g1
    go_enter Tryz.func26, Tryz.ntmps26
    go_upto_region 1 with fail
    rw [← hW0]
    clear hW0
    go_wp2_with (first
      | (go_at_call 25; ((with_reducible refine (NU.out _).mono ?_); rintro e w1 ⟨rfl, hw⟩; (have hw2 := hw.symm; subst hw2; clear hw)))
      | fail)
    refine bodyPost_ret (v := .tuple #[.string ⟨#[]⟩, .bool false]) (by simp [results, Tryz.results26, go_sem]) rfl ⟨⟨_, by rw [HF.out], fun h => by rw [HF.out] at h; cases h⟩, B0.out⟩
  subst hb
  have HTD2 : Hid (td = (!y.kids.any kdB && !y.ms.any (fun m => !tmB m))) := Lib.hid (by rw [HTD.out, hq]; simp)
  subst hq
  clear g1
  go_enter Tryz.func26, Tryz.ntmps26
  go_upto_region 1 with fail
  rw [← hW0]
  clear hW0
  go_upto_region 22 with (first
    | (go_at_call 25; ((with_reducible refine (NU.out _).mono ?_); rintro e w1 ⟨rfl, hw⟩; (have hw2 := hw.symm; subst hw2; clear hw)))
    | fail)
  rw [HB0.out]
  clear c0 c1 c2 c3 c4 ek ek1 ek2 ei f1
  go_loopw [11, 12, 13, 14] (fun ov kv _ _ wr => ∃ k : Nat, k ≤ np + 1 ∧ kv = .int .i64 k ∧ Hid (ov = .string ⟨(iB i y.kids y.piv k).toArray⟩) ∧ Hid ((y.kids.take k).any kdB = false) ∧ Below W0.heap.size W0 wr) (fun _ kv _ _ _ => np + 1 - (intOf kv).toNat)
  case atStart => exact ⟨0, by omega, rfl, Lib.hid rfl, Lib.hid rfl, Below.refl _ _⟩
  case round =>
    rename World => w4
    obtain ⟨k, hk, rfl, HOV, HAN, hb⟩ := hrel
    have HB := Lib.hid hb
    clear hb
    have hnn := HNN.out
    obtain ⟨O, hO⟩ : ∃ O : ByteArray, O = ⟨(iB i y.kids y.piv k).toArray⟩ := ⟨_, rfl⟩
    rw [← hO] at HOV
    (have hov := HOV.out; subst hov; clear HOV)
    have HO := Lib.hid hO
    have HOS : Hid (O.size ≤ 2000001000000) := Lib.hid (by rw [hO, ba_size]; exact HIB.out k (by omega))
    clear hO
    obtain ⟨c1, c2, c3, c4⟩ := UP.out w4 HB.out
    by_cases h8 : k < np + 1
    · have q1 : (k : Int) < (np : Int) + 1 := by omega
      have q0 : (0 : Int) ≤ (k : Int) := by omega
      have WK : IntKind.i64.wrap ((k : Int) + 1) = (k : Int) + 1 := IntWalk.i64_in _ (by omega)
      obtain ⟨v, hv⟩ : ∃ u, y.kids[k]? = some u := ⟨_, List.getElem?_eq_getElem (by omega)⟩
      obtain ⟨b2, off, hA, hlt, g0⟩ := ei_at (HN.out.q.2.later HB.out) hv
      rw [hA] at c2
      have hvr := HI.out.q v (List.mem_of_getElem? hv)
      have NV := Lib.hid (fun W => rnum_any v hvr.1 hvr.2 W)
      unfold numT at NV
      clear hA hlt
      by_cases hbad : kdB v = true
      · have HF : Hid (td = false) := Lib.hid (by rw [HTD2.out, any_yes hv hbad]; rfl)
        unfold kdB at hbad
        simp only [Bool.or_eq_true, decide_eq_true_eq] at hbad
        by_cases hin : inR v = true
        · rw [if_pos hin] at NV
          have hneg : v < 0 := by
            unfold inR at hin
            simp only [Bool.and_eq_true, decide_eq_true_eq] at hin
            omega
          generalize itoaB v = V at NV
          clear hbad hin hvr hv hnn c1 c3 c4
          go_wp2_with (first
            | (go_at_call 25; ((with_reducible refine (NV.out _).mono ?_); rintro e w1 ⟨rfl, hw⟩; (have hw2 := hw.symm; subst hw2; clear hw)))
            | fail)
          refine bodyPost_ret (v := .tuple #[.string ⟨#[]⟩, .bool false]) (by simp [results, Tryz.results26, go_sem]) rfl ⟨⟨_, by rw [HF.out], fun h => by rw [HF.out] at h; cases h⟩, B0.out.trans (HB.out.mono B0.out.size)⟩
        · rw [if_neg hin] at NV
          clear hbad hin hvr hv hnn c1 c3 c4
          go_wp2_with (first
            | (go_at_call 25; ((with_reducible refine (NV.out _).mono ?_); rintro e w1 ⟨rfl, hw⟩; (have hw2 := hw.symm; subst hw2; clear hw)))
            | fail)
          refine bodyPost_ret (v := .tuple #[.string ⟨#[]⟩, .bool false]) (by simp [results, Tryz.results26, go_sem]) rfl ⟨⟨_, by rw [HF.out], fun h => by rw [HF.out] at h; cases h⟩, B0.out.trans (HB.out.mono B0.out.size)⟩
      · have HAN2 := Lib.hid (any_take HAN.out hv (by simpa using hbad))
        have hgood : 0 ≤ v ∧ v ≤ 2147483647 := by
          unfold kdB at hbad
          simp only [Bool.or_eq_true, decide_eq_true_eq, not_or] at hbad
          omega
        rw [if_pos (by unfold inR; simp; omega)] at NV
        have hneg : ¬ v < 0 := by omega
        have HVS := Lib.hid (itoa_sz v hvr.1 hvr.2)
        by_cases hz : k = 0
        · have HNX : Hid (((O ++ ⟨#[32]⟩) ++ itoaB v : ByteArray) = ⟨(iB i y.kids y.piv (k + 1)).toArray⟩) := Lib.hid (ba_inj (by rw [ba_app, ba_app, HO.out, ba_list, ba_list]; subst hz; rw [ib_one hv]; simp))
          have k9 : ¬ (0 : Int) < (k : Int) := by omega
          generalize itoaB v = V at NV HVS HNX
          have L1 : ¬ 9223372036854775807 < O.size + 1 := by have := HOS.out; omega
          have L2 : ¬ 9223372036854775807 < O.size + 1 + V.size := by have := HOS.out; have := HVS.out; omega
          clear hbad hvr hv hnn c1 c3 c4 hgood hz
          go_wp2_with (first
            | (go_at_call 25; ((with_reducible refine (NV.out _).mono ?_); rintro e w1 ⟨rfl, hw⟩; (have hw2 := hw.symm; subst hw2; clear hw)))
            | fail)
          exact ⟨⟨k + 1, by omega, by simp, Lib.hid (by rw [HNX.out]), HAN2, HB.out⟩, by simp [intOf]; omega⟩
        · obtain ⟨k1, hk9⟩ : ∃ k1, k = k1 + 1 := ⟨k - 1, by omega⟩
          obtain ⟨p, hp⟩ : ∃ p, y.piv[k1]? = some p := ⟨_, List.getElem?_eq_getElem (by omega)⟩
          have k5 : (0 : Int) < (k : Int) := by omega
          have k6 : (0 : Int) ≤ (k1 : Int) := by omega
          have k7 : (k1 : Int) < (np : Int) := by omega
          have WS : IntKind.i64.wrap ((k : Int) - 1) = (k1 : Int) := by rw [IntWalk.i64_in _ (by omega)]; omega
          obtain ⟨b3, off3, hA3, hlt3, g3⟩ := es_at (HN.out.p.2.later HB.out) hp
          have HPZ := HSS.out.p.2 p (List.mem_of_getElem? hp)
          have HTK := Lib.hid (fun W => rtoken_any p (by omega) W)
          have HTS := Lib.hid (tok_sz HPZ)
          rw [hA3] at c1
          have HNX : Hid (((((O ++ ⟨#[32]⟩) ++ tokB p) ++ ⟨#[32]⟩) ++ itoaB v : ByteArray) = ⟨(iB i y.kids y.piv (k + 1)).toArray⟩) := Lib.hid (ba_inj (by rw [ba_app, ba_app, ba_app, ba_app, HO.out, ba_list, ba_list]; rw [hk9] at hv ⊢; rw [ib_next hv hp]; simp))
          generalize itoaB v = V at NV HVS HNX
          generalize tokB p = P at HTK HTS HNX
          have L1 : ¬ 9223372036854775807 < O.size + 1 := by have := HOS.out; omega
          have L2 : ¬ 9223372036854775807 < O.size + 1 + P.size := by have := HOS.out; have := HTS.out; omega
          have L3 : ¬ 9223372036854775807 < O.size + 1 + P.size + 1 := by have := HOS.out; have := HTS.out; omega
          have L4 : ¬ 9223372036854775807 < O.size + 1 + P.size + 1 + V.size := by have := HOS.out; have := HTS.out; have := HVS.out; omega
          clear hbad hvr hv hnn c3 c4 hgood hz hk9 hp hA3 hlt3 HPZ
          go_wp2_with (first
            | (go_at_call 25; ((with_reducible refine (NV.out _).mono ?_); rintro e w1 ⟨rfl, hw⟩; (have hw2 := hw.symm; subst hw2; clear hw)))
            | (go_at_call 42; ((with_reducible refine (HTK.out _).mono ?_); rintro e w2 ⟨rfl, b2⟩; have B2 := Lib.hid (bel_trans HB.out b2); clear b2))
            | fail)
          exact ⟨⟨k + 1, by omega, by simp, Lib.hid (by rw [HNX.out]), HAN2, B2.out⟩, by simp [intOf]; omega⟩
    · have hke : k = np + 1 := by omega
      have q1 : ¬ (k : Int) < (np : Int) + 1 := by omega
      have HAA : Hid (y.kids.any kdB = false) := Lib.hid (by have h := HAN.out; rw [List.take_of_length_le (by omega)] at h; exact h)
      have HL2 : Hid ((O ++ ⟨#[10]⟩ : ByteArray) = ⟨l1.toArray⟩) := Lib.hid (ba_inj (by rw [ba_app, HO.out, ba_list, ba_list, HL1.out, hke, ← hnn.1]))
      have HLL : Hid (l1.length ≤ 4000000) := Lib.hid (by have := HLE.out 0; simpa using this)
      have L1 : ¬ 9223372036854775807 < O.size + 1 := by have := HOS.out; omega
      clear hnn hke c1 c3 c4
      go_upto_region 32 with fail
      rw [HL2.out]
      clear c2 L1
      go_loopw [11, 15, 16, 17] (fun ov qv _ _ wr => ∃ q : Nat, q ≤ nm ∧ qv = .int .i64 q ∧ Hid (ov = .string ⟨(l1 ++ (y.ms.take q).flatMap msL).toArray⟩) ∧ Hid ((y.ms.take q).any (fun m => !tmB m) = false) ∧ Below W0.heap.size W0 wr) (fun _ qv _ _ _ => nm - (intOf qv).toNat)
      case atStart => exact ⟨0, by omega, rfl, Lib.hid (by simp), Lib.hid rfl, HB.out⟩
      case round =>
        rename World => w6
        obtain ⟨q, hq, rfl, HOV, HAN3, hb⟩ := hrel
        have HB6 := Lib.hid hb
        clear hb
        have hnn := HNN.out
        obtain ⟨O2, hO2⟩ : ∃ O : ByteArray, O = ⟨(l1 ++ (y.ms.take q).flatMap msL).toArray⟩ := ⟨_, rfl⟩
        rw [← hO2] at HOV
        (have hov := HOV.out; subst hov; clear HOV)
        have HO2 := Lib.hid hO2
        have HOS2 : Hid (O2.size ≤ 4000000) := Lib.hid (by rw [hO2, ba_size]; exact HLE.out q)
        clear hO2
        obtain ⟨c1, c2, c3, c4⟩ := UP.out w6 HB6.out
        by_cases h9 : q < nm
        · have j1 : (q : Int) < (nm : Int) := by omega
          have j0 : (0 : Int) ≤ (q : Int) := by omega
          have WQ : IntKind.i64.wrap ((q : Int) + 1) = (q : Int) + 1 := IntWalk.i64_in _ (by omega)
          obtain ⟨m0, hm0⟩ : ∃ m0, y.ms[q]? = some m0 := ⟨_, List.getElem?_eq_getElem (by omega)⟩
          obtain ⟨b4, off4, hA4, hlt4, e0, e1, e2, e3, e4, e5⟩ := em_at (HN.out.m.2.later HB6.out) hm0
          have QL := Lib.hid (fun W => qline_any m0 W (HSS.out.m.2 m0 (List.mem_of_getElem? hm0)) (HI.out.m m0 (List.mem_of_getElem? hm0)))
          unfold qlT M.v at QL
          rw [hA4] at c3
          cases htm : tmB m0 with
          | false =>
            have HF : Hid (td = false) := Lib.hid (by rw [HTD2.out, any_yes (p := fun m => !tmB m) hm0 (by rw [htm]; rfl)]; simp)
            rw [if_neg (by rw [htm]; decide)] at QL
            clear hm0 hA4 hlt4 htm hnn c1 c2 c4
            go_wp2_with (first
              | (go_at_call 43; ((with_reducible refine (QL.out _).mono ?_); rintro e w1 ⟨rfl, b1⟩; have B1 := Lib.hid (bel_trans HB6.out b1); clear b1))
              | fail)
            refine bodyPost_ret (v := .tuple #[.string ⟨#[]⟩, .bool false]) (by simp [results, Tryz.results26, go_sem]) rfl ⟨⟨_, by rw [HF.out], fun h => by rw [HF.out] at h; cases h⟩, B0.out.trans (B1.out.mono B0.out.size)⟩
          | true =>
            have HAN4 := Lib.hid (any_take (p := fun m => !tmB m) HAN3.out hm0 (by rw [htm]; rfl))
            rw [if_pos htm] at QL
            have HNX : Hid ((O2 ++ ⟨(lineL (mWd m0)).toArray⟩ : ByteArray) = ⟨(l1 ++ (y.ms.take (q + 1)).flatMap msL).toArray⟩) := Lib.hid (ba_inj (by rw [ba_app, HO2.out, ba_list, ba_list, ba_list, fm_next msL hm0, ← List.append_assoc]; rfl))
            have HLS : Hid ((⟨(lineL (mWd m0)).toArray⟩ : ByteArray).size ≤ 4000000) := Lib.hid (by
              have h := HLE.out (q + 1)
              rw [fm_next msL hm0, List.length_append, List.length_append] at h
              rw [ba_size]
              show (msL m0).length ≤ _
              omega)
            generalize (⟨(lineL (mWd m0)).toArray⟩ : ByteArray) = LM at QL HNX HLS
            have L1 : ¬ 9223372036854775807 < O2.size + LM.size := by have := HOS2.out; have := HLS.out; omega
            clear hm0 hA4 hlt4 htm hnn c1 c2 c4
            go_wp2_with (first
              | (go_at_call 43; ((with_reducible refine (QL.out _).mono ?_); rintro e w1 ⟨rfl, b1⟩; have B1 := Lib.hid (bel_trans HB6.out b1); clear b1))
              | fail)
            exact ⟨⟨q + 1, by omega, by simp, Lib.hid (by rw [HNX.out]), HAN4, B1.out⟩, by simp [intOf]; omega⟩
        · have hqe : q = nm := by omega
          subst hqe
          have j1 : ¬ (q : Int) < (q : Int) := by omega
          have HMM : Hid (y.ms.any (fun m => !tmB m) = false) := Lib.hid (by have h := HAN3.out; rw [List.take_of_length_le (by omega)] at h; exact h)
          have HTT : Hid (td = true) := Lib.hid (by rw [HTD2.out, HAA.out, HMM.out]; rfl)
          have HOT : Hid (O2 = T) := Lib.hid (by rw [HO2.out, HT.out, List.take_of_length_le (by omega)])
          rw [HOT.out]
          clear hnn c1 c2 c4
          go_wp2
          refine bodyPost_ret (v := .tuple #[.string T, .bool true]) (by simp [results, Tryz.results26, go_sem]) rfl ⟨⟨_, by rw [HTT.out], fun _ => rfl⟩, B0.out.trans (HB6.out.mono B0.out.size)⟩
theorem qnode_any (i : Nat) (hi : i ≤ 4097) (x : NC) (hs : List Hd) (y : NdV) (w : World) (hN : NRd w x hs y) (hS : NSm y) (hI : NIn y) (hl : (nodeL i y).length ≤ 4000000) : Calls Tryz.prog 26 #[.int .i64 (i : Int), nodeA x] w (QNode i y w) := by
  by_cases h0 : y.k = 0
  · exact qnode_0 i x hs y w h0 hN
  by_cases hz : i = 0
  · subst hz
    exact qnode_z x hs y w h0 hN
  by_cases h1 : y.k = 1
  · exact qnode_1 i ⟨by omega, hi⟩ x hs y w h1 hN hS hl
  by_cases h2 : y.k = 2
  · exact qnode_2 i ⟨by omega, hi⟩ x hs y w h2 hN hS hI hl
  · exact qnode_hi i ⟨by omega, hi⟩ x hs y w (by have := hI.k; omega) hN
end Go.Proofs.YtdebedeebmmleaaGreatDoor
namespace Go.Proofs.YtdebedeebmmleaaGreatDoor
open Go.RowKit Go.Maps
structure Few (ys : List NdV) : Prop where
  n : ys.length ≤ 40
  s : ∀ y ∈ ys, SmN y
  t : thN ys ≤ 200
  h : ∀ y ∈ ys, ShN y
def FwP (ys : List NdV) (e : Ending) : Prop := ∃ b, e = .returned (.bool b) ∧ (b = true → Few ys)
set_option maxHeartbeats 4000000 in
set_option maxRecDepth 100000 in
theorem few_any (A : Option Addr) (n c : Nat) (ns : List NC) (ys : List NdV) (w : World) (hT : NT w A ns ys) (hl : ys.length = n) :
    Calls Tryz.prog 7 #[.agg #[.slice A n c]] w fun e w' => FwP ys e ∧ Below w.heap.size w w' := by
  obtain ⟨W0, hW0⟩ : ∃ W0, W0 = w.alloc (.cells #[.slice A n c] 24) := ⟨_, rfl⟩
  have B0 := Lib.hid (show Below w.heap.size w W0 by rw [hW0]; exact alb w _)
  have Z0 := Lib.hid (show W0.heap[w.heap.size]? = some (.cells #[.slice A n c] 24 (0, 0)) by rw [hW0]; exact heap_alloc_new w _)
  have c0 : W0.cell? ⟨w.heap.size, 0, none⟩ = some (.slice A n c) := cellh Z0.out rfl
  have N0 := Lib.hid (hT.later B0.out)
  have SM := Lib.hid (small_any A n c ns ys W0 N0.out hl)
  have HL := Lib.hid hl
  clear hT hl
  go_enter Tryz.func7, Tryz.ntmps7
  go_upto_region 1 with fail
  rw [← hW0]
  clear hW0
  go_wp2_with (first
    | (go_at_call 16; ((with_reducible refine SM.out.mono ?_); rintro e w1 ⟨⟨b, rfl, hb⟩, b1⟩; have B1 := Lib.hid (bel_trans B0.out b1); have c9 : w1.cell? ⟨w.heap.size, 0, none⟩ = some (.slice A n c) := cellh (keep_bel b1 Z0.out) rfl; have SH := Lib.hid (fun (h : b = true) => short_any A n c ns ys w1 (N0.out.later b1) HL.out (by have := HL.out; have := (hb h).1; omega) (hb h).2.1); have HQ := Lib.hid hb; clear b1 hb; cases b))
    | (go_at_call 17; ((with_reducible refine (SH.out (by trivial)).mono ?_); rintro e w2 ⟨⟨b, rfl, hb⟩, b2⟩; have B2 := Lib.hid (bel_trans B1.out b2); have HB2 := Lib.hid hb; have HQ2 := Lib.hid (HQ.out (by trivial)); clear b2 hb))
    | fail)
  · go_ret
    exact ⟨⟨false, rfl, fun h => by cases h⟩, B1.out⟩
  · go_ret
    exact ⟨⟨_, rfl, fun h => ⟨HQ2.out.1, HQ2.out.2.1, HQ2.out.2.2, HB2.out (by simpa using h)⟩⟩, B2.out⟩
/-- Sizes of words, one more each. -/
def sumS (ws : List ByteArray) : Nat := (ws.map (fun x => x.size + 1)).sum
theorem sum_cons (x : ByteArray) (ws : List ByteArray) : sumS (x :: ws) = x.size + 1 + sumS ws := by unfold sumS; simp
theorem sum_app (xs ys : List ByteArray) : sumS (xs ++ ys) = sumS xs + sumS ys := by unfold sumS; simp
theorem flat_sum : ∀ (ws : List ByteArray), ((ws.map (fun x : ByteArray => x.data.toList)).flatMap (fun q => 32 :: q)).length = sumS ws
  | [] => rfl
  | x :: ws => by
    have e := ba_len x
    rw [List.map_cons, List.flatMap_cons, List.length_append, flat_sum ws, sum_cons, List.length_cons]
    omega
theorem line_sum (x : ByteArray) (ws : List ByteArray) : (lineL (x :: ws)).length = x.size + 1 + sumS ws := by
  have e := ba_len x
  unfold lineL
  rw [List.map_cons, join_flat, List.length_append, List.length_append, flat_sum]
  simp only [List.length_cons, List.length_nil]
  omega
theorem sum_ent : ∀ (l : List EnV), (∀ e ∈ l, e.key.size ≤ 300 ∧ e.val.size ≤ 300) → sumS (l.flatMap eWd) ≤ 1204 * l.length
  | [], _ => by simp [sumS]
  | e :: l, h => by
    have ih := sum_ent l (fun x hx => h x (List.mem_cons_of_mem _ hx))
    have h1 := h e (by simp)
    have h2 := tok_size e.key
    have h3 := tok_size e.val
    have h0 : sumS (eWd e) = (tokB e.key).size + 1 + ((tokB e.val).size + 1) := rfl
    rw [List.flatMap_cons, sum_app, List.length_cons]
    omega
theorem sum_pair : ∀ (l : List (ByteArray × Int)), (∀ e ∈ l, e.1.size ≤ 300 ∧ (itoaB e.2).size ≤ 21) → sumS (l.flatMap pWd) ≤ 624 * l.length
  | [], _ => by simp [sumS]
  | e :: l, h => by
    have ih := sum_pair l (fun x hx => h x (List.mem_cons_of_mem _ hx))
    have h1 := h e (by simp)
    have h2 := tok_size e.1
    have h0 : sumS (pWd e) = (tokB e.1).size + 1 + ((itoaB e.2).size + 1) := rfl
    rw [List.flatMap_cons, sum_app, List.length_cons]
    omega
theorem sum_kids {ks : List Int} {ps : List ByteArray} (hk : ∀ v ∈ ks, -9223372036854775808 ≤ v ∧ v ≤ 9223372036854775807) (hp : ∀ t ∈ ps, t.size ≤ 300) (h1 : ps.length ≤ 20) : sumS (kWd ks ps) ≤ 12600 := by
  cases ks with
  | nil => show 0 ≤ _; omega
  | cons a ks =>
    show sumS (itoaB a :: (ps.zip ks).flatMap pWd) ≤ _
    have ha := hk a (by simp)
    have h2 := itoa_sz a ha.1 ha.2
    have h3 := sum_pair (ps.zip ks) (fun e he => by
      have q := hk e.2 (List.mem_cons_of_mem _ (List.of_mem_zip he).2)
      exact ⟨hp e.1 (List.of_mem_zip he).1, itoa_sz e.2 q.1 q.2⟩)
    have h4 : (ps.zip ks).length ≤ 20 := by rw [List.length_zip]; omega
    rw [sum_cons]
    omega
theorem msg_size {m : M} (h : m.key.size ≤ 300 ∧ m.too.size ≤ 300 ∧ m.val.size ≤ 300) (hq : -9223372036854775808 ≤ m.q ∧ m.q ≤ 9223372036854775807) (hd : 0 ≤ m.dl ∧ m.dl ≤ 18446744073709551615) : (lineL (mWd m)).length ≤ 1240 := by
  have h1 := itoa_sz m.q hq.1 hq.2
  have h2 := tok_size m.key
  have h3 := tok_size m.too
  have h4 := tok_size m.val
  have h5 := utoa_size m.dl.toNat (by omega)
  have h0 : sumS [] = 0 := rfl
  have p1 : wPut.size = 3 := rfl
  have p2 : wDel.size = 6 := rfl
  have p3 : wAdd.size = 3 := rfl
  have p4 : wClr.size = 5 := rfl
  unfold mWd
  repeat' split
  all_goals
    rw [line_sum]
    simp only [sum_cons]
    omega
theorem msgs_size : ∀ (ms : List M), (∀ m ∈ ms, (lineL (mWd m)).length ≤ 1240) → (ms.flatMap (fun m => lineL (mWd m))).length ≤ 1240 * ms.length
  | [], _ => by simp
  | m :: ms, h => by
    have ih := msgs_size ms (fun x hx => h x (List.mem_cons_of_mem _ hx))
    have h1 := h m (by simp)
    rw [List.flatMap_cons, List.length_append, List.length_cons]
    omega
theorem blks_size : ∀ (bl : List (List EnV)), (∀ l ∈ bl, ∀ e ∈ l, e.key.size ≤ 300 ∧ e.val.size ≤ 300) → (bl.flatMap (fun l => lineL (bWd l))).length ≤ 6 * bl.length + 1204 * blN bl
  | [], _ => by simp
  | l :: bl, h => by
    have ih := blks_size bl (fun x hx => h x (List.mem_cons_of_mem _ hx))
    have h1 := sum_ent l (h l (by simp))
    have h2 : (lineL (bWd l)).length = 5 + 1 + sumS (l.flatMap eWd) := line_sum wBlock (l.flatMap eWd)
    have h3 : blN (l :: bl) = l.length + blN bl := by unfold blN; simp
    rw [List.flatMap_cons, List.length_append, List.length_cons, h3]
    omega
/-- What numbers a node holds, by their types. -/
structure NQ (y : NdV) : Prop where
  i : NIn y
  q : ∀ m ∈ y.ms, -9223372036854775808 ≤ m.q ∧ m.q ≤ 9223372036854775807
theorem node_size {i : Nat} {y : NdV} (hi : i ≤ 4097) (hS : SmN y) (hH : ShN y) (hq : NQ y) : (nodeL i y).length ≤ 12660 + 1240 * thAt y := by
  have h1 := itoa_sz (i : Int) (by omega) (by omega)
  have h0 : sumS [] = 0 := rfl
  have p1 : wLeaf.size = 4 := rfl
  have p2 : wInner.size = 5 := rfl
  unfold thAt
  have hb := hS.b
  by_cases k1 : y.k = 1
  · unfold nodeL
    rw [if_pos k1, List.length_append, line_sum, sum_cons]
    have h2 := blks_size y.bl hH.b
    omega
  · by_cases k2 : y.k = 2
    · unfold nodeL
      rw [if_neg k1, if_pos k2, List.length_append, line_sum, sum_cons]
      have h2 := sum_kids hq.i.q hH.p hS.p
      have h3 := msgs_size y.ms (fun m hm => msg_size (hH.m m hm) (hq.q m hm) (hq.i.m m hm))
      omega
    · unfold nodeL
      rw [if_neg k1, if_neg k2]
      simp
theorem nodes_size : ∀ (ys : List NdV) (v : Nat), v + ys.length ≤ 4097 → (∀ y ∈ ys, SmN y ∧ ShN y ∧ NQ y) → ((ys.zipIdx v).flatMap (fun x => nodeL x.2 x.1)).length ≤ 12660 * ys.length + 1240 * thN ys
  | [], v, _, _ => by simp
  | y :: ys, v, hv, h => by
    rw [List.length_cons] at hv
    have ih := nodes_size ys (v + 1) (by omega) (fun x hx => h x (List.mem_cons_of_mem _ hx))
    obtain ⟨h1, h2, h3⟩ := h y (by simp)
    have h4 := node_size (i := v) (by omega) h1 h2 h3
    have h5 : thN (y :: ys) = thAt y + thN ys := by unfold thN; simp
    rw [zi_cons, List.flatMap_cons, List.length_append, List.length_cons, h5]
    simp only
    omega
theorem few_text {ys : List NdV} (h : Few ys) (hq : ∀ y ∈ ys, NQ y) : (dprL ys).length ≤ 800000 := by
  have h1 := itoa_sz (ys.length : Int) (by have := h.n; omega) (by have := h.n; omega)
  have h2 := nodes_size ys 0 (by have := h.n; omega) (fun y hy => ⟨h.s y hy, h.h y hy, hq y hy⟩)
  have h0 : sumS [] = 0 := rfl
  have p1 : wTree.size = 4 := rfl
  have h3 := h.n
  have h4 := h.t
  unfold dprL
  rw [List.length_append, line_sum, sum_cons]
  have h5 : (nodesL ys).length ≤ 12660 * ys.length + 1240 * thN ys := h2
  omega
theorem few_nsm {ys : List NdV} (h : Few ys) : ∀ y ∈ ys, NSm y := fun y hy => by
  have h1 := h.s y hy
  have h2 := h.h y hy
  refine ⟨⟨by have := h1.p; omega, fun t ht => by have := h2.p t ht; omega⟩, by have := h1.q; omega, ⟨by have := h1.m; omega, fun m hm => ?_⟩, by have := h1.b; omega, fun l hl => ⟨by have := h1.l l hl; omega, fun e he => by have := h2.b l hl e he; omega⟩⟩
  have := h2.m m hm
  exact ⟨by omega, by omega, by omega⟩
end Go.Proofs.YtdebedeebmmleaaGreatDoor
namespace Go.Proofs.YtdebedeebmmleaaGreatDoor
open Go.RowKit Go.Maps
def qprT (ys : List NdV) : Value := if ys.zipIdx.all toldAt = true then .tuple #[.string ⟨(dprL ys).toArray⟩, .int .i64 0] else .tuple #[.string ⟨#[]⟩, .int .i64 3]
set_option maxHeartbeats 4000000 in
set_option maxRecDepth 100000 in
theorem qprint_any (A : Option Addr) (n c : Nat) (ns : List NC) (ys : List NdV) (w : World) (hT : NT w A ns ys) (hl : ys.length = n) (hn : n ≤ 4097) (hS : ∀ y ∈ ys, NSm y) (hI : ∀ y ∈ ys, NIn y) (hL : (dprL ys).length ≤ 4000000) :
    Calls Tryz.prog 10 #[.agg #[.slice A n c]] w fun e w' => e = .returned (qprT ys) ∧ Below w.heap.size w w' := by
  obtain ⟨r, hr⟩ : ∃ r, ys.zipIdx.all toldAt = r := ⟨_, rfl⟩
  have HR := Lib.hid hr
  obtain ⟨R, hR⟩ : ∃ R, R = qprT ys := ⟨_, rfl⟩
  rw [← hR]
  unfold qprT at hR
  rw [hr] at hR
  obtain ⟨l0, hl0⟩ : ∃ l0, l0 = lineL [wTree, itoaB (n : Int)] := ⟨_, rfl⟩
  have hpr : dprL ys = l0 ++ ys.zipIdx.flatMap nodeF := by rw [hl0, ← hl]; rfl
  rw [hpr] at hL hR
  have HLE := Lib.hid (fun k => (show (l0 ++ (ys.zipIdx.take k).flatMap nodeF).length ≤ 4000000 by
    have := fm_take nodeF ys.zipIdx k
    rw [List.length_append] at hL ⊢
    omega))
  have HND := Lib.hid (fun (k : Nat) (y : NdV) (h : ys[k]? = some y) => (show (nodeL k y).length ≤ 4000000 by
    have h1 := nodes_long h
    have h2 : (nodesL ys).length ≤ 4000000 := by
      show (ys.zipIdx.flatMap nodeF).length ≤ _
      rw [List.length_append] at hL
      omega
    omega))
  have NU := Lib.hid (fun W => rnum_any (n : Int) (by omega) (by omega) W)
  unfold numT at NU
  rw [if_pos (by unfold inR; simp; omega)] at NU
  have HNS : Hid ((itoaB (n : Int)).size ≤ 21) := Lib.hid (itoa_sz (n : Int) (by omega) (by omega))
  obtain ⟨N, hNN⟩ : ∃ N, N = itoaB (n : Int) := ⟨_, rfl⟩
  have HB0 : Hid (((⟨#[116, 114, 101, 101, 32]⟩ ++ N) ++ ⟨#[10]⟩ : ByteArray) = ⟨l0.toArray⟩) := Lib.hid (ba_inj (by
    rw [hl0, ← hNN, line2, ba_app, ba_app, ba_list]
    simp))
  rw [← hNN] at NU HNS
  obtain ⟨T, hT0⟩ : ∃ T : ByteArray, T = ⟨(l0 ++ ys.zipIdx.flatMap nodeF).toArray⟩ := ⟨_, rfl⟩
  rw [← hT0] at hR
  have HTT := Lib.hid hT0
  have HRR := Lib.hid hR
  have HT := Lib.hid hT
  have HLN := Lib.hid (And.intro hl hn)
  have HS := Lib.hid hS
  have HI := Lib.hid hI
  obtain ⟨W0, hW0⟩ : ∃ W0, W0 = w.alloc (.cells #[.slice A n c] 24) := ⟨_, rfl⟩
  have B0 := Lib.hid (show Below w.heap.size w W0 by rw [hW0]; exact alb w _)
  have Z0 := Lib.hid (show W0.heap[w.heap.size]? = some (.cells #[.slice A n c] 24 (0, 0)) by rw [hW0]; exact heap_alloc_new w _)
  have c0 : W0.cell? ⟨w.heap.size, 0, none⟩ = some (.slice A n c) := cellh Z0.out rfl
  have f1 : ¬ 9223372036854775807 < 5 + N.size := by have := HNS.out; omega
  have f2 : ¬ 9223372036854775807 < 5 + N.size + 1 := by have := HNS.out; omega
  clear hT hl hn hS hI hL hpr hl0 hT0 hr hNN hR
  go_enter Tryz.func10, Tryz.ntmps10
  go_upto_region 1 with fail
  rw [← hW0]
  clear hW0
  go_upto_region 4 with (first
    | (go_at_call 25; ((with_reducible refine (NU.out _).mono ?_); rintro e w1 ⟨rfl, hw⟩; (have hw2 := hw.symm; subst hw2; clear hw)))
    | fail)
  rw [HB0.out]
  clear c0 f1 f2
  go_loopw [6, 7, 8, 9] (fun ov kv _ _ wr => ∃ k : Nat, k ≤ n ∧ kv = .int .i64 k ∧ Hid (ov = .string ⟨(l0 ++ (ys.zipIdx.take k).flatMap nodeF).toArray⟩) ∧ Hid ((ys.zipIdx.take k).all toldAt = true) ∧ Below W0.heap.size W0 wr) (fun _ kv _ _ _ => n - (intOf kv).toNat)
  case atStart => exact ⟨0, by omega, rfl, Lib.hid (by simp), Lib.hid rfl, Below.refl _ _⟩
  case round =>
    rename World => w4
    obtain ⟨k, hk, rfl, HOV, HAL, hb⟩ := hrel
    have HB := Lib.hid hb
    clear hb
    have hnn := HLN.out
    obtain ⟨O, hO⟩ : ∃ O : ByteArray, O = ⟨(l0 ++ (ys.zipIdx.take k).flatMap nodeF).toArray⟩ := ⟨_, rfl⟩
    rw [← hO] at HOV
    (have hov := HOV.out; subst hov; clear HOV)
    have HO := Lib.hid hO
    have HOS : Hid (O.size ≤ 4000000) := Lib.hid (by rw [hO, ba_size]; exact HLE.out k)
    clear hO
    have BW := Lib.hid (bel_trans B0.out HB.out)
    have c0 : w4.cell? ⟨w.heap.size, 0, none⟩ = some (.slice A n c) := cellh (keep_bel HB.out Z0.out) rfl
    by_cases h8 : k < n
    · have q1 : (k : Int) < (n : Int) := by omega
      have q0 : (0 : Int) ≤ (k : Int) := by omega
      have WK : IntKind.i64.wrap ((k : Int) + 1) = (k : Int) + 1 := IntWalk.i64_in _ (by omega)
      obtain ⟨y, hy⟩ : ∃ y, ys[k]? = some y := ⟨_, List.getElem?_eq_getElem (by omega)⟩
      obtain ⟨x, hx⟩ : ∃ x, ns[k]? = some x := ⟨_, List.getElem?_eq_getElem (by have := HT.out.l; omega)⟩
      obtain ⟨hs, hN⟩ := HT.out.e k x y hx hy
      obtain ⟨b2, off, hA, hlt, g0, g1, g2, g3, g4⟩ := en_at (HT.out.r.later BW.out) hx
      rw [hA] at c0
      have QN := Lib.hid (qnode_any k (by omega) x hs y w4 (hN.later BW.out) (HS.out y (List.mem_of_getElem? hy)) (HI.out y (List.mem_of_getElem? hy)) (HND.out k y hy))
      unfold QNode at QN
      have HX := Lib.hid (fm_next nodeF (zi_get hy))
      have HZ := Lib.hid (zi_get hy)
      have HNL := Lib.hid (HND.out k y hy)
      clear hx hy hN hA hlt hnn
      cases ht : toldAt (y, k) with
      | false =>
        rw [ht] at QN
        have HF : Hid (r = false) := Lib.hid (by rw [← HR.out]; exact all_no HZ.out ht)
        clear ht
        go_wp2_with (first
          | (go_at_call 26; ((with_reducible refine QN.out.mono ?_); rintro e w5 ⟨⟨s, rfl, hs5⟩, b5⟩; have B5 := Lib.hid (bel_trans BW.out b5); clear b5 hs5))
          | fail)
        refine bodyPost_ret (v := .tuple #[.string ⟨#[]⟩, .int .i64 3]) (by simp [results, Tryz.results10, go_sem]) rfl ⟨by rw [HRR.out, HF.out]; rfl, B5.out⟩
      | true =>
        rw [ht] at QN
        have HAL2 := Lib.hid (all_next HAL.out HZ.out ht)
        clear ht
        go_upto_region 7 with (first
          | (go_at_call 26; ((with_reducible refine QN.out.mono ?_); rintro e w5 ⟨⟨s, rfl, hs5⟩, b5⟩; have B5 := Lib.hid (bel_trans HB.out b5); have HS5 := Lib.hid (hs5 rfl); clear b5 hs5))
          | fail)
        have L1 : ¬ 9223372036854775807 < O.size + s.size := by have := HOS.out; have h := HNL.out; have h9 : s.size = (nodeL k y).length := (by rw [HS5.out]; exact ba_size _); omega
        have HNX : Hid ((O ++ s : ByteArray) = ⟨(l0 ++ (ys.zipIdx.take (k + 1)).flatMap nodeF).toArray⟩) := Lib.hid (ba_inj (by rw [ba_app, HO.out, HS5.out, ba_list, ba_list, ba_list, HX.out, ← List.append_assoc]; rfl))
        clear c0 g0 g1 g2 g3 g4
        go_wp2
        exact ⟨⟨k + 1, by omega, by simp, Lib.hid (by rw [HNX.out]), HAL2, B5.out⟩, by simp [intOf]; omega⟩
    · have hke : k = n := by omega
      subst hke
      have q1 : ¬ (k : Int) < (k : Int) := by omega
      have e : ys.zipIdx.take k = ys.zipIdx := List.take_of_length_le (by rw [List.length_zipIdx]; omega)
      have HF : Hid (r = true) := Lib.hid (by rw [← HR.out, ← e]; exact HAL.out)
      have HOT : Hid (O = T) := Lib.hid (by rw [HO.out, HTT.out, e])
      rw [HOT.out]
      clear e hnn
      go_wp2
      refine bodyPost_ret (v := .tuple #[.string T, .int .i64 0]) (by simp [results, Tryz.results10, go_sem]) rfl ⟨by rw [HRR.out, HF.out]; rfl, BW.out⟩
end Go.Proofs.YtdebedeebmmleaaGreatDoor
