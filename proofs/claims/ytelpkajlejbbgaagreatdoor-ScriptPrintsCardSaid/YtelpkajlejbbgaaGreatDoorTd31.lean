/- Texts of the proof, one behind the other. -/
import Derived.Test.YtelpkajlejbbgaaGreatDoorTd30
import Derived.Test.YtelpkajlejbbgaaGreatDoorTd26
set_option linter.unusedVariables false
set_option linter.unusedSimpArgs false
namespace Go.Proofs.YtelpkajlejbbgaaGreatDoor
open Go.RowKit Go.Maps
theorem eq_bool {α : Type} (x y : α) : ∃ bb : Bool, bb = true ↔ x = y := by
  by_cases q : x = y
  · exact ⟨true, by simp [q]⟩
  · exact ⟨false, by simp [q]⟩
set_option maxRecDepth 100000 in
set_option maxHeartbeats 4000000 in
theorem rsame_gen (a0 a1 a2 a3 a4 a5 a6 a7 a8 b0 b1 b2 b3 b4 b5 b6 b7 b8 : Int) (A B A' B' : Option Addr) (n c m d n' c' m' d' : Nat) (rows rows' : List (List OpV)) (picks picks' : List Int) (b : Bool) (w : World) (hb : b = true ↔ ([a0, a1, a2, a3, a4, a5, a6, a7, a8] : List Int) = [b0, b1, b2, b3, b4, b5, b6, b7, b8] ∧ picks = picks' ∧ rows = rows') (hm : picks.length = m) (hm' : picks'.length = m') (hf : n ≤ 1000 ∧ m ≤ 1000 ∧ ∀ r ∈ rows, r.length ≤ 1000 ∧ ∀ o ∈ r, o.ms.length ≤ 1000)
    (hA : AllX w A n rows) (hP : EI.Rd w B picks) (hA' : AllX w A' n' rows') (hP' : EI.Rd w B' picks') :
    Calls Tryz.prog 15 #[scA a0 a1 a2 a3 a4 a5 a6 a7 a8 A n c B m d, scA b0 b1 b2 b3 b4 b5 b6 b7 b8 A' n' c' B' m' d'] w fun e w' => e = .returned (.bool b) ∧ Below w.heap.size w w' := by
  unfold scA
  obtain ⟨W0, hW0⟩ : ∃ W0, W0 = (w.alloc (.cells #[.int .i64 a0, .int .i64 a1, .int .i64 a2, .int .i64 a3, .int .i64 a4, .int .i64 a5, .int .i64 a6, .int .i64 a7, .int .i64 a8, .slice A n c, .slice B m d] 27)).alloc (.cells #[.int .i64 b0, .int .i64 b1, .int .i64 b2, .int .i64 b3, .int .i64 b4, .int .i64 b5, .int .i64 b6, .int .i64 b7, .int .i64 b8, .slice A' n' c', .slice B' m' d'] 27) := ⟨_, rfl⟩
  have B0 := Lib.hid (show Below w.heap.size w W0 by rw [hW0]; exact bel_alloc (alb w _) _)
  have Z0 := Lib.hid (show W0.heap[w.heap.size]? = some (.cells #[.int .i64 a0, .int .i64 a1, .int .i64 a2, .int .i64 a3, .int .i64 a4, .int .i64 a5, .int .i64 a6, .int .i64 a7, .int .i64 a8, .slice A n c, .slice B m d] 27) by rw [hW0]; exact keep_bel (alb _ _) (heap_alloc_new w _))
  have Z1 := Lib.hid (show W0.heap[w.heap.size + 1]? = some (.cells #[.int .i64 b0, .int .i64 b1, .int .i64 b2, .int .i64 b3, .int .i64 b4, .int .i64 b5, .int .i64 b6, .int .i64 b7, .int .i64 b8, .slice A' n' c', .slice B' m' d'] 27) by rw [hW0]; simpa using heap_alloc_new (w.alloc (.cells #[.int .i64 a0, .int .i64 a1, .int .i64 a2, .int .i64 a3, .int .i64 a4, .int .i64 a5, .int .i64 a6, .int .i64 a7, .int .i64 a8, .slice A n c, .slice B m d] 27)) (.cells #[.int .i64 b0, .int .i64 b1, .int .i64 b2, .int .i64 b3, .int .i64 b4, .int .i64 b5, .int .i64 b6, .int .i64 b7, .int .i64 b8, .slice A' n' c', .slice B' m' d'] 27))
  obtain ⟨c0, c1, c2, c3, c4, c5, c6, c7, c8, c9, c10⟩ := cells11 Z0.out
  obtain ⟨d0, d1, d2, d3, d4, d5, d6, d7, d8, d9, d10⟩ := cells11 Z1.out
  by_cases hcf : ([a0, a1, a2, a3, a4, a5, a6, a7, a8] : List Int) = [b0, b1, b2, b3, b4, b5, b6, b7, b8]
  rotate_left
  · have HF : Hid (b = false) := Lib.hid (by
      cases b with
      | false => rfl
      | true => exact absurd (hb.1 rfl).1 hcf)
    clear hb hm hm' hf hA hP hA' hP'
    rcases c_diff a0 a1 a2 a3 a4 a5 a6 a7 a8 b0 b1 b2 b3 b4 b5 b6 b7 b8 with h | ⟨rfl, h⟩ | ⟨rfl, rfl, h⟩ | ⟨rfl, rfl, rfl, h⟩ | ⟨rfl, rfl, rfl, rfl, h⟩ | ⟨rfl, rfl, rfl, rfl, rfl, h⟩ | ⟨rfl, rfl, rfl, rfl, rfl, rfl, h⟩ | ⟨rfl, rfl, rfl, rfl, rfl, rfl, rfl, h⟩ | ⟨rfl, rfl, rfl, rfl, rfl, rfl, rfl, rfl, h⟩ | ⟨rfl, rfl, rfl, rfl, rfl, rfl, rfl, rfl, rfl⟩
    rotate_right
    · exact absurd rfl hcf
    all_goals
      clear hcf
      go_enter Tryz.func15, Tryz.ntmps15
      go_upto_region 1 with fail
      rw [← hW0]
      clear hW0
      go_wp2
      exact bodyPost_ret (v := .bool false) (by simp [results, Tryz.results15, go_sem]) rfl ⟨by rw [HF.out], B0.out⟩
  simp only [List.cons.injEq, and_true] at hcf
  obtain ⟨rfl, rfl, rfl, rfl, rfl, rfl, rfl, rfl, rfl⟩ := hcf
  simp only [true_and] at hb
  by_cases hnm : n = n'
  rotate_left
  · have hq : ¬ (n : Int) = (n' : Int) := by omega
    have hq' : ((n : Int) == (n' : Int)) = false := beq_eq_false_iff_ne.2 hq
    have HF : Hid (b = false) := Lib.hid (by
      cases b with
      | false => rfl
      | true => exact absurd (by rw [← hA.1, ← hA'.1, (hb.1 rfl).2]) hnm)
    clear hb hm hm' hf hA hP hA' hP'
    go_enter Tryz.func15, Tryz.ntmps15
    go_upto_region 1 with fail
    rw [← hW0]
    clear hW0
    go_wp2
    exact bodyPost_ret (v := .bool false) (by simp [results, Tryz.results15, go_sem]) rfl ⟨by rw [HF.out], B0.out⟩
  subst hnm
  by_cases hmm : m = m'
  rotate_left
  · have hq : ¬ (m : Int) = (m' : Int) := by omega
    have hq' : ((m : Int) == (m' : Int)) = false := beq_eq_false_iff_ne.2 hq
    have HF : Hid (b = false) := Lib.hid (by
      cases b with
      | false => rfl
      | true => exact absurd (by rw [← hm, ← hm', (hb.1 rfl).1]) hmm)
    clear hb hm hm' hf hA hP hA' hP'
    go_enter Tryz.func15, Tryz.ntmps15
    go_upto_region 1 with fail
    rw [← hW0]
    clear hW0
    go_wp2
    exact bodyPost_ret (v := .bool false) (by simp [results, Tryz.results15, go_sem]) rfl ⟨by rw [HF.out], B0.out⟩
  subst hmm
  have HPL := Lib.hid (And.intro hm hm')
  have HNL := Lib.hid (And.intro hA.1 hA'.1)
  have HF0 := Lib.hid hf
  have HA := Lib.hid hA
  have HA' := Lib.hid hA'
  have HP := Lib.hid hP
  have HP' := Lib.hid hP'
  have HBB := Lib.hid hb
  clear hb hm hm' hf hA hP hA' hP'
  go_enter Tryz.func15, Tryz.ntmps15
  go_upto_region 1 with fail
  rw [← hW0]
  clear hW0
  go_upto_region 4 with fail
  clear c0 c1 c2 c3 c4 c5 c6 c7 c8 c9 c10 d0 d1 d2 d3 d4 d5 d6 d7 d8 d9 d10
  go_loopw [5] (fun iv wr => ∃ k : Nat, k ≤ m ∧ iv = .int .i64 k ∧ Hid (picks.take k = picks'.take k) ∧ Below W0.heap.size W0 wr) (fun iv _ => m - (intOf iv).toNat)
  case atStart => exact ⟨0, by omega, rfl, Lib.hid rfl, Below.refl _ _⟩
  case round =>
    obtain ⟨k, hk, rfl, HT, hb⟩ := hrel
    have HB0 := Lib.hid hb
    have HB := Lib.hid (bel_trans B0.out hb)
    clear hb
    have hNN := HPL.out
    have hFF := HF0.out.2.1
    obtain ⟨c0, c1, c2, c3, c4, c5, c6, c7, c8, c9, c10⟩ := cells11 (keep_bel HB0.out Z0.out)
    obtain ⟨d0, d1, d2, d3, d4, d5, d6, d7, d8, d9, d10⟩ := cells11 (keep_bel HB0.out Z1.out)
    by_cases h8 : k < m
    · have hk1 : (k : Int) < (m : Int) := by omega
      have hk0 : (0 : Int) ≤ (k : Int) := by omega
      have WK : IntKind.i64.wrap ((k : Int) + 1) = (k : Int) + 1 := IntWalk.i64_in _ (by omega)
      obtain ⟨x, hx⟩ : ∃ x, picks[k]? = some x := ⟨_, List.getElem?_eq_getElem (by omega)⟩
      obtain ⟨y, hy⟩ : ∃ x, picks'[k]? = some x := ⟨_, List.getElem?_eq_getElem (by omega)⟩
      obtain ⟨b2, off, rfl, hlt, g0⟩ := ei_at (HP.out.later HB.out) hx
      obtain ⟨b3, off3, rfl, hlt3, g1⟩ := ei_at (HP'.out.later HB.out) hy
      by_cases hxy : x = y
      · subst hxy
        have HN2 := Lib.hid (eq_next HT.out hx hy)
        clear hx hy hNN hFF hlt hlt3
        go_wp2_with fail
        go_quiet (fail)
        go_wp2
        exact ⟨⟨k + 1, by omega, by simp, HN2, bel_drewN HB0.out _⟩, by simp [intOf]; omega⟩
      · have HF : Hid (b = false) := Lib.hid (by
          cases b with
          | false => rfl
          | true =>
            have e := (HBB.out.1 rfl).1
            rw [e, hy] at hx
            injection hx with hx
            exact absurd hx.symm hxy)
        have hxy' : (x == y) = false := beq_eq_false_iff_ne.2 hxy
        clear hx hy hNN hFF hlt hlt3
        go_wp2_with fail
        go_quiet (fail)
        go_wp2
        exact bodyPost_ret (v := .bool false) (by simp [results, Tryz.results15, go_sem]) rfl ⟨by rw [HF.out], bel_drewN HB.out _⟩
    · have hk1 : ¬ (k : Int) < (m : Int) := by omega
      have HPK : Hid (picks = picks') := Lib.hid (by
        have h := HT.out
        rw [List.take_of_length_le (by omega), List.take_of_length_le (by omega)] at h
        exact h)
      have HB2 : Hid (b = true ↔ rows = rows') := Lib.hid (by
        rw [HBB.out]
        exact ⟨fun h => h.2, fun h => ⟨HPK.out, h⟩⟩)
      clear hNN hFF
      go_upto_region 9 with fail
      clear c0 c1 c2 c3 c4 c5 c6 c7 c8 c9 c10 d0 d1 d2 d3 d4 d5 d6 d7 d8 d9 d10
      go_loopw [6] (fun iv wr => ∃ i : Nat, i ≤ n ∧ iv = .int .i64 i ∧ Hid (rows.take i = rows'.take i) ∧ Below W0.heap.size W0 wr) (fun iv _ => n - (intOf iv).toNat)
      case atStart => exact ⟨0, by omega, rfl, Lib.hid rfl, HB0.out⟩
      case round =>
        obtain ⟨i, hi, rfl, HT2, hb⟩ := hrel
        obtain ⟨w7, hw7⟩ : ∃ w7, w7 = wr := ⟨_, rfl⟩
        subst hw7
        have HC0 := Lib.hid hb
        have HC := Lib.hid (bel_trans B0.out hb)
        clear hb
        have hNN := HNL.out
        have hFF := HF0.out.1
        obtain ⟨c0, c1, c2, c3, c4, c5, c6, c7, c8, c9, c10⟩ := cells11 (keep_bel HC0.out Z0.out)
        obtain ⟨d0, d1, d2, d3, d4, d5, d6, d7, d8, d9, d10⟩ := cells11 (keep_bel HC0.out Z1.out)
        by_cases h7 : i < n
        · have hi1 : (i : Int) < (n : Int) := by omega
          have hi0 : (0 : Int) ≤ (i : Int) := by omega
          have WI : IntKind.i64.wrap ((i : Int) + 1) = (i : Int) + 1 := IntWalk.i64_in _ (by omega)
          obtain ⟨r, hr⟩ : ∃ r, rows[i]? = some r := ⟨_, List.getElem?_eq_getElem (by omega)⟩
          obtain ⟨r', hr'⟩ : ∃ r, rows'[i]? = some r := ⟨_, List.getElem?_eq_getElem (by omega)⟩
          obtain ⟨b2, off, hA2, hn2, hc2, rfl, hlt, g9, g7⟩ := (HA.out.later HC.out).at hr
          obtain ⟨b3, off3, hA3, hn3, hc3, rfl, hlt3, g8, g6⟩ := (HA'.out.later HC.out).at hr'
          have G9 : Hid (∀ V, Below w7.heap.size w7 V → V.cell? ⟨b2, off + i, none⟩ = some (.slice hA2 hn2 hc2) ∧ V.cell? ⟨b3, off3 + i, none⟩ = some (.slice hA3 hn3 hc3)) := Lib.hid (fun V hV => ⟨bel_later hV g9, bel_later hV g8⟩)
          have hlr := HF0.out.2.2 r (List.mem_of_getElem? hr)
          have HLR := Lib.hid hlr
          have HRX := Lib.hid g7
          have HRY := Lib.hid g6
          have HRL := Lib.hid (And.intro g7.len g6.len)
          have H12 := Lib.hid (show hn2 ≤ 1000 by rw [← g7.len]; exact hlr.1)
          obtain ⟨rb, hrb⟩ := eq_bool r r'
          have HRB := Lib.hid hrb
          have HNR : Hid (rb = true → rows.take (i + 1) = rows'.take (i + 1)) := Lib.hid (fun e => eq_next HT2.out hr (by rw [hrb.1 e]; exact hr'))
          have HER : Hid (rb = false → b = false) := Lib.hid (fun e => eq_at HB2.out hr hr' (fun q => by rw [hrb.2 q] at e; cases e))
          clear hr hr' hNN hFF hlt hlt3 g7 g6 hrb hlr
          by_cases hxn : hn2 = hn3
          rotate_left
          · have hq : ¬ (hn2 : Int) = (hn3 : Int) := by omega
            have hq' : ((hn2 : Int) == (hn3 : Int)) = false := beq_eq_false_iff_ne.2 hq
            have HF : Hid (b = false) := Lib.hid (HER.out (eq_len HRB.out (by rw [HRL.out.1, HRL.out.2]; exact hxn)))
            clear hxn
            go_wp2_with fail
            go_quiet (fail)
            go_wp2
            exact bodyPost_ret (v := .bool false) (by simp [results, Tryz.results15, go_sem]) rfl ⟨by rw [HF.out], bel_drewN HC.out _⟩
          subst hxn
          go_wp2_with fail
          go_quiet (fail)
          go_upto_region 14 with fail
          clear c0 c1 c2 c3 c4 c5 c6 c7 c8 c9 c10 d0 d1 d2 d3 d4 d5 d6 d7 d8 d9 d10 g8 g9
          have HWD : Hid (Below w7.heap.size w7 (w7.drewN nq)) := Lib.hid (bel_drewN (Below.refl _ _) _)
          go_loopw [7] (fun jv wr => ∃ j : Nat, j ≤ hn2 ∧ jv = .int .i64 j ∧ Hid (r.take j = r'.take j) ∧ Below w7.heap.size w7 wr) (fun jv _ => hn2 - (intOf jv).toNat)
          case atStart => exact ⟨0, by omega, rfl, Lib.hid rfl, HWD.out⟩
          case round =>
            clear HWD
            obtain ⟨j, hj, rfl, HT3, hb⟩ := hrel
            have HD1 := Lib.hid hb
            have HD0 := Lib.hid (HC0.out.trans (hb.mono HC0.out.size))
            have HD := Lib.hid (bel_trans HC.out hb)
            clear hb
            have hle := H12.out
            have hrl := HRL.out
            obtain ⟨c0, c1, c2, c3, c4, c5, c6, c7, c8, c9, c10⟩ := cells11 (keep_bel HD0.out Z0.out)
            obtain ⟨d0, d1, d2, d3, d4, d5, d6, d7, d8, d9, d10⟩ := cells11 (keep_bel HD0.out Z1.out)
            obtain ⟨g9, g8⟩ := G9.out _ HD1.out
            by_cases h9 : j < hn2
            · have hj1 : (j : Int) < (hn2 : Int) := by omega
              have hj0 : (0 : Int) ≤ (j : Int) := by omega
              have WJ : IntKind.i64.wrap ((j : Int) + 1) = (j : Int) + 1 := IntWalk.i64_in _ (by omega)
              obtain ⟨o, ho⟩ : ∃ o, r[j]? = some o := ⟨_, List.getElem?_eq_getElem (by omega)⟩
              obtain ⟨p, hp⟩ : ∃ o, r'[j]? = some o := ⟨_, List.getElem?_eq_getElem (by omega)⟩
              have hm8 := HLR.out.2 o (List.mem_of_getElem? ho)
              obtain ⟨bb, hbb⟩ := eq_bool o p
              have HN : Hid (bb = true → r.take (j + 1) = r'.take (j + 1)) := Lib.hid (fun e => eq_next HT3.out ho (by rw [hbb.1 e]; exact hp))
              have HE : Hid (bb = false → rb = false) := Lib.hid (fun e => eq_at HRB.out ho hp (fun q => by rw [hbb.2 q] at e; cases e))
              obtain ⟨b5, off5, xA, xc, rfl, hlt5, g0, g1, g2, g3, g4, g5⟩ := (HRX.out.later HD1.out).at ho
              have HY := Lib.hid (fun V (hV : Below w7.heap.size w7 V) => (HRY.out.later hV).at hp)
              obtain ⟨ok, okey, otoo, on, oms⟩ := o
              obtain ⟨pk, pkey, ptoo, pn, pms⟩ := p
              simp only at g0 g1 g2 g3 g4 g5 HY hm8
              have HXM := Lib.hid g5
              obtain ⟨om, hom⟩ : ∃ om, oms.length = om := ⟨_, rfl⟩
              obtain ⟨pm, hpm⟩ : ∃ pm, pms.length = pm := ⟨_, rfl⟩
              rw [hom] at g4 hm8
              rw [hpm] at HY
              have HOM := Lib.hid (And.intro hom (And.intro hpm hm8))
              clear ho hp g5 hlt5 hom hpm hm8 hrl hle
              go_upto_region 17 with fail
              obtain ⟨W4, hW4⟩ : ∃ W4, W4 = wr.alloc (.cells #[.int .u8 ok, .string okey, .string otoo, .int .i64 on, .slice xA om xc] 47) := ⟨_, rfl⟩
              have B4 := Lib.hid (show Below w7.heap.size w7 W4 by rw [hW4]; exact bel_alloc HD1.out _)
              have Z4 := Lib.hid (show W4.heap[wr.heap.size]? = some (.cells #[.int .u8 ok, .string okey, .string otoo, .int .i64 on, .slice xA om xc] 47) by rw [hW4]; exact heap_alloc_new wr _)
              have HXM4 := Lib.hid (show EM.Rd W4 xA oms by rw [hW4]; exact HXM.out.later (alb wr _))
              rw [← hW4]
              clear hW4 g0 g1 g2 g3 g4 g9 g8 c0 c1 c2 c3 c4 c5 c6 c7 c8 c9 c10 d0 d1 d2 d3 d4 d5 d6 d7 d8 d9 d10
              obtain ⟨c0, c1, c2, c3, c4, c5, c6, c7, c8, c9, c10⟩ := cells11 (keep_bel (HC0.out.trans (B4.out.mono HC0.out.size)) Z0.out)
              obtain ⟨d0, d1, d2, d3, d4, d5, d6, d7, d8, d9, d10⟩ := cells11 (keep_bel (HC0.out.trans (B4.out.mono HC0.out.size)) Z1.out)
              obtain ⟨g9, g8⟩ := G9.out W4 B4.out
              obtain ⟨b6, off6, yA, yc, rfl, hlt6, g0, g1, g2, g3, g4, g5⟩ := HY.out W4 B4.out
              have HYM := Lib.hid g5
              clear g5 hlt6
              go_upto_region 18 with fail
              obtain ⟨W5, hW5⟩ : ∃ W5, W5 = W4.alloc (.cells #[.int .u8 pk, .string pkey, .string ptoo, .int .i64 pn, .slice yA pm yc] 47) := ⟨_, rfl⟩
              have B5 := Lib.hid (show Below w7.heap.size w7 W5 by rw [hW5]; exact bel_alloc B4.out _)
              have HB5 := Lib.hid (bel_trans HC.out B5.out)
              have Z5 := Lib.hid (show W5.heap[wr.heap.size]? = some (.cells #[.int .u8 ok, .string okey, .string otoo, .int .i64 on, .slice xA om xc] 47) by rw [hW5]; exact keep_bel (alb _ _) Z4.out)
              have Y5 := Lib.hid (show W5.heap[W4.heap.size]? = some (.cells #[.int .u8 pk, .string pkey, .string ptoo, .int .i64 pn, .slice yA pm yc] 47) by rw [hW5]; exact heap_alloc_new W4 _)
              have HXM5 := Lib.hid (show EM.Rd W5 xA oms by rw [hW5]; exact HXM4.out.later (alb W4 _))
              have HYM5 := Lib.hid (show EM.Rd W5 yA pms by rw [hW5]; exact HYM.out.later (alb W4 _))
              rw [← hW5]
              clear hW5 g0 g1 g2 g3 g4 g9 g8 c0 c1 c2 c3 c4 c5 c6 c7 c8 c9 c10 d0 d1 d2 d3 d4 d5 d6 d7 d8 d9 d10
              obtain ⟨c0, c1, c2, c3, c4⟩ := cells5 Z5.out
              obtain ⟨d0, d1, d2, d3, d4⟩ := cells5 Y5.out
              rcases o_diff hbb with ⟨h, hf⟩ | ⟨rfl, h, hf⟩ | ⟨rfl, rfl, h, hf⟩ | ⟨rfl, rfl, rfl, h, hf⟩ | ⟨rfl, rfl, rfl, rfl, hms⟩
              all_goals clear hbb
              · have HF := Lib.hid (HER.out (HE.out hf))
                have h' := beq_eq_false_iff_ne.2 h
                clear hf
                go_wp2
                exact bodyPost_ret (v := .bool false) (by simp [results, Tryz.results15, go_sem]) rfl ⟨by rw [HF.out], HB5.out⟩
              · have HF := Lib.hid (HER.out (HE.out hf))
                have h' := bne_l h
                clear hf
                go_wp2
                exact bodyPost_ret (v := .bool false) (by simp [results, Tryz.results15, go_sem]) rfl ⟨by rw [HF.out], HB5.out⟩
              · have HF := Lib.hid (HER.out (HE.out hf))
                have h' := bne_l h
                clear hf
                go_wp2
                exact bodyPost_ret (v := .bool false) (by simp [results, Tryz.results15, go_sem]) rfl ⟨by rw [HF.out], HB5.out⟩
              · have HF := Lib.hid (HER.out (HE.out hf))
                have h' := beq_eq_false_iff_ne.2 h
                clear hf
                go_wp2
                exact bodyPost_ret (v := .bool false) (by simp [results, Tryz.results15, go_sem]) rfl ⟨by rw [HF.out], HB5.out⟩
              have HSM := Lib.hid (msame_any xA yA om pm xc yc oms pms bb W5 hms HOM.out.1 HOM.out.2.1 HOM.out.2.2 HXM5.out HYM5.out)
              clear hms
              cases bb with
              | true =>
                have HN2 := Lib.hid (HN.out rfl)
                clear HN HE
                go_wp2_with (first
                  | (go_at_call 37; ((with_reducible refine HSM.out.mono ?_); rintro e w8 ⟨rfl, b8⟩; have B8 := Lib.hid (bel_trans B5.out b8); clear b8))
                  | fail)
                exact ⟨⟨j + 1, by omega, by simp, HN2, B8.out⟩, by simp [intOf]; omega⟩
              | false =>
                have HF := Lib.hid (HER.out (HE.out rfl))
                clear HN HE
                go_wp2_with (first
                  | (go_at_call 37; ((with_reducible refine HSM.out.mono ?_); rintro e w8 ⟨rfl, b8⟩; have B8 := Lib.hid (bel_trans HB5.out b8); clear b8))
                  | fail)
                exact bodyPost_ret (v := .bool false) (by simp [results, Tryz.results15, go_sem]) rfl ⟨by rw [HF.out], B8.out⟩
            · have hj1 : ¬ (j : Int) < (hn2 : Int) := by omega
              have HN2 := Lib.hid (HNR.out (eq_end HRB.out HT3.out (by omega) (by omega)))
              clear hle hrl
              go_wp2
              exact ⟨⟨i + 1, by omega, by simp, HN2, HD0.out⟩, by simp [intOf]; omega⟩
        · have hi1 : ¬ (i : Int) < (n : Int) := by omega
          have HF := Lib.hid (eq_end HB2.out HT2.out (by omega) (by omega))
          clear hNN hFF
          go_wp2
          exact bodyPost_ret (v := .bool true) (by simp [results, Tryz.results15, go_sem]) rfl ⟨by rw [HF.out], HC.out⟩
theorem rsame_any {x y : ScV} {v u : Value} {b : Bool} {w : World} (hb : b = true ↔ x = y) (hv : ScR w x v) (hu : ScR w y u) (hf : FewP x) : Calls Tryz.prog 15 #[v, u] w fun e w' => e = .returned (.bool b) ∧ Below w.heap.size w w' := by
  have hb2 := sc_eq hb
  obtain ⟨a0, a1, a2, a3, a4, a5, a6, a7, a8, A, c, B, d, hs, hcf, rfl, hA, hR, hP⟩ := hv.h
  obtain ⟨b0, b1, b2, b3, b4, b5, b6, b7, b8, A', c', B', d', hs', hcf', rfl, hA', hR', hP'⟩ := hu.h
  rw [hcf, hcf'] at hb2
  exact rsame_gen a0 a1 a2 a3 a4 a5 a6 a7 a8 b0 b1 b2 b3 b4 b5 b6 b7 b8 A B A' B' _ c _ d _ c' _ d' x.rows y.rows x.picks y.picks b w hb2 rfl rfl (few_1000 hf) ⟨rfl, hs, hA, hR⟩ hP ⟨rfl, hs', hA', hR'⟩ hP'
end Go.Proofs.YtelpkajlejbbgaaGreatDoor
namespace Go.Proofs.YtelpkajlejbbgaaGreatDoor
open Go.RowKit Go.Maps
set_option maxHeartbeats 4000000 in
set_option maxRecDepth 100000 in
theorem formed_num (o : OpV) (A : Option Addr) (c : Nat) (w : World) (hg : GW w) (hn : inR o.n = false) (hms : ∀ x ∈ o.ms, MFm x) (hA : EM.Rd w A o.ms) (hm : o.ms.length ≤ 900000) :
    Calls Tryz.prog 48 #[o.v A c] w fun e w' => e = .returned (.bool false) ∧ Below w.heap.size w w' := by
  obtain ⟨k, key, too, n, ms⟩ := o
  simp only at hn hms hA hm
  unfold OpV.v
  simp only
  obtain ⟨m, hml⟩ : ∃ m, ms.length = m := ⟨_, rfl⟩
  rw [hml] at hm ⊢
  obtain ⟨a, ha⟩ : ∃ a, askF k n 2147483647 2147483647 2147483647 key too m ms = a := ⟨_, rfl⟩
  have AK : ∀ W, EM.Rd W A ms → Calls Tryz.prog 31 #[.agg #[.int .u8 k, .string key, .string too, .int .i64 n, .slice A m c], cfg 2147483647 2147483647 0 0 0 0 0 0 2147483647] W fun e w' => e = .returned (.int .i64 a) ∧ Below W.heap.size W w' := fun W hW => by
    have := ask_any k n 2147483647 2147483647 0 0 0 0 0 0 2147483647 key too A m c ms W hml (msl_of hW)
    rw [ha] at this
    exact this
  have HAK := Lib.hid AK
  have HR : Hid (∀ W, Calls Tryz.prog 47 #[.int .i64 n] W fun e w' => e = .returned (.bool false) ∧ w' = W) := Lib.hid (fun W => by have := inR_any n W; rw [hn] at this; exact this)
  have HG := Lib.hid (GB.of hg)
  have HM := Lib.hid (And.intro hml hm)
  have HA := Lib.hid hA
  have HMS := Lib.hid hms
  have h0 : 0 < w.heap.size := World.block_lt_of_cell? w _ (gw_cells hg).1
  have H0 := Lib.hid h0
  clear AK hn hms hA hg ha hml hm h0
  obtain ⟨W0, hW0⟩ : ∃ W0, W0 = w.alloc (.cells #[.int .u8 k, .string key, .string too, .int .i64 n, .slice A m c] 47) := ⟨_, rfl⟩
  have B0 := Lib.hid (show Below w.heap.size w W0 by rw [hW0]; exact alb w _)
  have Z0 := Lib.hid (show W0.heap[w.heap.size]? = some (.cells #[.int .u8 k, .string key, .string too, .int .i64 n, .slice A m c] 47) by rw [hW0]; exact heap_alloc_new w _)
  have HS := Lib.hid (show W0.heap.size = w.heap.size + 1 by rw [hW0]; simp)
  obtain ⟨c0, c1, c2, c3, c4⟩ := cells5 Z0.out
  go_enter Tryz.func48, Tryz.ntmps48
  go_upto_region 1 with fail
  rw [← hW0]
  clear hW0
  go_upto_region 2 with fail
  clear c0 c1 c2 c3 c4
  go_loopw [8] (fun iv wr => ∃ i : Nat, i ≤ m ∧ iv = .int .i64 i ∧ Below W0.heap.size W0 wr) (fun iv _ => m - (intOf iv).toNat)
  case atStart => exact ⟨0, by omega, rfl, Below.refl _ _⟩
  case round =>
    obtain ⟨i, hi, rfl, hbw⟩ := hrel
    have HBr := Lib.hid hbw
    have HB := Lib.hid (bel_trans B0.out hbw)
    clear hbw
    have hNN := HM.out
    by_cases h8 : i < m
    · have hk1 : (i : Int) < (m : Int) := by omega
      have hk0 : (0 : Int) ≤ (i : Int) := by omega
      have WK : IntKind.i64.wrap ((i : Int) + 1) = (i : Int) + 1 := IntWalk.i64_in _ (by omega)
      obtain ⟨x, hx⟩ : ∃ x, ms[i]? = some x := ⟨_, List.getElem?_eq_getElem (by omega)⟩
      obtain ⟨b2, off, rfl, hlt, hc⟩ := (HA.out.later HB.out).get hx
      obtain ⟨hq, hf⟩ := HMS.out x (List.mem_of_getElem? hx)
      obtain ⟨mk, mq, mkey, mtoo, mval, mdl⟩ := x
      simp only at hq hf
      subst hq
      have g0 : wr.cell? ⟨b2, off + i * 6, none⟩ = some (.int .u8 mk) := hc 0 _ rfl
      have g1 : wr.cell? ⟨b2, off + i * 6 + 1, none⟩ = some (.int .i64 0) := hc 1 _ rfl
      have g2 : wr.cell? ⟨b2, off + i * 6 + 2, none⟩ = some (.string mkey) := hc 2 _ rfl
      have g3 : wr.cell? ⟨b2, off + i * 6 + 3, none⟩ = some (.string mtoo) := hc 3 _ rfl
      have g4 : wr.cell? ⟨b2, off + i * 6 + 4, none⟩ = some (.string mval) := hc 4 _ rfl
      have g5 : wr.cell? ⟨b2, off + i * 6 + 5, none⟩ = some (.int .u64 mdl) := hc 5 _ rfl
      obtain ⟨z0, z1, z2, z3, z4, z5, z6, z7, z8⟩ := gw_cells (HG.out.later HB.out).gw
      obtain ⟨v, hv⟩ : ∃ v, mF mk mdl 2147483647 2147483647 mkey mtoo mval = v := ⟨_, rfl⟩
      have hw0 : 0 < wr.heap.size := Nat.lt_of_lt_of_le H0.out (show w.heap.size ≤ wr.heap.size from HB.out.size)
      have HC : Hid (∀ W, Calls Tryz.prog 69 #[.agg #[.int .u8 mk, .int .i64 0, .string mkey, .string mtoo, .string mval, .int .u64 mdl], cfg 2147483647 2147483647 0 0 0 0 0 0 2147483647] W fun e w' => e = .returned (.int .i64 v) ∧ Below W.heap.size W w') := Lib.hid (fun W => by
        have := mchk_any mk 0 mdl 2147483647 2147483647 0 0 0 0 0 0 2147483647 mkey mtoo mval W
        rw [hv] at this
        exact this)
      have hv3 : ¬ v = 3 := by rw [← hv]; exact hf
      clear hx hNN hc hf hv
      go_wp2_with (first
        | (go_at_call 69; ((refine (HC.out _).mono ?_); rintro e w1 ⟨rfl, b1⟩; have B1 := Lib.hid (HBr.out.trans ((alb wr _).trans (b1.mono (alb wr _).size) |>.mono HBr.out.size)); clear b1))
        | fail)
      exact ⟨⟨i + 1, by omega, rfl, B1.out⟩, by simp [intOf]; omega⟩
    · have hke : i = m := by omega
      subst hke
      have hk1 : ¬ (i : Int) < (i : Int) := by omega
      have hw0 : 0 < wr.heap.size := Nat.lt_of_lt_of_le H0.out (show w.heap.size ≤ wr.heap.size from HB.out.size)
      obtain ⟨z0, z1, z2, z3, z4, z5, z6, z7, z8⟩ := gw_cells (HG.out.later HB.out).gw
      obtain ⟨c0, c1, c2, c3, c4⟩ := cells5 (keep_bel HBr.out Z0.out)
      clear hNN
      go_wp2_with (first
        | (go_at_call 47; ((refine (HR.out _).mono ?_); rintro e w1 ⟨rfl, hw1⟩; (have hw2 := hw1.symm; subst hw2; clear hw1)))
        | fail)
      refine bodyPost_ret (v := .bool false) (by simp [results, Tryz.results48, go_sem]) rfl ⟨rfl, HB.out⟩
set_option maxHeartbeats 4000000 in
set_option maxRecDepth 100000 in
theorem formed_ask (o : OpV) (A : Option Addr) (c : Nat) (w : World) (hg : GW w) (hn : inR o.n = true) (hms : ∀ x ∈ o.ms, MFm x) (hp : opureB o.k o.n o.key o.too o.ms.length = false) (hA : EM.Rd w A o.ms) (hm : o.ms.length ≤ 900000) :
    Calls Tryz.prog 48 #[o.v A c] w fun e w' => e = .returned (.bool false) ∧ Below w.heap.size w w' := by
  have hask : askF o.k o.n 2147483647 2147483647 2147483647 o.key o.too o.ms.length o.ms = 3 := by
    unfold askF
    rw [if_pos hp]
  obtain ⟨k, key, too, n, ms⟩ := o
  simp only at hask hn hp hms hA hm
  unfold OpV.v
  simp only
  obtain ⟨m, hml⟩ : ∃ m, ms.length = m := ⟨_, rfl⟩
  rw [hml] at hm hask ⊢
  obtain ⟨a, ha⟩ : ∃ a, askF k n 2147483647 2147483647 2147483647 key too m ms = a := ⟨_, rfl⟩
  rw [ha] at hask
  have AK : ∀ W, EM.Rd W A ms → Calls Tryz.prog 31 #[.agg #[.int .u8 k, .string key, .string too, .int .i64 n, .slice A m c], cfg 2147483647 2147483647 0 0 0 0 0 0 2147483647] W fun e w' => e = .returned (.int .i64 a) ∧ Below W.heap.size W w' := fun W hW => by
    have := ask_any k n 2147483647 2147483647 0 0 0 0 0 0 2147483647 key too A m c ms W hml (msl_of hW)
    rw [ha] at this
    exact this
  have HAK := Lib.hid AK
  have HR : Hid (∀ W, Calls Tryz.prog 47 #[.int .i64 n] W fun e w' => e = .returned (.bool true) ∧ w' = W) := Lib.hid (fun W => by have := inR_any n W; rw [hn] at this; exact this)
  have HG := Lib.hid (GB.of hg)
  have HM := Lib.hid (And.intro hml hm)
  have HA := Lib.hid hA
  have HMS := Lib.hid hms
  have h0 : 0 < w.heap.size := World.block_lt_of_cell? w _ (gw_cells hg).1
  have H0 := Lib.hid h0
  clear AK hn hp hms hA hg ha hml hm h0
  subst hask
  obtain ⟨W0, hW0⟩ : ∃ W0, W0 = w.alloc (.cells #[.int .u8 k, .string key, .string too, .int .i64 n, .slice A m c] 47) := ⟨_, rfl⟩
  have B0 := Lib.hid (show Below w.heap.size w W0 by rw [hW0]; exact alb w _)
  have Z0 := Lib.hid (show W0.heap[w.heap.size]? = some (.cells #[.int .u8 k, .string key, .string too, .int .i64 n, .slice A m c] 47) by rw [hW0]; exact heap_alloc_new w _)
  have HS := Lib.hid (show W0.heap.size = w.heap.size + 1 by rw [hW0]; simp)
  obtain ⟨c0, c1, c2, c3, c4⟩ := cells5 Z0.out
  go_enter Tryz.func48, Tryz.ntmps48
  go_upto_region 1 with fail
  rw [← hW0]
  clear hW0
  go_upto_region 2 with fail
  clear c0 c1 c2 c3 c4
  go_loopw [8] (fun iv wr => ∃ i : Nat, i ≤ m ∧ iv = .int .i64 i ∧ Below W0.heap.size W0 wr) (fun iv _ => m - (intOf iv).toNat)
  case atStart => exact ⟨0, by omega, rfl, Below.refl _ _⟩
  case round =>
    obtain ⟨i, hi, rfl, hbw⟩ := hrel
    have HBr := Lib.hid hbw
    have HB := Lib.hid (bel_trans B0.out hbw)
    clear hbw
    have hNN := HM.out
    by_cases h8 : i < m
    · have hk1 : (i : Int) < (m : Int) := by omega
      have hk0 : (0 : Int) ≤ (i : Int) := by omega
      have WK : IntKind.i64.wrap ((i : Int) + 1) = (i : Int) + 1 := IntWalk.i64_in _ (by omega)
      obtain ⟨x, hx⟩ : ∃ x, ms[i]? = some x := ⟨_, List.getElem?_eq_getElem (by omega)⟩
      obtain ⟨b2, off, rfl, hlt, hc⟩ := (HA.out.later HB.out).get hx
      obtain ⟨hq, hf⟩ := HMS.out x (List.mem_of_getElem? hx)
      obtain ⟨mk, mq, mkey, mtoo, mval, mdl⟩ := x
      simp only at hq hf
      subst hq
      have g0 : wr.cell? ⟨b2, off + i * 6, none⟩ = some (.int .u8 mk) := hc 0 _ rfl
      have g1 : wr.cell? ⟨b2, off + i * 6 + 1, none⟩ = some (.int .i64 0) := hc 1 _ rfl
      have g2 : wr.cell? ⟨b2, off + i * 6 + 2, none⟩ = some (.string mkey) := hc 2 _ rfl
      have g3 : wr.cell? ⟨b2, off + i * 6 + 3, none⟩ = some (.string mtoo) := hc 3 _ rfl
      have g4 : wr.cell? ⟨b2, off + i * 6 + 4, none⟩ = some (.string mval) := hc 4 _ rfl
      have g5 : wr.cell? ⟨b2, off + i * 6 + 5, none⟩ = some (.int .u64 mdl) := hc 5 _ rfl
      obtain ⟨z0, z1, z2, z3, z4, z5, z6, z7, z8⟩ := gw_cells (HG.out.later HB.out).gw
      obtain ⟨v, hv⟩ : ∃ v, mF mk mdl 2147483647 2147483647 mkey mtoo mval = v := ⟨_, rfl⟩
      have hw0 : 0 < wr.heap.size := Nat.lt_of_lt_of_le H0.out (show w.heap.size ≤ wr.heap.size from HB.out.size)
      have HC : Hid (∀ W, Calls Tryz.prog 69 #[.agg #[.int .u8 mk, .int .i64 0, .string mkey, .string mtoo, .string mval, .int .u64 mdl], cfg 2147483647 2147483647 0 0 0 0 0 0 2147483647] W fun e w' => e = .returned (.int .i64 v) ∧ Below W.heap.size W w') := Lib.hid (fun W => by
        have := mchk_any mk 0 mdl 2147483647 2147483647 0 0 0 0 0 0 2147483647 mkey mtoo mval W
        rw [hv] at this
        exact this)
      have hv3 : ¬ v = 3 := by rw [← hv]; exact hf
      clear hx hNN hc hf hv
      go_wp2_with (first
        | (go_at_call 69; ((refine (HC.out _).mono ?_); rintro e w1 ⟨rfl, b1⟩; have B1 := Lib.hid (HBr.out.trans ((alb wr _).trans (b1.mono (alb wr _).size) |>.mono HBr.out.size)); clear b1))
        | fail)
      exact ⟨⟨i + 1, by omega, rfl, B1.out⟩, by simp [intOf]; omega⟩
    · have hke : i = m := by omega
      subst hke
      have hk1 : ¬ (i : Int) < (i : Int) := by omega
      have hw0 : 0 < wr.heap.size := Nat.lt_of_lt_of_le H0.out (show w.heap.size ≤ wr.heap.size from HB.out.size)
      obtain ⟨z0, z1, z2, z3, z4, z5, z6, z7, z8⟩ := gw_cells (HG.out.later HB.out).gw
      obtain ⟨c0, c1, c2, c3, c4⟩ := cells5 (keep_bel HBr.out Z0.out)
      clear hNN
      go_wp2_with (first
        | (go_at_call 47; ((refine (HR.out _).mono ?_); rintro e w1 ⟨rfl, hw1⟩; (have hw2 := hw1.symm; subst hw2; clear hw1)))
        | (go_at_call 31; ((refine (HAK.out _ (HA.out.later HB.out)).mono ?_); rintro e w1 ⟨rfl, b1⟩; have B1 := Lib.hid (bel_trans HB.out b1); clear b1))
        | fail)
      refine bodyPost_ret (v := .bool false) (by simp [results, Tryz.results48, go_sem]) rfl ⟨rfl, B1.out⟩
set_option maxHeartbeats 4000000 in
set_option maxRecDepth 100000 in
theorem formed_msg (o : OpV) (A : Option Addr) (c : Nat) (w : World) (hg : GW w) (hbad : ¬ ∀ x ∈ o.ms, MFm x) (hA : EM.Rd w A o.ms) (hm : o.ms.length ≤ 900000) :
    Calls Tryz.prog 48 #[o.v A c] w fun e w' => e = .returned (.bool false) ∧ Below w.heap.size w w' := by
  obtain ⟨k, key, too, n, ms⟩ := o
  simp only at hbad hA hm
  unfold OpV.v
  simp only
  obtain ⟨m, hml⟩ : ∃ m, ms.length = m := ⟨_, rfl⟩
  rw [hml] at hm ⊢
  have HG := Lib.hid (GB.of hg)
  have HM := Lib.hid (And.intro hml hm)
  have HA := Lib.hid hA
  have HBAD := Lib.hid hbad
  have h0 : 0 < w.heap.size := World.block_lt_of_cell? w _ (gw_cells hg).1
  have H0 := Lib.hid h0
  clear hbad hA hg hml hm h0
  obtain ⟨W0, hW0⟩ : ∃ W0, W0 = w.alloc (.cells #[.int .u8 k, .string key, .string too, .int .i64 n, .slice A m c] 47) := ⟨_, rfl⟩
  have B0 := Lib.hid (show Below w.heap.size w W0 by rw [hW0]; exact alb w _)
  have Z0 := Lib.hid (show W0.heap[w.heap.size]? = some (.cells #[.int .u8 k, .string key, .string too, .int .i64 n, .slice A m c] 47) by rw [hW0]; exact heap_alloc_new w _)
  have HS := Lib.hid (show W0.heap.size = w.heap.size + 1 by rw [hW0]; simp)
  obtain ⟨c0, c1, c2, c3, c4⟩ := cells5 Z0.out
  go_enter Tryz.func48, Tryz.ntmps48
  go_upto_region 1 with fail
  rw [← hW0]
  clear hW0
  go_upto_region 2 with fail
  clear c0 c1 c2 c3 c4
  go_loopw [8] (fun iv wr => ∃ i : Nat, i ≤ m ∧ iv = .int .i64 i ∧ Hid (∀ x ∈ ms.take i, MFm x) ∧ Below W0.heap.size W0 wr) (fun iv _ => m - (intOf iv).toNat)
  case atStart => exact ⟨0, by omega, rfl, Lib.hid (fun x hx => by simp at hx), Below.refl _ _⟩
  case round =>
    obtain ⟨i, hi, rfl, HGD, hbw⟩ := hrel
    have HBr := Lib.hid hbw
    have HB := Lib.hid (bel_trans B0.out hbw)
    clear hbw
    have hNN := HM.out
    by_cases h8 : i < m
    · have hk1 : (i : Int) < (m : Int) := by omega
      have hk0 : (0 : Int) ≤ (i : Int) := by omega
      have WK : IntKind.i64.wrap ((i : Int) + 1) = (i : Int) + 1 := IntWalk.i64_in _ (by omega)
      obtain ⟨x, hx⟩ : ∃ x, ms[i]? = some x := ⟨_, List.getElem?_eq_getElem (by omega)⟩
      obtain ⟨b2, off, rfl, hlt, hc⟩ := (HA.out.later HB.out).get hx
      have HG2 : Hid (MFm x → ∀ y ∈ ms.take (i + 1), MFm y) := Lib.hid (fun hx1 y hy => by
        rw [List.take_add_one, hx] at hy
        rcases List.mem_append.1 hy with hy | hy
        · exact HGD.out y hy
        · simp at hy; subst hy; exact hx1)
      obtain ⟨mk, mq, mkey, mtoo, mval, mdl⟩ := x
      have g0 : wr.cell? ⟨b2, off + i * 6, none⟩ = some (.int .u8 mk) := hc 0 _ rfl
      have g1 : wr.cell? ⟨b2, off + i * 6 + 1, none⟩ = some (.int .i64 mq) := hc 1 _ rfl
      have g2 : wr.cell? ⟨b2, off + i * 6 + 2, none⟩ = some (.string mkey) := hc 2 _ rfl
      have g3 : wr.cell? ⟨b2, off + i * 6 + 3, none⟩ = some (.string mtoo) := hc 3 _ rfl
      have g4 : wr.cell? ⟨b2, off + i * 6 + 4, none⟩ = some (.string mval) := hc 4 _ rfl
      have g5 : wr.cell? ⟨b2, off + i * 6 + 5, none⟩ = some (.int .u64 mdl) := hc 5 _ rfl
      obtain ⟨z0, z1, z2, z3, z4, z5, z6, z7, z8⟩ := gw_cells (HG.out.later HB.out).gw
      by_cases hq : mq = 0
      rotate_left
      · have hq' : (mq == 0) = false := beq_eq_false_iff_ne.2 hq
        clear hx hNN hc
        go_wp2
        exact bodyPost_ret (v := .bool false) (by simp [results, Tryz.results48, go_sem]) rfl ⟨rfl, (bel_alloc HB.out _)⟩
      subst hq
      obtain ⟨v, hv⟩ : ∃ v, mF mk mdl 2147483647 2147483647 mkey mtoo mval = v := ⟨_, rfl⟩
      have hw0 : 0 < wr.heap.size := Nat.lt_of_lt_of_le H0.out (show w.heap.size ≤ wr.heap.size from HB.out.size)
      have HC : Hid (∀ W, Calls Tryz.prog 69 #[.agg #[.int .u8 mk, .int .i64 0, .string mkey, .string mtoo, .string mval, .int .u64 mdl], cfg 2147483647 2147483647 0 0 0 0 0 0 2147483647] W fun e w' => e = .returned (.int .i64 v) ∧ Below W.heap.size W w') := Lib.hid (fun W => by
        have := mchk_any mk 0 mdl 2147483647 2147483647 0 0 0 0 0 0 2147483647 mkey mtoo mval W
        rw [hv] at this
        exact this)
      by_cases hv3 : v = 3
      · subst hv3
        clear hx hNN hc hv
        go_wp2_with (first
          | (go_at_call 69; ((refine (HC.out _).mono ?_); rintro e w1 ⟨rfl, b1⟩; have B1 := Lib.hid (HB.out.trans ((alb wr _).trans (b1.mono (alb wr _).size) |>.mono HB.out.size)); clear b1))
          | fail)
        exact bodyPost_ret (v := .bool false) (by simp [results, Tryz.results48, go_sem]) rfl ⟨rfl, B1.out⟩
      have HG3 := Lib.hid (HG2.out ⟨rfl, by show mF mk mdl 2147483647 2147483647 mkey mtoo mval ≠ 3; rw [hv]; exact hv3⟩)
      clear hx hNN hc hv HG2
      go_wp2_with (first
        | (go_at_call 69; ((refine (HC.out _).mono ?_); rintro e w1 ⟨rfl, b1⟩; have B1 := Lib.hid (HBr.out.trans ((alb wr _).trans (b1.mono (alb wr _).size) |>.mono HBr.out.size)); clear b1))
        | fail)
      exact ⟨⟨i + 1, by omega, rfl, HG3, B1.out⟩, by simp [intOf]; omega⟩
    · have hke : i = m := by omega
      subst hke
      exfalso
      refine HBAD.out (fun x hx => HGD.out x ?_)
      rw [List.take_of_length_le (by omega)]
      exact hx
theorem formed_bad (o : OpV) (A : Option Addr) (c : Nat) (w : World) (hg : GW w) (ho : ¬ OFm o) (hA : EM.Rd w A o.ms) (hm : o.ms.length ≤ 900000) :
    Calls Tryz.prog 48 #[o.v A c] w fun e w' => e = .returned (.bool false) ∧ Below w.heap.size w w' := by
  by_cases hms : ∀ x ∈ o.ms, MFm x
  rotate_left
  · exact formed_msg o A c w hg hms hA hm
  by_cases hn : inR o.n = true
  rotate_left
  · exact formed_num o A c w hg (by simpa using hn) hms hA hm
  refine formed_ask o A c w hg hn hms ?_ hA hm
  cases hp : opureB o.k o.n o.key o.too o.ms.length with
  | false => rfl
  | true => exact absurd ⟨hn, hp, hms⟩ ho
end Go.Proofs.YtelpkajlejbbgaaGreatDoor
