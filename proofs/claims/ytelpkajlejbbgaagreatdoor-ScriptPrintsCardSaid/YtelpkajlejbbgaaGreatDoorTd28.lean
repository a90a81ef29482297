/- Texts of the proof, one behind the other. -/
import Derived.Test.YtelpkajlejbbgaaGreatDoorTd22
import Derived.Test.YtelpkajlejbbgaaGreatDoorTd27
set_option linter.unusedVariables false
set_option linter.unusedSimpArgs false
namespace Go.Proofs.YtelpkajlejbbgaaGreatDoor
open Go.RowKit Go.Maps
def nL (ns : List Int) : List UInt8 := ns.flatMap (fun v => 32 :: Lib.itoa v)
theorem join_flat (p : List UInt8) (qs : List (List UInt8)) : Lib.join (p :: qs) [32] = p ++ qs.flatMap (fun q => 32 :: q) := by
  induction qs generalizing p with
  | nil => rw [Lib.join_one]; simp
  | cons q qs ih => rw [join_two, ih]; simp
theorem line_nums (w : ByteArray) (ns : List Int) : lineL (w :: ns.map itoaB) = (w.data.toList ++ nL ns) ++ [10] := by
  unfold lineL nL
  rw [List.map_cons, join_flat, List.map_map, List.flatMap_map]
  congr 2
theorem itoa_list (v : Int) : (itoaB v).data.toList = Lib.itoa v := by unfold itoaB; rw [ba_list]
set_option maxHeartbeats 1500000 in
set_option maxRecDepth 100000 in
theorem rprint_ok (a0 a1 a2 a3 a4 a5 a6 a7 a8 : Int) (A Bp : Option Addr) (n c m d : Nat) (hs : List Hd) (rows : List (List OpV)) (picks : List Int) (w : World) (hf : SFm ⟨[a0, a1, a2, a3, a4, a5, a6, a7, a8], rows, picks⟩) (ho : ∀ r ∈ rows, ∀ o ∈ r, OOk o) (ht : (prL ⟨[a0, a1, a2, a3, a4, a5, a6, a7, a8], rows, picks⟩).length ≤ 1048576) (hn : rows.length = n) (hm : picks.length = m) (hA : EH.Rd w A hs) (hR : RowsR w (fun _ => False) hs rows) (hP : EI.Rd w Bp picks) :
    Calls Tryz.prog 11 #[scA a0 a1 a2 a3 a4 a5 a6 a7 a8 A n c Bp m d] w fun e w' => e = .returned (.tuple #[.string ⟨(prL ⟨[a0, a1, a2, a3, a4, a5, a6, a7, a8], rows, picks⟩).toArray⟩, .int .i64 0]) ∧ Below w.heap.size w w' := by
  obtain ⟨cf, hcf⟩ : ∃ cf : List Int, cf = [a0, a1, a2, a3, a4, a5, a6, a7, a8] := ⟨_, rfl⟩
  have hT : prL ⟨cf, rows, picks⟩ = (((wSizes.data.toList ++ nL cf) ++ [10]) ++ rowsL rows) ++ ((wPicks.data.toList ++ nL picks) ++ [10]) := by
    show (lineL (wSizes :: cf.map itoaB) ++ rowsL rows) ++ lineL (wPicks :: picks.map itoaB) = _
    rw [line_nums, line_nums]
  rw [← hcf] at hf ht ⊢
  rw [hT] at ht ⊢
  have HL := Lib.hid ht
  have HV0 := Lib.hid (fun v hv => hf.cf v hv)
  have HV1 := Lib.hid (fun v hv => hf.pk v hv)
  have HPL := Lib.hid (show m ≤ 900000 by have := hf.pl; simp only at this; omega)
  have HRL := Lib.hid (show n ≤ 900000 by have := hf.rl; simp only at this; omega)
  have H5 := Lib.hid hf.ol
  have H6 := Lib.hid hf.op
  have HO := Lib.hid ho
  have HN := Lib.hid (And.intro hn hm)
  have HA := Lib.hid hA
  have HR := Lib.hid hR
  have HP := Lib.hid hP
  have HCF := Lib.hid hcf
  have LN := Lib.hid (show cf.length = 9 by rw [hcf]; rfl)
  clear hf ho hn hm hA hR hP ht hT hcf
  obtain ⟨W3, hW3⟩ : ∃ W3, W3 = ((w.alloc (.cells #[.int .i64 a0, .int .i64 a1, .int .i64 a2, .int .i64 a3, .int .i64 a4, .int .i64 a5, .int .i64 a6, .int .i64 a7, .int .i64 a8, .slice A n c, .slice Bp m d] 27)).alloc (.cells #[.int .i64 a0, .int .i64 a1, .int .i64 a2, .int .i64 a3, .int .i64 a4, .int .i64 a5, .int .i64 a6, .int .i64 a7, .int .i64 a8] 23)).alloc (.cells #[.int .i64 a0, .int .i64 a1, .int .i64 a2, .int .i64 a3, .int .i64 a4, .int .i64 a5, .int .i64 a6, .int .i64 a7, .int .i64 a8] 3) := ⟨_, rfl⟩
  have B3 := Lib.hid (show Below w.heap.size w W3 by rw [hW3]; exact bel_alloc (bel_alloc (alb w _) _) _)
  have Z3 := Lib.hid (show W3.heap[w.heap.size]? = some (.cells #[.int .i64 a0, .int .i64 a1, .int .i64 a2, .int .i64 a3, .int .i64 a4, .int .i64 a5, .int .i64 a6, .int .i64 a7, .int .i64 a8, .slice A n c, .slice Bp m d] 27) by rw [hW3]; exact keep_bel (alb _ _) (keep_bel (alb _ _) (heap_alloc_new w _)))
  have N3 := Lib.hid (show EI.Rd W3 (some ⟨w.heap.size + 2, 0, none⟩) cf by
    rw [hW3]
    have h := RE.Rd.lit (E := EI) ((w.alloc (.cells #[.int .i64 a0, .int .i64 a1, .int .i64 a2, .int .i64 a3, .int .i64 a4, .int .i64 a5, .int .i64 a6, .int .i64 a7, .int .i64 a8, .slice A n c, .slice Bp m d] 27)).alloc (.cells #[.int .i64 a0, .int .i64 a1, .int .i64 a2, .int .i64 a3, .int .i64 a4, .int .i64 a5, .int .i64 a6, .int .i64 a7, .int .i64 a8] 23)) 3 cf #[.int .i64 a0, .int .i64 a1, .int .i64 a2, .int .i64 a3, .int .i64 a4, .int .i64 a5, .int .i64 a6, .int .i64 a7, .int .i64 a8] (by rw [HCF.out]; rfl)
    simpa using h)
  unfold scA
  go_enter Tryz.func11, Tryz.ntmps11
  go_upto_region 3 with fail
  rw [← hW3]
  clear hW3
  go_upto_region 5 with fail
  go_loopw [6, 7] (fun ov iv wr => ∃ k : Nat, k ≤ 9 ∧ iv = .int .i64 k ∧ Hid (ov = .string ⟨(wSizes.data.toList ++ nL (cf.take k)).toArray⟩) ∧ wr = W3) (fun _ iv _ => 9 - (intOf iv).toNat)
  case atStart => exact ⟨0, by omega, rfl, Lib.hid rfl, rfl⟩
  case round =>
    obtain ⟨k, hk, rfl, HOV, hw⟩ := hrel
    (have hw2 := hw.symm; subst hw2; clear hw)
    obtain ⟨O, hO⟩ : ∃ O : ByteArray, O = ⟨(wSizes.data.toList ++ nL (cf.take k)).toArray⟩ := ⟨_, rfl⟩
    rw [← hO] at HOV
    (have hov := HOV.out; subst hov; clear HOV)
    have hOS : O.size ≤ 1048576 := by
      rw [hO, ba_size]
      have h1 := HL.out
      have h2 : (nL (cf.take k)).length ≤ (nL cf).length := fm_take _ cf k
      simp only [List.length_append] at h1 ⊢
      omega
    by_cases h8 : k < 9
    · have hk1 : (k : Int) < 9 := by omega
      have hk0 : (0 : Int) ≤ (k : Int) := by omega
      have WK : IntKind.i64.wrap ((k : Int) + 1) = (k : Int) + 1 := IntWalk.i64_in _ (by omega)
      obtain ⟨x, hx⟩ : ∃ x, cf[k]? = some x := ⟨_, List.getElem?_eq_getElem (by have := LN.out; omega)⟩
      obtain ⟨b2, off, hb2, hlt, g0⟩ := ei_at N3.out hx
      injection hb2 with hb2
      injection hb2 with hb3 hb4
      subst hb3 hb4
      rw [Nat.zero_add] at g0
      have HX := Lib.hid (fun W => num_ok (HV0.out x (List.mem_of_getElem? hx)) W)
      have HXS : Hid ((itoaB x).size ≤ 100) := Lib.hid (by
        have h2 := HV0.out x (List.mem_of_getElem? hx)
        unfold inR at h2
        simp only [Bool.and_eq_true, decide_eq_true_eq] at h2
        have := itoa_sz x (by omega) (by omega)
        omega)
      have HF : Hid ((O ++ ⟨#[32]⟩) ++ itoaB x = ⟨(wSizes.data.toList ++ nL (cf.take (k + 1))).toArray⟩) := Lib.hid (ba_inj (by
        rw [ba_app, ba_app, ba_list, hO, ba_list, itoa_list]
        unfold nL
        rw [fm_next _ hx]
        simp))
      have hcat : ¬ 9223372036854775807 < O.size + 1 := by omega
      have hcat2 : ¬ 9223372036854775807 < O.size + 1 + (itoaB x).size := by have := HXS.out; omega
      generalize itoaB x = N at HX HXS HF hcat2
      clear hx hO
      go_wp2_with (first
        | (go_at_call 28; ((with_reducible refine (HX.out _).mono ?_); rintro e w4 ⟨rfl, hw⟩; (have hw2 := hw.symm; subst hw2; clear hw)))
        | fail)
      exact ⟨⟨k + 1, by omega, by simp, Lib.hid (by rw [← HF.out]), trivial⟩, by simp [intOf]; omega⟩
    · have hke : k = 9 := by omega
      subst hke
      have e9 : ((9 : Nat) : Int) = 9 := rfl
      rw [e9]
      rw [List.take_of_length_le (by have := LN.out; omega)] at hO
      have hcat : ¬ 9223372036854775807 < O.size + 1 := by omega
      have HF : Hid (O ++ ⟨#[10]⟩ = ⟨(((wSizes.data.toList ++ nL cf) ++ [10]) ++ rowsL (rows.take 0)).toArray⟩) := Lib.hid (ba_inj (by rw [ba_app, ba_list, hO, ba_list]; show _ = _ ++ []; simp))
      clear hO hOS
      obtain ⟨c0, c1, c2, c3, c4, c5, c6, c7, c8, c9, c10⟩ := cells11 Z3.out
      go_upto_region 13 with fail
      generalize O ++ ⟨#[10]⟩ = O2 at HF ⊢
      clear c0 c1 c2 c3 c4 c5 c6 c7 c8 c9 c10 hcat
      go_loopw [6, 10] (fun ov iv wr => ∃ i : Nat, i ≤ n ∧ iv = .int .i64 i ∧ Hid (ov = .string ⟨(((wSizes.data.toList ++ nL cf) ++ [10]) ++ rowsL (rows.take i)).toArray⟩) ∧ Below W3.heap.size W3 wr) (fun _ iv _ => n - (intOf iv).toNat)
      case atStart => exact ⟨0, by omega, rfl, Lib.hid (by rw [HF.out]), Below.refl _ _⟩
      case round =>
        obtain ⟨i, hi, rfl, HOV, hbw⟩ := hrel
        have HB3 := Lib.hid hbw
        have HB := Lib.hid (bel_trans B3.out hbw)
        clear hbw
        obtain ⟨O, hO⟩ : ∃ O : ByteArray, O = ⟨(((wSizes.data.toList ++ nL cf) ++ [10]) ++ rowsL (rows.take i)).toArray⟩ := ⟨_, rfl⟩
        rw [← hO] at HOV
        (have hov := HOV.out; subst hov; clear HOV)
        have HOO := Lib.hid hO
        clear hO
        have hNN := HN.out
        have hRL := HRL.out
        obtain ⟨c0, c1, c2, c3, c4, c5, c6, c7, c8, c9, c10⟩ := cells11 (keep_bel HB3.out Z3.out)
        by_cases h8 : i < n
        · have hk1 : (i : Int) < (n : Int) := by omega
          have hk0 : (0 : Int) ≤ (i : Int) := by omega
          have WK : IntKind.i64.wrap ((i : Int) + 1) = (i : Int) + 1 := IntWalk.i64_in _ (by omega)
          obtain ⟨r, hr⟩ : ∃ r, rows[i]? = some r := ⟨_, List.getElem?_eq_getElem (by omega)⟩
          obtain ⟨h, hh⟩ : ∃ h, hs[i]? = some h := ⟨_, List.getElem?_eq_getElem (by rw [HR.out.1]; omega)⟩
          obtain ⟨xs, hx1, hx2, hx3⟩ := HR.out.2 i h r hh hr
          obtain ⟨hA2, hn2, hc2⟩ := h
          simp only at hx1 hx2
          subst hx1
          have HHH := Lib.hid hh
          have HXR := Lib.hid hx2
          have HXO := Lib.hid hx3
          have HRM := Lib.hid (List.mem_of_getElem? hr)
          have HRL2 := Lib.hid (H5.out r (List.mem_of_getElem? hr))
          have HNX := Lib.hid (show rowsL (rows.take (i + 1)) = rowsL (rows.take i) ++ (lineL [wSess] ++ opsL r) from fm_next _ hr)
          have HLL := Lib.hid (show (((((wSizes.data.toList ++ nL cf) ++ [10]) ++ rowsL (rows.take i)) ++ lineL [wSess]) ++ opsL r).length ≤ 1048576 by
            have h1 := HL.out
            have h2 : (rowsL (rows.take (i + 1))).length ≤ (rowsL rows).length := fm_take _ rows (i + 1)
            rw [HNX.out] at h2
            simp only [List.length_append] at h1 h2 ⊢
            omega)
          have hOS : O.size ≤ 1048576 := by
            rw [HOO.out, ba_size]
            have h1 := HLL.out
            simp only [List.length_append] at h1 ⊢
            omega
          have hcat : ¬ 9223372036854775807 < O.size + 8 := by omega
          have HF : Hid (O ++ ⟨#[115, 101, 115, 115, 105, 111, 110, 10]⟩ = ⟨(((((wSizes.data.toList ++ nL cf) ++ [10]) ++ rowsL (rows.take i)) ++ lineL [wSess]) ++ opsL (r.take 0)).toArray⟩) := Lib.hid (ba_inj (by
            rw [ba_app, ba_list, HOO.out, ba_list]
            show _ = (_ ++ _) ++ []
            rw [List.append_nil]
            rfl))
          clear hr hh hx2 hx3 hNN hRL
          go_upto_region 17 with fail
          generalize O ++ ⟨#[115, 101, 115, 115, 105, 111, 110, 10]⟩ = O2 at HF ⊢
          clear c0 c1 c2 c3 c4 c5 c6 c7 c8 c9 c10 hcat hOS
          go_loopw [6, 11] (fun ov iv wr => ∃ j : Nat, j ≤ xs.length ∧ iv = .int .i64 j ∧ Hid (ov = .string ⟨(((((wSizes.data.toList ++ nL cf) ++ [10]) ++ rowsL (rows.take i)) ++ lineL [wSess]) ++ opsL (r.take j)).toArray⟩) ∧ Below W3.heap.size W3 wr) (fun _ iv _ => xs.length - (intOf iv).toNat)
          case atStart => exact ⟨0, by omega, rfl, Lib.hid (by rw [HF.out]), HB3.out⟩
          case round =>
            obtain ⟨j, hj, rfl, HOV, hbw⟩ := hrel
            have HB93 := Lib.hid hbw
            have HB9 := Lib.hid (bel_trans B3.out hbw)
            clear hbw
            obtain ⟨O3, hO3⟩ : ∃ O3 : ByteArray, O3 = ⟨(((((wSizes.data.toList ++ nL cf) ++ [10]) ++ rowsL (rows.take i)) ++ lineL [wSess]) ++ opsL (r.take j)).toArray⟩ := ⟨_, rfl⟩
            rw [← hO3] at HOV
            (have hov := HOV.out; subst hov; clear HOV)
            have HO3 := Lib.hid hO3
            clear hO3
            have hle := HRL2.out
            have hxl := HXO.out.1
            obtain ⟨c0, c1, c2, c3, c4, c5, c6, c7, c8, c9, c10⟩ := cells11 (keep_bel HB93.out Z3.out)
            obtain ⟨b2, off, hb2, hlt, hc⟩ := (HA.out.later HB9.out).get HHH.out
            subst hb2
            have g9 : wr.cell? ⟨b2, off + i, none⟩ = some (.slice hA2 xs.length hc2) := by simpa [EH] using hc 0 _ rfl
            clear hc
            by_cases h9 : j < xs.length
            · have hj1 : (j : Int) < (xs.length : Int) := by omega
              have hj0 : (0 : Int) ≤ (j : Int) := by omega
              have WJ : IntKind.i64.wrap ((j : Int) + 1) = (j : Int) + 1 := IntWalk.i64_in _ (by omega)
              obtain ⟨o, ho⟩ : ∃ o, r[j]? = some o := ⟨_, List.getElem?_eq_getElem (by omega)⟩
              obtain ⟨x, hx⟩ : ∃ x, xs[j]? = some x := ⟨_, List.getElem?_eq_getElem h9⟩
              obtain ⟨b3, off3, hb3, hlt3, hc3⟩ := (HXR.out.rd.later HB9.out).get hx
              subst hb3
              obtain ⟨e1, e2, e3, e4, e5, e6⟩ := HXO.out.2 j x o hx ho
              obtain ⟨xk, xkey, xtoo, xn, xA, xl, xc⟩ := x
              simp only at e1 e2 e3 e4 e5 e6
              subst e1 e2 e3 e4 e5
              have g0 : wr.cell? ⟨b3, off3 + j * 5, none⟩ = some (.int .u8 o.k) := hc3 0 _ rfl
              have g1 : wr.cell? ⟨b3, off3 + j * 5 + 1, none⟩ = some (.string o.key) := hc3 1 _ rfl
              have g2 : wr.cell? ⟨b3, off3 + j * 5 + 2, none⟩ = some (.string o.too) := hc3 2 _ rfl
              have g3 : wr.cell? ⟨b3, off3 + j * 5 + 3, none⟩ = some (.int .i64 o.n) := hc3 3 _ rfl
              have g4 : wr.cell? ⟨b3, off3 + j * 5 + 4, none⟩ = some (.slice xA o.ms.length xc) := hc3 4 _ rfl
              have HNO := Lib.hid (show opsL (r.take (j + 1)) = opsL (r.take j) ++ opL o from fm_next _ ho)
              have HQ := Lib.hid (qop_any o xA xc wr (H6.out r HRM.out o (List.mem_of_getElem? ho)).1 (HO.out r HRM.out o (List.mem_of_getElem? ho)) (H6.out r HRM.out o (List.mem_of_getElem? ho)).2 (e6.rd.later HB9.out))
              unfold OpV.v at HQ
              obtain ⟨S, hS⟩ : ∃ S : ByteArray, S = ⟨(opL o).toArray⟩ := ⟨_, rfl⟩
              rw [← hS] at HQ
              have HF2 : Hid (O3 ++ S = ⟨(((((wSizes.data.toList ++ nL cf) ++ [10]) ++ rowsL (rows.take i)) ++ lineL [wSess]) ++ opsL (r.take (j + 1))).toArray⟩) := Lib.hid (ba_inj (by rw [ba_app, ba_list, HO3.out, hS, ba_list, ba_list, HNO.out, List.append_assoc _ (opsL (r.take j))]))
              have hcat : ¬ 9223372036854775807 < O3.size + S.size := by
                have h0 := HLL.out
                have h2 : (opsL (r.take (j + 1))).length ≤ (opsL r).length := fm_take _ r (j + 1)
                rw [HNO.out] at h2
                rw [HO3.out, hS, ba_size, ba_size]
                simp only [List.length_append] at h0 h2 ⊢
                omega
              clear hx ho hc3 e6 hxl hle hS
              go_wp2_with (first
                | (go_at_call 29; ((with_reducible refine HQ.out.mono ?_); rintro e w8 ⟨rfl, b8⟩; have B8 := Lib.hid (HB93.out.trans (b8.mono HB93.out.size)); clear b8))
                | fail)
              exact ⟨⟨j + 1, by omega, by simp, Lib.hid (by rw [← HF2.out]), B8.out⟩, by simp [intOf]; omega⟩
            · have hke : j = xs.length := by omega
              subst hke
              have HE := Lib.hid (show r.take xs.length = r from List.take_of_length_le (by omega))
              clear hxl hle
              have hj1 : ¬ (xs.length : Int) < (xs.length : Int) := by omega
              have HF3 : Hid (O3 = ⟨(((wSizes.data.toList ++ nL cf) ++ [10]) ++ rowsL (rows.take (i + 1))).toArray⟩) := Lib.hid (by rw [HO3.out, HE.out, HNX.out]; simp only [List.append_assoc])
              go_wp2
              exact ⟨⟨i + 1, by omega, by simp, Lib.hid (by rw [← HF3.out]), HB93.out⟩, by simp [intOf]; omega⟩
        · have hke : i = n := by omega
          subst hke
          have hk1 : ¬ (i : Int) < (i : Int) := by omega
          have HE := Lib.hid (show rows.take i = rows from List.take_of_length_le (by omega))
          have hOS : O.size ≤ 1048576 := by
            rw [HOO.out, HE.out, ba_size]
            have h1 := HL.out
            simp only [List.length_append] at h1 ⊢
            omega
          have hcat : ¬ 9223372036854775807 < O.size + 5 := by omega
          have HF : Hid (O ++ ⟨#[112, 105, 99, 107, 115]⟩ = ⟨((((wSizes.data.toList ++ nL cf) ++ [10]) ++ rowsL rows) ++ (wPicks.data.toList ++ nL (picks.take 0))).toArray⟩) := Lib.hid (ba_inj (by
            rw [ba_app, ba_list, HOO.out, HE.out, ba_list]
            show _ = _ ++ (_ ++ [])
            rw [List.append_nil]
            rfl))
          clear hNN hRL
          go_upto_region 25 with fail
          generalize O ++ ⟨#[112, 105, 99, 107, 115]⟩ = O2 at HF ⊢
          clear c0 c1 c2 c3 c4 c5 c6 c7 c8 c9 c10 hcat hOS
          go_loopw [6, 14] (fun ov iv w9 => ∃ k : Nat, k ≤ m ∧ iv = .int .i64 k ∧ Hid (ov = .string ⟨((((wSizes.data.toList ++ nL cf) ++ [10]) ++ rowsL rows) ++ (wPicks.data.toList ++ nL (picks.take k))).toArray⟩) ∧ w9 = wr) (fun _ iv _ => m - (intOf iv).toNat)
          case atStart => exact ⟨0, by omega, rfl, Lib.hid (by rw [HF.out]), rfl⟩
          case round =>
            obtain ⟨k, hk, rfl, HOV, hw⟩ := hrel
            (have hw2 := hw.symm; subst hw2; clear hw)
            obtain ⟨O3, hO3⟩ : ∃ O3 : ByteArray, O3 = ⟨((((wSizes.data.toList ++ nL cf) ++ [10]) ++ rowsL rows) ++ (wPicks.data.toList ++ nL (picks.take k))).toArray⟩ := ⟨_, rfl⟩
            rw [← hO3] at HOV
            (have hov := HOV.out; subst hov; clear HOV)
            have hNN := HN.out
            have hPL := HPL.out
            obtain ⟨c0, c1, c2, c3, c4, c5, c6, c7, c8, c9, c10⟩ := cells11 (keep_bel HB3.out Z3.out)
            have hOS : O3.size ≤ 1048576 := by
              rw [hO3, ba_size]
              have h1 := HL.out
              have h2 : (nL (picks.take k)).length ≤ (nL picks).length := fm_take _ picks k
              simp only [List.length_append] at h1 ⊢
              omega
            by_cases h8 : k < m
            · have hk2 : (k : Int) < (m : Int) := by omega
              have hk0 : (0 : Int) ≤ (k : Int) := by omega
              have WK : IntKind.i64.wrap ((k : Int) + 1) = (k : Int) + 1 := IntWalk.i64_in _ (by omega)
              obtain ⟨x, hx⟩ : ∃ x, picks[k]? = some x := ⟨_, List.getElem?_eq_getElem (by omega)⟩
              obtain ⟨b2, off, hb2, hlt, g0⟩ := ei_at (HP.out.later HB.out) hx
              subst hb2
              have HX := Lib.hid (fun W => num_ok (HV1.out x (List.mem_of_getElem? hx)) W)
              have HXS : Hid ((itoaB x).size ≤ 100) := Lib.hid (by
                have h2 := HV1.out x (List.mem_of_getElem? hx)
                unfold inR at h2
                simp only [Bool.and_eq_true, decide_eq_true_eq] at h2
                have := itoa_sz x (by omega) (by omega)
                omega)
              have HF2 : Hid ((O3 ++ ⟨#[32]⟩) ++ itoaB x = ⟨((((wSizes.data.toList ++ nL cf) ++ [10]) ++ rowsL rows) ++ (wPicks.data.toList ++ nL (picks.take (k + 1)))).toArray⟩) := Lib.hid (ba_inj (by
                rw [ba_app, ba_app, ba_list, hO3, ba_list, itoa_list, show nL (picks.take (k + 1)) = nL (picks.take k) ++ (32 :: Lib.itoa x) from fm_next _ hx]
                simp))
              have hcat : ¬ 9223372036854775807 < O3.size + 1 := by omega
              have hcat2 : ¬ 9223372036854775807 < O3.size + 1 + (itoaB x).size := by have := HXS.out; omega
              generalize itoaB x = N at HX HXS HF2 hcat2
              clear hx hO3 hNN hPL
              go_wp2_with (first
                | (go_at_call 28; ((with_reducible refine (HX.out _).mono ?_); rintro e w4 ⟨rfl, hw⟩; (have hw2 := hw.symm; subst hw2; clear hw)))
                | fail)
              exact ⟨⟨k + 1, by omega, by simp, Lib.hid (by rw [← HF2.out]), trivial⟩, by simp [intOf]; omega⟩
            · have hke : k = m := by omega
              subst hke
              rw [List.take_of_length_le (by omega)] at hO3
              have hk2 : ¬ (k : Int) < (k : Int) := by omega
              have hcat : ¬ 9223372036854775807 < O3.size + 1 := by omega
              have HF2 : Hid (O3 ++ ⟨#[10]⟩ = ⟨((((wSizes.data.toList ++ nL cf) ++ [10]) ++ rowsL rows) ++ ((wPicks.data.toList ++ nL picks) ++ [10])).toArray⟩) := Lib.hid (ba_inj (by rw [ba_app, ba_list, hO3, ba_list]; simp))
              clear hNN hPL hO3
              go_wp2
              refine bodyPost_ret (v := .tuple #[.string (O3 ++ ⟨#[10]⟩), .int .i64 0]) (by simp [results, Tryz.results11, go_sem]) rfl ⟨by rw [HF2.out]; simp only [List.append_assoc, List.cons_append, List.nil_append, List.singleton_append], HB.out⟩
end Go.Proofs.YtelpkajlejbbgaaGreatDoor
namespace Go.Proofs.YtelpkajlejbbgaaGreatDoor
open Go.RowKit Go.Maps
set_option maxHeartbeats 1000000 in
set_option maxRecDepth 100000 in
theorem rline_bad {m : M} (h : ¬ MFm m) (w : World) : Calls Tryz.prog 53 #[m.v] w fun e w' => e = .returned (.tuple #[.string ⟨#[]⟩, .bool false]) ∧ Below w.heap.size w w' := by
  obtain ⟨k, q, key, too, val, dl⟩ := m
  unfold M.v
  simp only
  obtain ⟨W0, hW0⟩ : ∃ W0, W0 = (w.alloc (.cells #[.int .u8 k, .int .i64 q, .string key, .string too, .string val, .int .u64 dl] 51)).alloc (.cells #[.int .i64 1099511627776, .int .i64 1099511627776, .int .i64 0, .int .i64 0, .int .i64 0, .int .i64 0, .int .i64 0, .int .i64 0, .int .i64 0] 23) := ⟨_, rfl⟩
  have B0 := Lib.hid (show Below w.heap.size w W0 by rw [hW0]; exact bel_alloc (alb w _) _)
  have Z0 := Lib.hid (show W0.heap[w.heap.size]? = some (.cells #[.int .u8 k, .int .i64 q, .string key, .string too, .string val, .int .u64 dl] 51) by rw [hW0]; exact keep_bel (alb _ _) (heap_alloc_new w _))
  have Y0 := Lib.hid (show W0.heap[w.heap.size + 1]? = some (.cells #[.int .i64 1099511627776, .int .i64 1099511627776, .int .i64 0, .int .i64 0, .int .i64 0, .int .i64 0, .int .i64 0, .int .i64 0, .int .i64 0] 23) by rw [hW0]; simpa using heap_alloc_new (w.alloc (.cells #[.int .u8 k, .int .i64 q, .string key, .string too, .string val, .int .u64 dl] 51)) (.cells #[.int .i64 1099511627776, .int .i64 1099511627776, .int .i64 0, .int .i64 0, .int .i64 0, .int .i64 0, .int .i64 0, .int .i64 0, .int .i64 0] 23))
  obtain ⟨c0, c1, c2, c3, c4, c5⟩ := cells6 Z0.out
  have y0 : W0.cell? ⟨w.heap.size + 1, 0, none⟩ = some (.int .i64 1099511627776) := cellh Y0.out rfl
  have y1 : W0.cell? ⟨w.heap.size + 1, 1, none⟩ = some (.int .i64 1099511627776) := cellh Y0.out rfl
  have y2 : W0.cell? ⟨w.heap.size + 1, 2, none⟩ = some (.int .i64 0) := cellh Y0.out rfl
  have y3 : W0.cell? ⟨w.heap.size + 1, 3, none⟩ = some (.int .i64 0) := cellh Y0.out rfl
  have y4 : W0.cell? ⟨w.heap.size + 1, 4, none⟩ = some (.int .i64 0) := cellh Y0.out rfl
  have y5 : W0.cell? ⟨w.heap.size + 1, 5, none⟩ = some (.int .i64 0) := cellh Y0.out rfl
  have y6 : W0.cell? ⟨w.heap.size + 1, 6, none⟩ = some (.int .i64 0) := cellh Y0.out rfl
  have y7 : W0.cell? ⟨w.heap.size + 1, 7, none⟩ = some (.int .i64 0) := cellh Y0.out rfl
  have y8 : W0.cell? ⟨w.heap.size + 1, 8, none⟩ = some (.int .i64 0) := cellh Y0.out rfl
  by_cases hq : q = 0
  · subst hq
    have h3 : mF k dl 2147483647 2147483647 key too val = 3 := by
      rcases Int.decEq (mF k dl 2147483647 2147483647 key too val) 3 with e | e
      · exact absurd ⟨rfl, e⟩ h
      · exact e
    have HC : Hid (∀ W, Calls Tryz.prog 60 #[.agg #[.int .u8 k, .int .i64 0, .string key, .string too, .string val, .int .u64 dl], cfg 1099511627776 1099511627776 0 0 0 0 0 0 0] W fun e w' => e = .returned (.int .i64 3) ∧ Below W.heap.size W w') := Lib.hid (fun W => by
      have := qmsg_any k 0 dl 1099511627776 1099511627776 0 0 0 0 0 0 0 key too val W
      rw [mf_form 1099511627776 1099511627776 h3] at this
      exact this)
    clear h h3
    go_enter Tryz.func53, Tryz.ntmps53
    go_upto_region 2 with fail
    rw [← hW0]
    clear hW0
    go_wp2_with (first
      | (go_at_call 60; ((with_reducible refine (HC.out _).mono ?_); rintro e w1 ⟨rfl, b1⟩; have B1 := Lib.hid (bel_trans B0.out b1); clear b1))
      | fail)
    refine bodyPost_ret (v := .tuple #[.string ⟨#[]⟩, .bool false]) (by simp [results, Tryz.results53, go_sem]) rfl ⟨rfl, B1.out⟩
  · clear h
    go_enter Tryz.func53, Tryz.ntmps53
    go_upto_region 2 with fail
    rw [← hW0]
    clear hW0
    go_wp2
    all_goals
      first
      | (exfalso; omega)
      | (refine bodyPost_ret (v := .tuple #[.string ⟨#[]⟩, .bool false]) (by simp [results, Tryz.results53, go_sem]) rfl ⟨rfl, B0.out⟩)
end Go.Proofs.YtelpkajlejbbgaaGreatDoor
namespace Go.Proofs.YtelpkajlejbbgaaGreatDoor
open Go.RowKit Go.Maps
set_option maxHeartbeats 2000000 in
set_option maxRecDepth 100000 in
theorem rop_form (k n : Int) (key too : ByteArray) (A : Option Addr) (m c : Nat) (w : World) (hm : k ≠ 2 ∨ m ≤ 2048) (hn : inR n = true) (hp : opureB k n key too 0 = false) :
    Calls Tryz.prog 29 #[.agg #[.int .u8 k, .string key, .string too, .int .i64 n, .slice A m c]] w fun e w' => e = .returned (.tuple #[.string ⟨#[]⟩, .int .i64 3]) ∧ Below w.heap.size w w' := by
  have HC : Hid (∀ W, Calls Tryz.prog 33 #[.agg #[.int .u8 k, .string key, .string too, .int .i64 n, .slice none 0 0], cfg 1099511627776 1099511627776 0 0 0 0 0 0 1099511627776] W fun e w' => e = .returned (.int .i64 3) ∧ Below W.heap.size W w') := Lib.hid (fun W => by
    have := rask_any k n 1099511627776 1099511627776 0 0 0 0 0 0 1099511627776 key too none 0 0 [] W rfl (.inl rfl)
    unfold askF at this
    rw [if_pos hp] at this
    exact this)
  have HNU := Lib.hid (fun W => num_ok hn W)
  generalize itoaB n = N at HNU
  clear hn hp
  obtain ⟨W0, hW0⟩ : ∃ W0, W0 = w.alloc (.cells #[.int .u8 k, .string key, .string too, .int .i64 n, .slice A m c] 47) := ⟨_, rfl⟩
  have B0 := Lib.hid (show Below w.heap.size w W0 by rw [hW0]; exact alb w _)
  have Z0 := Lib.hid (show W0.heap[w.heap.size]? = some (.cells #[.int .u8 k, .string key, .string too, .int .i64 n, .slice A m c] 47) by rw [hW0]; exact heap_alloc_new w _)
  obtain ⟨c0, c1, c2, c3, c4⟩ := cells5 Z0.out
  by_cases k2 : k = 2
  · subst k2
    have k9 : ¬ (2048 : Int) < (m : Int) := by omega
    clear hm
    go_enter Tryz.func29, Tryz.ntmps29
    go_upto_region 1 with fail
    rw [← hW0]
    clear hW0
    go_upto_region 5 with (first
      | (go_at_call 28; ((with_reducible refine (HNU.out _).mono ?_); rintro e w1 ⟨rfl, hw⟩; (have hw2 := hw.symm; subst hw2; clear hw)))
      | fail)
    obtain ⟨W1, hW1⟩ : ∃ W1, W1 = W0.alloc (.cells #[.int .u8 2, .string key, .string too, .int .i64 n, .slice none 0 0] 47) := ⟨_, rfl⟩
    have B1 := Lib.hid (show Below w.heap.size w W1 by rw [hW1]; exact bel_alloc B0.out _)
    have Z1 := Lib.hid (show W1.heap[w.heap.size]? = some (.cells #[.int .u8 2, .string key, .string too, .int .i64 n, .slice A m c] 47) by rw [hW1]; exact keep_bel (alb _ _) Z0.out)
    have Y1 := Lib.hid (show W1.heap[W0.heap.size]? = some (.cells #[.int .u8 2, .string key, .string too, .int .i64 n, .slice none 0 0] 47) by rw [hW1]; exact heap_alloc_new W0 _)
    rw [← hW1]
    clear hW1 c0 c1 c2 c3 c4
    obtain ⟨c0, c1, c2, c3, c4⟩ := cells5 Z1.out
    obtain ⟨d0, d1, d2, d3, d4⟩ := cells5 Y1.out
    go_wp2_with (first
      | (go_at_call 33; ((with_reducible refine (HC.out _).mono ?_); rintro e w2 ⟨rfl, b1⟩; have B2 := Lib.hid (bel_trans B1.out b1); clear b1))
      | fail)
    all_goals
      first
      | (refine bodyPost_ret (v := .tuple #[.string ⟨#[]⟩, .int .i64 3]) (by simp [results, Tryz.results29, go_sem]) rfl ⟨rfl, B2.out⟩)
      | (refine bodyPost_ret (v := .tuple #[.string ⟨#[]⟩, .int .i64 3]) (by simp [results, Tryz.results29, go_sem]) rfl ⟨rfl, B1.out⟩)
      | (exfalso; omega)
  · clear hm
    go_enter Tryz.func29, Tryz.ntmps29
    go_upto_region 1 with fail
    rw [← hW0]
    clear hW0
    go_upto_region 5 with (first
      | (go_at_call 28; ((with_reducible refine (HNU.out _).mono ?_); rintro e w1 ⟨rfl, hw⟩; (have hw2 := hw.symm; subst hw2; clear hw)))
      | fail)
    obtain ⟨W1, hW1⟩ : ∃ W1, W1 = W0.alloc (.cells #[.int .u8 k, .string key, .string too, .int .i64 n, .slice none 0 0] 47) := ⟨_, rfl⟩
    have B1 := Lib.hid (show Below w.heap.size w W1 by rw [hW1]; exact bel_alloc B0.out _)
    have Z1 := Lib.hid (show W1.heap[w.heap.size]? = some (.cells #[.int .u8 k, .string key, .string too, .int .i64 n, .slice A m c] 47) by rw [hW1]; exact keep_bel (alb _ _) Z0.out)
    have Y1 := Lib.hid (show W1.heap[W0.heap.size]? = some (.cells #[.int .u8 k, .string key, .string too, .int .i64 n, .slice none 0 0] 47) by rw [hW1]; exact heap_alloc_new W0 _)
    rw [← hW1]
    clear hW1 c0 c1 c2 c3 c4
    obtain ⟨c0, c1, c2, c3, c4⟩ := cells5 Z1.out
    obtain ⟨d0, d1, d2, d3, d4⟩ := cells5 Y1.out
    go_wp2_with (first
      | (go_at_call 33; ((with_reducible refine (HC.out _).mono ?_); rintro e w2 ⟨rfl, b1⟩; have B2 := Lib.hid (bel_trans B1.out b1); clear b1))
      | fail)
    all_goals
      first
      | (refine bodyPost_ret (v := .tuple #[.string ⟨#[]⟩, .int .i64 3]) (by simp [results, Tryz.results29, go_sem]) rfl ⟨rfl, B2.out⟩)
      | (refine bodyPost_ret (v := .tuple #[.string ⟨#[]⟩, .int .i64 3]) (by simp [results, Tryz.results29, go_sem]) rfl ⟨rfl, B1.out⟩)
      | (exfalso; omega)
end Go.Proofs.YtelpkajlejbbgaaGreatDoor
namespace Go.Proofs.YtelpkajlejbbgaaGreatDoor
open Go.RowKit Go.Maps
set_option maxHeartbeats 2000000 in
set_option maxRecDepth 100000 in
theorem rop_num (k n : Int) (key too : ByteArray) (A : Option Addr) (m c : Nat) (w : World) (hm : k ≠ 2 ∨ m ≤ 2048) (hn : inR n = false) (hn0 : -9223372036854775808 ≤ n ∧ n ≤ 9223372036854775807) :
    Calls Tryz.prog 29 #[.agg #[.int .u8 k, .string key, .string too, .int .i64 n, .slice A m c]] w fun e w' => e = .returned (.tuple #[.string ⟨#[]⟩, .int .i64 3]) ∧ Below w.heap.size w w' := by
  have HNU : Hid (∀ W, Calls Tryz.prog 28 #[.int .i64 n] W fun e w' => e = .returned (.tuple #[.string ⟨#[]⟩, .bool false]) ∧ w' = W) := Lib.hid (fun W => by
    have := rnum_any n hn0.1 hn0.2 W
    unfold numT at this
    rw [if_neg (by rw [hn]; decide)] at this
    exact this)
  clear hn hn0
  obtain ⟨W0, hW0⟩ : ∃ W0, W0 = w.alloc (.cells #[.int .u8 k, .string key, .string too, .int .i64 n, .slice A m c] 47) := ⟨_, rfl⟩
  have B0 := Lib.hid (show Below w.heap.size w W0 by rw [hW0]; exact alb w _)
  have Z0 := Lib.hid (show W0.heap[w.heap.size]? = some (.cells #[.int .u8 k, .string key, .string too, .int .i64 n, .slice A m c] 47) by rw [hW0]; exact heap_alloc_new w _)
  obtain ⟨c0, c1, c2, c3, c4⟩ := cells5 Z0.out
  by_cases k2 : k = 2
  · subst k2
    have k9 : ¬ (2048 : Int) < (m : Int) := by omega
    clear hm
    go_enter Tryz.func29, Tryz.ntmps29
    go_upto_region 1 with fail
    rw [← hW0]
    clear hW0
    go_upto_region 5 with (first
      | (go_at_call 28; ((with_reducible refine (HNU.out _).mono ?_); rintro e w1 ⟨rfl, hw⟩; (have hw2 := hw.symm; subst hw2; clear hw)))
      | fail)
    obtain ⟨W1, hW1⟩ : ∃ W1, W1 = W0.alloc (.cells #[.int .u8 2, .string key, .string too, .int .i64 n, .slice none 0 0] 47) := ⟨_, rfl⟩
    have B1 := Lib.hid (show Below w.heap.size w W1 by rw [hW1]; exact bel_alloc B0.out _)
    have Z1 := Lib.hid (show W1.heap[w.heap.size]? = some (.cells #[.int .u8 2, .string key, .string too, .int .i64 n, .slice A m c] 47) by rw [hW1]; exact keep_bel (alb _ _) Z0.out)
    have Y1 := Lib.hid (show W1.heap[W0.heap.size]? = some (.cells #[.int .u8 2, .string key, .string too, .int .i64 n, .slice none 0 0] 47) by rw [hW1]; exact heap_alloc_new W0 _)
    rw [← hW1]
    clear hW1 c0 c1 c2 c3 c4
    obtain ⟨c0, c1, c2, c3, c4⟩ := cells5 Z1.out
    obtain ⟨d0, d1, d2, d3, d4⟩ := cells5 Y1.out
    go_wp2
    all_goals
      first
      | (refine bodyPost_ret (v := .tuple #[.string ⟨#[]⟩, .int .i64 3]) (by simp [results, Tryz.results29, go_sem]) rfl ⟨rfl, B1.out⟩)
      | (exfalso; omega)
  · clear hm
    go_enter Tryz.func29, Tryz.ntmps29
    go_upto_region 1 with fail
    rw [← hW0]
    clear hW0
    go_upto_region 5 with (first
      | (go_at_call 28; ((with_reducible refine (HNU.out _).mono ?_); rintro e w1 ⟨rfl, hw⟩; (have hw2 := hw.symm; subst hw2; clear hw)))
      | fail)
    obtain ⟨W1, hW1⟩ : ∃ W1, W1 = W0.alloc (.cells #[.int .u8 k, .string key, .string too, .int .i64 n, .slice none 0 0] 47) := ⟨_, rfl⟩
    have B1 := Lib.hid (show Below w.heap.size w W1 by rw [hW1]; exact bel_alloc B0.out _)
    have Z1 := Lib.hid (show W1.heap[w.heap.size]? = some (.cells #[.int .u8 k, .string key, .string too, .int .i64 n, .slice A m c] 47) by rw [hW1]; exact keep_bel (alb _ _) Z0.out)
    have Y1 := Lib.hid (show W1.heap[W0.heap.size]? = some (.cells #[.int .u8 k, .string key, .string too, .int .i64 n, .slice none 0 0] 47) by rw [hW1]; exact heap_alloc_new W0 _)
    rw [← hW1]
    clear hW1 c0 c1 c2 c3 c4
    obtain ⟨c0, c1, c2, c3, c4⟩ := cells5 Z1.out
    obtain ⟨d0, d1, d2, d3, d4⟩ := cells5 Y1.out
    go_wp2
    all_goals
      first
      | (refine bodyPost_ret (v := .tuple #[.string ⟨#[]⟩, .int .i64 3]) (by simp [results, Tryz.results29, go_sem]) rfl ⟨rfl, B1.out⟩)
      | (exfalso; omega)
set_option maxHeartbeats 2000000 in
set_option maxRecDepth 100000 in
theorem rop_more (k n : Int) (key too : ByteArray) (A : Option Addr) (m c : Nat) (w : World) (k2 : k ≠ 2) (hm : 0 < m) (hn : inR n = true) :
    Calls Tryz.prog 29 #[.agg #[.int .u8 k, .string key, .string too, .int .i64 n, .slice A m c]] w fun e w' => e = .returned (.tuple #[.string ⟨#[]⟩, .int .i64 3]) ∧ Below w.heap.size w w' := by
  have HNU := Lib.hid (fun W => num_ok hn W)
  generalize itoaB n = N at HNU
  have hm1 : (0 : Int) < (m : Int) := by omega
  clear hn
  obtain ⟨W0, hW0⟩ : ∃ W0, W0 = w.alloc (.cells #[.int .u8 k, .string key, .string too, .int .i64 n, .slice A m c] 47) := ⟨_, rfl⟩
  have B0 := Lib.hid (show Below w.heap.size w W0 by rw [hW0]; exact alb w _)
  have Z0 := Lib.hid (show W0.heap[w.heap.size]? = some (.cells #[.int .u8 k, .string key, .string too, .int .i64 n, .slice A m c] 47) by rw [hW0]; exact heap_alloc_new w _)
  obtain ⟨c0, c1, c2, c3, c4⟩ := cells5 Z0.out
  · clear hm
    go_enter Tryz.func29, Tryz.ntmps29
    go_upto_region 1 with fail
    rw [← hW0]
    clear hW0
    go_upto_region 5 with (first
      | (go_at_call 28; ((with_reducible refine (HNU.out _).mono ?_); rintro e w1 ⟨rfl, hw⟩; (have hw2 := hw.symm; subst hw2; clear hw)))
      | fail)
    obtain ⟨W1, hW1⟩ : ∃ W1, W1 = W0.alloc (.cells #[.int .u8 k, .string key, .string too, .int .i64 n, .slice none 0 0] 47) := ⟨_, rfl⟩
    have B1 := Lib.hid (show Below w.heap.size w W1 by rw [hW1]; exact bel_alloc B0.out _)
    have Z1 := Lib.hid (show W1.heap[w.heap.size]? = some (.cells #[.int .u8 k, .string key, .string too, .int .i64 n, .slice A m c] 47) by rw [hW1]; exact keep_bel (alb _ _) Z0.out)
    have Y1 := Lib.hid (show W1.heap[W0.heap.size]? = some (.cells #[.int .u8 k, .string key, .string too, .int .i64 n, .slice none 0 0] 47) by rw [hW1]; exact heap_alloc_new W0 _)
    rw [← hW1]
    clear hW1 c0 c1 c2 c3 c4
    obtain ⟨c0, c1, c2, c3, c4⟩ := cells5 Z1.out
    obtain ⟨d0, d1, d2, d3, d4⟩ := cells5 Y1.out
    go_wp2
    all_goals
      first
      | (refine bodyPost_ret (v := .tuple #[.string ⟨#[]⟩, .int .i64 3]) (by simp [results, Tryz.results29, go_sem]) rfl ⟨rfl, B1.out⟩)
      | (exfalso; omega)
end Go.Proofs.YtelpkajlejbbgaaGreatDoor
