/- Texts of the proof, one behind the other. -/
import Derived.Test.YtelpkajlejbbgaaGreatDoorTd31
import Derived.Test.YtelpkajlejbbgaaGreatDoorTd29
import Derived.Test.YtelpkajlejbbgaaGreatDoorTd27
set_option linter.unusedVariables false
set_option linter.unusedSimpArgs false
namespace Go.Proofs.YtelpkajlejbbgaaGreatDoor
open Go.RowKit Go.Maps
set_option maxHeartbeats 4000000 in
set_option maxRecDepth 100000 in
theorem may_bad (a0 a1 a2 a3 a4 a5 a6 a7 a8 : Int) (A Bp : Option Addr) (n c m d : Nat) (hs : List Hd) (rows : List (List OpV)) (picks : List Int) (w : World) (hg : GW w) (h3 : picks.length ≤ 900000) (h4 : rows.length ≤ 900000) (h5 : ∀ r ∈ rows, r.length ≤ 900000) (h6 : ∀ r ∈ rows, ∀ o ∈ r, o.ms.length ≤ 2048) (hbad : ¬ ((∀ v ∈ [a0, a1, a2, a3, a4, a5, a6, a7, a8] ++ picks, inR v = true) ∧ ∀ r ∈ rows, ∀ o ∈ r, OFm o)) (hn : rows.length = n) (hm : picks.length = m) (hA : EH.Rd w A hs) (hR : RowsR w (fun _ => False) hs rows) (hP : EI.Rd w Bp picks) :
    Calls Tryz.prog 21 #[scA a0 a1 a2 a3 a4 a5 a6 a7 a8 A n c Bp m d] w fun e w' => e = .returned (.int .i64 3) ∧ Below w.heap.size w w' := by
  rw [hm] at h3
  rw [hn] at h4
  have HG := Lib.hid (GB.of hg)
  have HN := Lib.hid (And.intro hn (And.intro h4 (And.intro hm h3)))
  have HA := Lib.hid hA
  have HR := Lib.hid hR
  have HP := Lib.hid hP
  have H5 := Lib.hid h5
  have H6 := Lib.hid h6
  have HBAD := Lib.hid hbad
  clear hg h3 h4 h5 h6 hA hR hP hn hm hbad
  obtain ⟨W0, hW0⟩ : ∃ W0, W0 = w.alloc (.cells #[.int .i64 a0, .int .i64 a1, .int .i64 a2, .int .i64 a3, .int .i64 a4, .int .i64 a5, .int .i64 a6, .int .i64 a7, .int .i64 a8, .slice A n c, .slice Bp m d] 27) := ⟨_, rfl⟩
  have B0 := Lib.hid (show Below w.heap.size w W0 by rw [hW0]; exact alb w _)
  have Z0 := Lib.hid (show W0.heap[w.heap.size]? = some (scO (.int .i64 a0) (.int .i64 a1) (.int .i64 a2) (.int .i64 a3) (.int .i64 a4) (.int .i64 a5) (.int .i64 a6) (.int .i64 a7) (.int .i64 a8) (.slice A n c) (.slice Bp m d)) by rw [hW0]; exact heap_alloc_new w _)
  have up : ∀ V, Below W0.heap.size W0 V → V.cell? ⟨w.heap.size, 0, none⟩ = some (.int .i64 a0) ∧ V.cell? ⟨w.heap.size, 1, none⟩ = some (.int .i64 a1) ∧ V.cell? ⟨w.heap.size, 2, none⟩ = some (.int .i64 a2) ∧ V.cell? ⟨w.heap.size, 3, none⟩ = some (.int .i64 a3) ∧ V.cell? ⟨w.heap.size, 4, none⟩ = some (.int .i64 a4) ∧ V.cell? ⟨w.heap.size, 5, none⟩ = some (.int .i64 a5) ∧ V.cell? ⟨w.heap.size, 6, none⟩ = some (.int .i64 a6) ∧ V.cell? ⟨w.heap.size, 7, none⟩ = some (.int .i64 a7) ∧ V.cell? ⟨w.heap.size, 8, none⟩ = some (.int .i64 a8) ∧ V.cell? ⟨w.heap.size, 9, none⟩ = some (.slice A n c) ∧ V.cell? ⟨w.heap.size, 10, none⟩ = some (.slice Bp m d) := fun V hV => by
    have z := keep_bel hV Z0.out
    exact ⟨cellh z rfl, cellh z rfl, cellh z rfl, cellh z rfl, cellh z rfl, cellh z rfl, cellh z rfl, cellh z rfl, cellh z rfl, cellh z rfl, cellh z rfl⟩
  have UP := Lib.hid up
  obtain ⟨c0, c1, c2, c3, c4, c5, c6, c7, c8, c9, c10⟩ := up W0 (Below.refl _ _)
  clear up
  unfold scA
  go_enter Tryz.func21, Tryz.ntmps21
  go_upto_region 1 with fail
  rw [← hW0]
  clear hW0
  have LN := Lib.hid (show ([a0, a1, a2, a3, a4, a5, a6, a7, a8] : List Int).length = 9 from rfl)
  have HM2 := Lib.hid (And.intro HN.out.2.2.1 HN.out.2.2.2)
  have HM3 := Lib.hid (show m ≤ 1000000 by have := HN.out; omega)
  go_upto_region 3 with (first
    | (go_at_call 23; ((refine (numsof_any a0 a1 a2 a3 a4 a5 a6 a7 a8 _).mono ?_); rintro e w1 ⟨rfl, r1, b1⟩; have B1 := Lib.hid b1; have R1 := Lib.hid r1; have RP := Lib.hid (HP.out.later (bel_trans B0.out b1)); obtain ⟨c0, c1, c2, c3, c4, c5, c6, c7, c8, c9, c10⟩ := UP.out w1 b1; clear r1 b1))
    | (at_builtin; refine RE.wpList_put EI _ rfl (.tmp 14) (.tmp 16) rfl (base := W0.heap.size) (some ⟨W0.heap.size + 1, 0, none⟩) 9 9 _ _ m d picks rfl rfl R1.out LN.out (by omega) B1.out.size HM2.out.1 HM3.out RP.out ?_; intro A3 c3' w5 r1 r2 r3; have R3 := Lib.hid r1; have B5 := Lib.hid (B1.out.trans (RE.Row.below r2 R1.out (Nat.le_refl _) B1.out.size)); clear r1 r2 r3)
    | fail)
  clear c0 c1 c2 c3 c4 c5 c6 c7 c8 c9 c10
  go_loopw [19] (fun iv wr => ∃ i : Nat, i ≤ 9 + m ∧ iv = .int .i64 i ∧ Hid (∀ v ∈ ([a0, a1, a2, a3, a4, a5, a6, a7, a8] ++ picks).take i, inR v = true) ∧ wr = w5) (fun iv _ => 9 + m - (intOf iv).toNat)
  case atStart => exact ⟨0, by omega, rfl, Lib.hid (fun v hv => by simp at hv), rfl⟩
  case round =>
    obtain ⟨i, hi, rfl, HG1, hw⟩ := hrel
    (have hw2 := hw.symm; subst hw2; clear hw)
    have hNN := HM2.out
    by_cases h8 : i < 9 + m
    · have hk1 : (i : Int) < 9 + (m : Int) := by omega
      have hk1' : (i : Int) < ((9 + m : Nat) : Int) := by omega
      have hk0 : (0 : Int) ≤ (i : Int) := by omega
      have WK : IntKind.i64.wrap ((i : Int) + 1) = (i : Int) + 1 := IntWalk.i64_in _ (by omega)
      obtain ⟨x, hx⟩ : ∃ x, ([a0, a1, a2, a3, a4, a5, a6, a7, a8] ++ picks)[i]? = some x := ⟨_, List.getElem?_eq_getElem (by rw [List.length_append, LN.out]; omega)⟩
      obtain ⟨b2, off, rfl, hlt, g0⟩ := ei_at R3.out.rd hx
      by_cases hxr : inR x = true
      rotate_left
      · have HX : Hid (∀ W, Calls Tryz.prog 47 #[.int .i64 x] W fun e w' => e = .returned (.bool false) ∧ w' = W) := Lib.hid (fun W => by have := inR_any x W; rw [show inR x = false by simpa using hxr] at this; exact this)
        have HBW := Lib.hid (bel_trans B0.out B5.out)
        clear hx hNN hxr
        go_wp2_with (first
          | (go_at_call 47; ((refine (HX.out _).mono ?_); rintro e w1 ⟨rfl, hw1⟩; (have hw2 := hw1.symm; subst hw2; clear hw1)))
          | fail)
        exact bodyPost_ret (v := .int .i64 3) (by simp [results, Tryz.results21, go_sem]) rfl ⟨rfl, HBW.out⟩
      have HX : Hid (∀ W, Calls Tryz.prog 47 #[.int .i64 x] W fun e w' => e = .returned (.bool true) ∧ w' = W) := Lib.hid (fun W => by have := inR_any x W; rw [hxr] at this; exact this)
      have HGN : Hid (∀ v ∈ ([a0, a1, a2, a3, a4, a5, a6, a7, a8] ++ picks).take (i + 1), inR v = true) := Lib.hid (fun v hv => by
        rw [List.take_add_one, hx] at hv
        rcases List.mem_append.1 hv with hv | hv
        · exact HG1.out v hv
        · simp at hv; subst hv; exact hxr)
      clear hx hNN hxr
      go_wp2_with (first
        | (go_at_call 47; ((refine (HX.out _).mono ?_); rintro e w1 ⟨rfl, hw1⟩; (have hw2 := hw1.symm; subst hw2; clear hw1)))
        | fail)
      exact ⟨⟨i + 1, by omega, rfl, HGN, trivial⟩, by simp [intOf]; omega⟩
    · have hke : i = 9 + m := by omega
      subst hke
      have hk1 : ¬ ((9 + m : Nat) : Int) < ((9 + m : Nat) : Int) := by omega
      have hk1' : ¬ 9 + (m : Int) < 9 + (m : Int) := by omega
      have HG1E : Hid (∀ v ∈ [a0, a1, a2, a3, a4, a5, a6, a7, a8] ++ picks, inR v = true) := Lib.hid (fun v hv => HG1.out v (by rw [List.take_of_length_le (by rw [List.length_append, LN.out]; omega)]; exact hv))
      clear hNN
      obtain ⟨c0, c1, c2, c3, c4, c5, c6, c7, c8, c9, c10⟩ := UP.out _ B5.out
      go_upto_region 10 with fail
      clear c0 c1 c2 c3 c4 c5 c6 c7 c8 c9 c10
      have HB5 := Lib.hid (bel_trans B0.out B5.out)
      go_loopw [6, 30] (fun fv iv wr => ∃ i : Nat, i ≤ n ∧ iv = .int .i64 i ∧ Hid (∀ r ∈ rows.take i, ∀ o ∈ r, OFm o) ∧ Hid (fv = .bool false) ∧ Below w.heap.size w wr) (fun _ iv _ => n - (intOf iv).toNat)
      case atStart => exact ⟨0, by omega, rfl, Lib.hid (fun v hv => by simp at hv), Lib.hid rfl, HB5.out⟩
      case round =>
        obtain ⟨i, hi, rfl, HG2, HFV, hbw⟩ := hrel
        (have hfv := HFV.out; subst hfv; clear HFV)
        have HB := Lib.hid hbw
        clear hbw
        have hNN := HN.out
        by_cases h8 : i < n
        · have hk1 : (i : Int) < (n : Int) := by omega
          have hk0 : (0 : Int) ≤ (i : Int) := by omega
          have WK : IntKind.i64.wrap ((i : Int) + 1) = (i : Int) + 1 := IntWalk.i64_in _ (by omega)
          obtain ⟨r, hr⟩ : ∃ r, rows[i]? = some r := ⟨_, List.getElem?_eq_getElem (by omega)⟩
          obtain ⟨h, hh⟩ : ∃ h, hs[i]? = some h := ⟨_, List.getElem?_eq_getElem (by rw [HR.out.1]; omega)⟩
          obtain ⟨b2, off, rfl, hlt, hc⟩ := (HA.out.later HB.out).get hh
          obtain ⟨xs, hx1, hx2, hx3⟩ := HR.out.2 i h r hh hr
          obtain ⟨hA2, hn2, hc2⟩ := h
          simp only at hx1 hx2
          subst hx1
          have g0 : wr.cell? ⟨b2, off + i, none⟩ = some (.slice hA2 xs.length hc2) := by simpa [EH] using hc 0 _ rfl
          have HXR := Lib.hid hx2
          have HXO := Lib.hid hx3
          have HRM := Lib.hid (List.mem_of_getElem? hr)
          have HRL := Lib.hid (H5.out r (List.mem_of_getElem? hr))
          have HG2N : Hid ((∀ o ∈ r, OFm o) → ∀ r' ∈ rows.take (i + 1), ∀ o ∈ r', OFm o) := Lib.hid (fun h r' hr' => by
            rw [List.take_add_one, hr] at hr'
            rcases List.mem_append.1 hr' with hr' | hr'
            · exact HG2.out r' hr'
            · simp at hr'; subst hr'; exact h)
          clear hr hh hc hx2 hx3 hNN
          go_upto_region 13 with fail
          go_loopw [6, 36] (fun fv iv wr => ∃ i : Nat, i ≤ xs.length ∧ iv = .int .i64 i ∧ Hid (∀ o ∈ r.take i, OFm o) ∧ Hid (fv = .bool false) ∧ Below w.heap.size w wr) (fun _ iv _ => xs.length - (intOf iv).toNat)
          case atStart => exact ⟨0, by omega, rfl, Lib.hid (fun v hv => by simp at hv), Lib.hid rfl, HB.out⟩
          case round =>
            obtain ⟨j, hj, rfl, HG3, HFV, hbw⟩ := hrel
            (have hfv := HFV.out; subst hfv; clear HFV)
            have HB9 := Lib.hid hbw
            clear hbw
            have hle := HRL.out
            have hxl := HXO.out.1
            by_cases h9 : j < xs.length
            · have hk1 : (j : Int) < (xs.length : Int) := by omega
              have hk0 : (0 : Int) ≤ (j : Int) := by omega
              have WK : IntKind.i64.wrap ((j : Int) + 1) = (j : Int) + 1 := IntWalk.i64_in _ (by omega)
              obtain ⟨o, ho⟩ : ∃ o, r[j]? = some o := ⟨_, List.getElem?_eq_getElem (by omega)⟩
              obtain ⟨x, hx⟩ : ∃ x, xs[j]? = some x := ⟨_, List.getElem?_eq_getElem h9⟩
              obtain ⟨b3, off3, rfl, hlt3, hc3⟩ := (HXR.out.rd.later HB9.out).get hx
              obtain ⟨e1, e2, e3, e4, e5, e6⟩ := HXO.out.2 j x o hx ho
              have hol := H6.out r HRM.out o (List.mem_of_getElem? ho)
              obtain ⟨xk, xkey, xtoo, xn, xA, xl, xc⟩ := x
              simp only at e1 e2 e3 e4 e5 e6
              subst e1 e2 e3 e4 e5
              have g0 : wr.cell? ⟨b3, off3 + j * 5, none⟩ = some (.int .u8 o.k) := hc3 0 _ rfl
              have g1 : wr.cell? ⟨b3, off3 + j * 5 + 1, none⟩ = some (.string o.key) := hc3 1 _ rfl
              have g2 : wr.cell? ⟨b3, off3 + j * 5 + 2, none⟩ = some (.string o.too) := hc3 2 _ rfl
              have g3 : wr.cell? ⟨b3, off3 + j * 5 + 3, none⟩ = some (.int .i64 o.n) := hc3 3 _ rfl
              have g4 : wr.cell? ⟨b3, off3 + j * 5 + 4, none⟩ = some (.slice xA o.ms.length xc) := hc3 4 _ rfl
              have HK9 := Lib.hid (show decide ((2048 : Int) < (o.ms.length : Int)) = false by simp; omega)
              have ZB := Lib.hid (heap_alloc_new wr (.cells #[.int .u8 o.k, .string o.key, .string o.too, .int .i64 o.n, .slice xA o.ms.length xc] 47))
              have HB10 := Lib.hid (bel_alloc HB9.out (.cells #[.int .u8 o.k, .string o.key, .string o.too, .int .i64 o.n, .slice xA o.ms.length xc] 47))
              by_cases hof : OFm o
              rotate_left
              · have HF := Lib.hid (fun W (hW : Below w.heap.size w W) => formed_bad o xA xc W (HG.out.later hW).gw hof (e6.rd.later hW) (by omega))
                unfold OpV.v at HF
                clear hx ho hc3 e6 hof hol hxl hle
                go_wp2_with (first
                  | (go_at_call 48; ((refine (HF.out _ HB10.out).mono ?_); rintro e w8 ⟨rfl, b8⟩; have B8 := Lib.hid (bel_trans HB10.out b8); clear b8))
                  | fail)
                exact bodyPost_ret (v := .int .i64 3) (by simp [results, Tryz.results21, go_sem]) rfl ⟨rfl, B8.out⟩
              have HGN3 : Hid (∀ q ∈ r.take (j + 1), OFm q) := Lib.hid (fun v hv => by
                rw [List.take_add_one, ho] at hv
                rcases List.mem_append.1 hv with hv | hv
                · exact HG3.out v hv
                · simp at hv; subst hv; exact hof)
              have HF := Lib.hid (fun W (hW : Below w.heap.size w W) => formed_ok o xA xc W (HG.out.later hW).gw hof (e6.rd.later hW) (by omega))
              unfold OpV.v at HF
              clear hx ho hc3 e6 hof hol hxl hle
              go_wp2_with (first
                | (go_at_call 48; ((refine (HF.out _ HB10.out).mono ?_); rintro e w8 ⟨rfl, b8⟩; have B8 := Lib.hid (bel_trans HB10.out b8); obtain ⟨c0, c1, c2, c3, c4⟩ := cells5 (keep_bel b8 ZB.out); clear b8))
                | fail)
              exact ⟨⟨j + 1, by omega, rfl, HGN3, Lib.hid (congrArg Value.bool HK9.out), B8.out⟩, by simp [intOf]; omega⟩
            · have hke : j = xs.length := by omega
              subst hke
              have HG2M := Lib.hid (HG2N.out (fun o ho => HG3.out o (by rw [List.take_of_length_le (by omega)]; exact ho)))
              clear hxl hle
              have hk1 : ¬ (xs.length : Int) < (xs.length : Int) := by omega
              go_wp2
              exact ⟨⟨i + 1, by omega, rfl, HG2M, Lib.hid rfl, HB9.out⟩, by simp [intOf]; omega⟩
        · have hke : i = n := by omega
          exfalso
          refine HBAD.out ⟨HG1E.out, fun r hr => HG2.out r ?_⟩
          rw [List.take_of_length_le (by omega)]
          exact hr
set_option maxHeartbeats 2000000 in
set_option maxRecDepth 100000 in
theorem print_bad {x : ScV} {v : Value} {w : World} (hg : GW w) (hR : ScR w x v) (hf : FewP x) (hb : ¬ GoodS x) : Calls Tryz.prog 10 #[v] w fun e w' => e = .returned (.tuple #[.string ⟨#[]⟩, .int .i64 3]) ∧ Below w.heap.size w w' := by
  obtain ⟨a0, a1, a2, a3, a4, a5, a6, a7, a8, A, c, B, d, hs, hcf, rfl, hA, hW, hB⟩ := hR.h
  have h2048 : ∀ r ∈ x.rows, ∀ o ∈ r, o.ms.length ≤ 2048 := fun r hr o ho => by have := (hf.op r hr o ho).m; omega
  have hbad : ¬ ((∀ v ∈ [a0, a1, a2, a3, a4, a5, a6, a7, a8] ++ x.picks, inR v = true) ∧ ∀ r ∈ x.rows, ∀ o ∈ r, OFm o) := fun q => hb ⟨fun v hv => q.1 v (List.mem_append_left _ (by rw [← hcf]; exact hv)), fun r hr o ho => ⟨q.2 r hr o ho, h2048 r hr o ho⟩, fun v hv => q.1 v (List.mem_append_right _ hv)⟩
  have h1 := hf.pl
  have h2 := hf.rl
  have HM := Lib.hid (fun V (hV : Below w.heap.size w V) => may_bad a0 a1 a2 a3 a4 a5 a6 a7 a8 A B _ c _ d hs x.rows x.picks V (hg.later hV) (by omega) (by omega) (fun r hr => by have := hf.ol r hr; omega) h2048 hbad rfl rfl (hA.later hV) (hW.chg (Chg.of_below (D := fun _ => False) hV) (fun x e => e)) (hB.later hV))
  obtain ⟨n, hn⟩ : ∃ n, x.rows.length = n := ⟨_, rfl⟩
  obtain ⟨m, hm⟩ : ∃ m, x.picks.length = m := ⟨_, rfl⟩
  rw [hn, hm] at HM ⊢
  unfold scA at HM ⊢
  obtain ⟨W1, hW1⟩ : ∃ W1, W1 = w.alloc (.cells #[.int .i64 a0, .int .i64 a1, .int .i64 a2, .int .i64 a3, .int .i64 a4, .int .i64 a5, .int .i64 a6, .int .i64 a7, .int .i64 a8, .slice A n c, .slice B m d] 27) := ⟨_, rfl⟩
  have B1 := Lib.hid (show Below w.heap.size w W1 by rw [hW1]; exact alb w _)
  have Z1 := Lib.hid (show W1.heap[w.heap.size]? = some (.cells #[.int .i64 a0, .int .i64 a1, .int .i64 a2, .int .i64 a3, .int .i64 a4, .int .i64 a5, .int .i64 a6, .int .i64 a7, .int .i64 a8, .slice A n c, .slice B m d] 27) by rw [hW1]; exact heap_alloc_new w _)
  obtain ⟨c0, c1, c2, c3, c4, c5, c6, c7, c8, c9, c10⟩ := cells11 Z1.out
  clear hg hR hf hb hA hW hB hbad h2048 h1 h2 hn hm hcf
  go_enter Tryz.func10, Tryz.ntmps10
  go_upto_region 1 with fail
  rw [← hW1]
  clear hW1
  go_wp2_with (first
    | (go_at_call 21; ((with_reducible refine (HM.out _ B1.out).mono ?_); rintro e w2 ⟨rfl, b2⟩; have B2 := Lib.hid (bel_trans B1.out b2); clear b2))
    | fail)
  exact bodyPost_ret (v := .tuple #[.string ⟨#[]⟩, .int .i64 3]) (by simp [results, Tryz.results10, go_sem]) rfl ⟨rfl, B2.out⟩
end Go.Proofs.YtelpkajlejbbgaaGreatDoor
namespace Go.Proofs.YtelpkajlejbbgaaGreatDoor
open Go.RowKit Go.Maps
theorem rprint_good {x : ScV} {v : Value} {w : World} (hR : ScR w x v) (hf : FewP x) (hi : ScIn x) (hg : GoodS x) :
    Calls Tryz.prog 11 #[v] w fun e w' => e = .returned (.tuple #[.string ⟨(prL x).toArray⟩, .int .i64 0]) ∧ Below w.heap.size w w' := by
  obtain ⟨a0, a1, a2, a3, a4, a5, a6, a7, a8, A, c, B, d, hs, hcf, rfl, hA, hW, hB⟩ := hR.h
  obtain ⟨cf, rows, picks⟩ := x
  simp only at hcf hA hW hB
  subst hcf
  have ht := pr_300 hf hi rfl
  exact rprint_ok a0 a1 a2 a3 a4 a5 a6 a7 a8 A B _ c _ d hs rows picks w (sfm_of hf hg) (fun r hr o ho => ook_of (hg.2.1 r hr o ho).1 (osz_of (hf.op r hr o ho) (hi.op r hr o ho))) (by omega) rfl rfl hA hW hB
end Go.Proofs.YtelpkajlejbbgaaGreatDoor
namespace Go.Proofs.YtelpkajlejbbgaaGreatDoor
open Go.RowKit Go.Maps
theorem qop_bad3 (o : OpV) (A : Option Addr) (c : Nat) (w : World) (z : OSz o) (hA : EM.Rd w A o.ms) (hb : ¬ (OFm o ∧ o.ms.length ≤ 2048)) (hl : o.ms.length ≤ 2048) :
    Calls Tryz.prog 29 #[o.v A c] w fun e w' => (∃ er : Int, er = 3 ∧ e = .returned (.tuple #[.string ⟨#[]⟩, .int .i64 er])) ∧ Below w.heap.size w w' := by
  have hb2 : ¬ OFm o := fun h => hb ⟨h, hl⟩
  have bad3 : (Calls Tryz.prog 29 #[o.v A c] w fun e w' => e = .returned (.tuple #[.string ⟨#[]⟩, .int .i64 3]) ∧ Below w.heap.size w w') → Calls Tryz.prog 29 #[o.v A c] w fun e w' => (∃ er : Int, er = 3 ∧ e = .returned (.tuple #[.string ⟨#[]⟩, .int .i64 er])) ∧ Below w.heap.size w w' :=
    fun h => h.mono fun e w' ⟨h1, h2⟩ => ⟨⟨3, rfl, h1⟩, h2⟩
  have hl2 : o.k ≠ 2 ∨ o.ms.length ≤ 2048 := .inr hl
  by_cases hn : inR o.n = true
  rotate_left
  · exact bad3 (rop_num o.k o.n o.key o.too A _ c w hl2 (by simpa using hn) z.n)
  by_cases hm : o.k ≠ 2 ∧ 0 < o.ms.length
  · exact bad3 (rop_more o.k o.n o.key o.too A _ c w hm.1 hm.2 hn)
  by_cases hp : opureB o.k o.n o.key o.too 0 = true
  rotate_left
  · exact bad3 (rop_form o.k o.n o.key o.too A _ c w hl2 hn (by simpa using hp))
  by_cases h2 : o.k = 2
  · by_cases hms : ∀ x ∈ o.ms, MFm x
    · exact absurd (⟨hn, by rw [h2] at hp ⊢; exact hp, hms⟩ : OFm o) hb2
    · have g := rop_msg o.n o.key o.too A o.ms.length c o.ms w hn (by rw [h2] at hp; exact hp) rfl hl hA z.ms hms
      refine bad3 ?_
      unfold OpV.v
      rw [h2]
      exact g
  · have h0 : o.ms.length = 0 := by
      rcases Nat.eq_zero_or_pos o.ms.length with h | h
      · exact h
      · exact absurd ⟨h2, h⟩ hm
    exact absurd (⟨hn, by rw [h0]; exact hp, fun x hx => by rw [List.eq_nil_of_length_eq_zero h0] at hx; cases hx⟩ : OFm o) hb2
set_option maxHeartbeats 1500000 in
set_option maxRecDepth 100000 in
theorem rprint_bad3 (a0 a1 a2 a3 a4 a5 a6 a7 a8 : Int) (A Bp : Option Addr) (n c m d : Nat) (hs : List Hd) (rows : List (List OpV)) (picks : List Int) (w : World) (hf : FewP ⟨[a0, a1, a2, a3, a4, a5, a6, a7, a8], rows, picks⟩) (hi : ScIn ⟨[a0, a1, a2, a3, a4, a5, a6, a7, a8], rows, picks⟩) (hbad : ¬ GoodS ⟨[a0, a1, a2, a3, a4, a5, a6, a7, a8], rows, picks⟩) (ht : (prL ⟨[a0, a1, a2, a3, a4, a5, a6, a7, a8], rows, picks⟩).length ≤ 1048576) (hn : rows.length = n) (hm : picks.length = m) (hA : EH.Rd w A hs) (hR : RowsR w (fun _ => False) hs rows) (hP : EI.Rd w Bp picks) :
    Calls Tryz.prog 11 #[scA a0 a1 a2 a3 a4 a5 a6 a7 a8 A n c Bp m d] w fun e w' => (∃ er : Int, er = 3 ∧ e = .returned (.tuple #[.string ⟨#[]⟩, .int .i64 er])) ∧ Below w.heap.size w w' := by
  obtain ⟨cf, hcf⟩ : ∃ cf : List Int, cf = [a0, a1, a2, a3, a4, a5, a6, a7, a8] := ⟨_, rfl⟩
  have hT : prL ⟨cf, rows, picks⟩ = (((wSizes.data.toList ++ nL cf) ++ [10]) ++ rowsL rows) ++ ((wPicks.data.toList ++ nL picks) ++ [10]) := by
    show (lineL (wSizes :: cf.map itoaB) ++ rowsL rows) ++ lineL (wPicks :: picks.map itoaB) = _
    rw [line_nums, line_nums]
  rw [← hcf] at hf hi ht hbad
  rw [hT] at ht
  have HL := Lib.hid ht
  have HV0 : Hid (∀ v ∈ cf, I64 v) := Lib.hid (fun v hv => hi.cf v hv)
  have HV1 : Hid (∀ v ∈ picks, I64 v) := Lib.hid (fun v hv => hi.pk v hv)
  have HPL := Lib.hid (show m ≤ 900000 by have := hf.pl; simp only at this; omega)
  have HRL := Lib.hid (show n ≤ 900000 by have := hf.rl; simp only at this; omega)
  have H5 : Hid (∀ r ∈ rows, r.length ≤ 900000) := Lib.hid (fun r hr => by have := hf.ol r hr; omega)
  have HO : Hid (∀ r ∈ rows, ∀ o ∈ r, OSz o) := Lib.hid (fun r hr o ho => osz_of (hf.op r hr o ho) (hi.op r hr o ho))
  have HM8 : Hid (∀ r ∈ rows, ∀ o ∈ r, o.ms.length ≤ 2048) := Lib.hid (fun r hr o ho => by have := (hf.op r hr o ho).m; omega)
  have HBAD : Hid (¬ ((∀ v ∈ cf, inR v = true) ∧ (∀ r ∈ rows, ∀ o ∈ r, OFm o ∧ o.ms.length ≤ 2048) ∧ (∀ v ∈ picks, inR v = true))) := Lib.hid hbad
  have HN := Lib.hid (And.intro hn hm)
  have HA := Lib.hid hA
  have HR := Lib.hid hR
  have HP := Lib.hid hP
  have HCF := Lib.hid hcf
  have LN := Lib.hid (show cf.length = 9 by rw [hcf]; rfl)
  clear hf hi hbad hn hm hA hR hP ht hT hcf
  obtain ⟨W3, hW3⟩ : ∃ W3, W3 = ((w.alloc (.cells #[.int .i64 a0, .int .i64 a1, .int .i64 a2, .int .i64 a3, .int .i64 a4, .int .i64 a5, .int .i64 a6, .int .i64 a7, .int .i64 a8, .slice A n c, .slice Bp m d] 27)).alloc (.cells #[.int .i64 a0, .int .i64 a1, .int .i64 a2, .int .i64 a3, .int .i64 a4, .int .i64 a5, .int .i64 a6, .int .i64 a7, .int .i64 a8] 23)).alloc (.cells #[.int .i64 a0, .int .i64 a1, .int .i64 a2, .int .i64 a3, .int .i64 a4, .int .i64 a5, .int .i64 a6, .int .i64 a7, .int .i64 a8] 3) := ⟨_, rfl⟩
  have B3 := Lib.hid (show Below w.heap.size w W3 by rw [hW3]; exact bel_alloc (bel_alloc (alb w _) _) _)
  have Z3 := Lib.hid (show W3.heap[w.heap.size]? = some (.cells #[.int .i64 a0, .int .i64 a1, .int .i64 a2, .int .i64 a3, .int .i64 a4, .int .i64 a5, .int .i64 a6, .int .i64 a7, .int .i64 a8, .slice A n c, .slice Bp m d] 27) by rw [hW3]; exact keep_bel (alb _ _) (keep_bel (alb _ _) (heap_alloc_new w _)))
  have N3 := Lib.hid (show EI.Rd W3 (some ⟨w.heap.size + 2, 0, none⟩) cf by
    rw [hW3]
    have h := RE.Rd.lit (E := EI) ((w.alloc (.cells #[.int .i64 a0, .int .i64 a1, .int .i64 a2, .int .i64 a3, .int .i64 a4, .int .i64 a5, .int .i64 a6, .int .i64 a7, .int .i64 a8, .slice A n c, .slice Bp m d] 27)).alloc (.cells #[.int .i64 a0, .int .i64 a1, .int .i64 a2, .int .i64 a3, .int .i64 a4, .int .i64 a5, .int .i64 a6, .int .i64 a7, .int .i64 a8] 23)) 3 cf #[.int .i64 a0, .int .i64 a1, .int .i64 a2, .int .i64 a3, .int .i64 a4, .int .i64 a5, .int .i64 a6, .int .i64 a7, .int .i64 a8] (by rw [HCF.out]; rfl)
    simpa using h)
  unfold scA
  go_enter Tryz.func11, Tryz.ntmps11
  go_upto_region 3 with fail
  rw [← hW3]
  clear hW3
  go_upto_region 5 with fail
  go_loopw [6, 7] (fun ov iv wr => ∃ k : Nat, k ≤ 9 ∧ iv = .int .i64 k ∧ Hid (∀ v ∈ cf.take k, inR v = true) ∧ Hid (ov = .string ⟨(wSizes.data.toList ++ nL (cf.take k)).toArray⟩) ∧ wr = W3) (fun _ iv _ => 9 - (intOf iv).toNat)
  case atStart => exact ⟨0, by omega, rfl, Lib.hid (fun v hv => by simp at hv), Lib.hid rfl, rfl⟩
  case round =>
    obtain ⟨k, hk, rfl, HG1, HOV, hw⟩ := hrel
    (have hw2 := hw.symm; subst hw2; clear hw)
    obtain ⟨O, hO⟩ : ∃ O : ByteArray, O = ⟨(wSizes.data.toList ++ nL (cf.take k)).toArray⟩ := ⟨_, rfl⟩
    rw [← hO] at HOV
    (have hov := HOV.out; subst hov; clear HOV)
    have hOS : O.size ≤ 1048576 := by
      rw [hO, ba_size]
      have h1 := HL.out
      have h2 : (nL (cf.take k)).length ≤ (nL cf).length := fm_take _ cf k
      simp only [List.length_append] at h1 ⊢
      omega
    by_cases h8 : k < 9
    · have hk1 : (k : Int) < 9 := by omega
      have hk0 : (0 : Int) ≤ (k : Int) := by omega
      have WK : IntKind.i64.wrap ((k : Int) + 1) = (k : Int) + 1 := IntWalk.i64_in _ (by omega)
      obtain ⟨x, hx⟩ : ∃ x, cf[k]? = some x := ⟨_, List.getElem?_eq_getElem (by have := LN.out; omega)⟩
      obtain ⟨b2, off, hb2, hlt, g0⟩ := ei_at N3.out hx
      injection hb2 with hb2
      injection hb2 with hb3 hb4
      subst hb3 hb4
      rw [Nat.zero_add] at g0
      by_cases hxr : inR x = true
      rotate_left
      · have HX := Lib.hid (fun W => num_bad hxr (HV0.out x (List.mem_of_getElem? hx)) W)
        have hcat : ¬ 9223372036854775807 < O.size + 1 := by omega
        clear hx hO
        go_wp2_with (first
          | (go_at_call 28; ((with_reducible refine (HX.out _).mono ?_); rintro e w4 ⟨rfl, hw⟩; (have hw2 := hw.symm; subst hw2; clear hw)))
          | fail)
        exact bodyPost_ret (v := .tuple #[.string ⟨#[]⟩, .int .i64 3]) (by simp [results, Tryz.results11, go_sem]) rfl ⟨⟨3, rfl, rfl⟩, B3.out⟩
      have HX := Lib.hid (fun W => num_ok hxr W)
      have HXS : Hid ((itoaB x).size ≤ 100) := Lib.hid (by
        have := itoa_21 (HV0.out x (List.mem_of_getElem? hx))
        omega)
      have HGN : Hid (∀ v ∈ cf.take (k + 1), inR v = true) := Lib.hid (fun v hv => by
        rw [List.take_add_one, hx] at hv
        rcases List.mem_append.1 hv with hv | hv
        · exact HG1.out v hv
        · simp at hv; subst hv; exact hxr)
      have HF : Hid ((O ++ ⟨#[32]⟩) ++ itoaB x = ⟨(wSizes.data.toList ++ nL (cf.take (k + 1))).toArray⟩) := Lib.hid (ba_inj (by
        rw [ba_app, ba_app, ba_list, hO, ba_list, itoa_list]
        unfold nL
        rw [fm_next _ hx]
        simp))
      have hcat : ¬ 9223372036854775807 < O.size + 1 := by omega
      have hcat2 : ¬ 9223372036854775807 < O.size + 1 + (itoaB x).size := by have := HXS.out; omega
      generalize itoaB x = N at HX HXS HF hcat2
      clear hx hO hxr
      go_wp2_with (first
        | (go_at_call 28; ((with_reducible refine (HX.out _).mono ?_); rintro e w4 ⟨rfl, hw⟩; (have hw2 := hw.symm; subst hw2; clear hw)))
        | fail)
      exact ⟨⟨k + 1, by omega, by simp, HGN, Lib.hid (by rw [← HF.out]), trivial⟩, by simp [intOf]; omega⟩
    · have hke : k = 9 := by omega
      subst hke
      have e9 : ((9 : Nat) : Int) = 9 := rfl
      rw [e9]
      have HG1E : Hid (∀ v ∈ cf, inR v = true) := Lib.hid (fun v hv => HG1.out v (by rw [List.take_of_length_le (by have := LN.out; omega)]; exact hv))
      rw [List.take_of_length_le (by have := LN.out; omega)] at hO
      have hcat : ¬ 9223372036854775807 < O.size + 1 := by omega
      have HF : Hid (O ++ ⟨#[10]⟩ = ⟨(((wSizes.data.toList ++ nL cf) ++ [10]) ++ rowsL (rows.take 0)).toArray⟩) := Lib.hid (ba_inj (by rw [ba_app, ba_list, hO, ba_list]; show _ = _ ++ []; simp))
      clear hO hOS
      obtain ⟨c0, c1, c2, c3, c4, c5, c6, c7, c8, c9, c10⟩ := cells11 Z3.out
      go_upto_region 13 with fail
      generalize O ++ ⟨#[10]⟩ = O2 at HF ⊢
      clear c0 c1 c2 c3 c4 c5 c6 c7 c8 c9 c10 hcat
      go_loopw [6, 10] (fun ov iv wr => ∃ i : Nat, i ≤ n ∧ iv = .int .i64 i ∧ Hid (∀ r ∈ rows.take i, ∀ o ∈ r, OFm o ∧ o.ms.length ≤ 2048) ∧ Hid (ov = .string ⟨(((wSizes.data.toList ++ nL cf) ++ [10]) ++ rowsL (rows.take i)).toArray⟩) ∧ Below W3.heap.size W3 wr) (fun _ iv _ => n - (intOf iv).toNat)
      case atStart => exact ⟨0, by omega, rfl, Lib.hid (fun v hv => by simp at hv), Lib.hid (by rw [HF.out]), Below.refl _ _⟩
      case round =>
        obtain ⟨i, hi, rfl, HG2, HOV, hbw⟩ := hrel
        have HB3 := Lib.hid hbw
        have HB := Lib.hid (bel_trans B3.out hbw)
        clear hbw
        obtain ⟨O, hO⟩ : ∃ O : ByteArray, O = ⟨(((wSizes.data.toList ++ nL cf) ++ [10]) ++ rowsL (rows.take i)).toArray⟩ := ⟨_, rfl⟩
        rw [← hO] at HOV
        (have hov := HOV.out; subst hov; clear HOV)
        have HOO := Lib.hid hO
        clear hO
        have hNN := HN.out
        have hRL := HRL.out
        obtain ⟨c0, c1, c2, c3, c4, c5, c6, c7, c8, c9, c10⟩ := cells11 (keep_bel HB3.out Z3.out)
        by_cases h8 : i < n
        · have hk1 : (i : Int) < (n : Int) := by omega
          have hk0 : (0 : Int) ≤ (i : Int) := by omega
          have WK : IntKind.i64.wrap ((i : Int) + 1) = (i : Int) + 1 := IntWalk.i64_in _ (by omega)
          obtain ⟨r, hr⟩ : ∃ r, rows[i]? = some r := ⟨_, List.getElem?_eq_getElem (by omega)⟩
          obtain ⟨h, hh⟩ : ∃ h, hs[i]? = some h := ⟨_, List.getElem?_eq_getElem (by rw [HR.out.1]; omega)⟩
          obtain ⟨xs, hx1, hx2, hx3⟩ := HR.out.2 i h r hh hr
          obtain ⟨hA2, hn2, hc2⟩ := h
          simp only at hx1 hx2
          subst hx1
          have HHH := Lib.hid hh
          have HXR := Lib.hid hx2
          have HXO := Lib.hid hx3
          have HRM := Lib.hid (List.mem_of_getElem? hr)
          have HRL2 := Lib.hid (H5.out r (List.mem_of_getElem? hr))
          have HNX := Lib.hid (show rowsL (rows.take (i + 1)) = rowsL (rows.take i) ++ (lineL [wSess] ++ opsL r) from fm_next _ hr)
          have HLL := Lib.hid (show (((((wSizes.data.toList ++ nL cf) ++ [10]) ++ rowsL (rows.take i)) ++ lineL [wSess]) ++ opsL r).length ≤ 1048576 by
            have h1 := HL.out
            have h2 : (rowsL (rows.take (i + 1))).length ≤ (rowsL rows).length := fm_take _ rows (i + 1)
            rw [HNX.out] at h2
            simp only [List.length_append] at h1 h2 ⊢
            omega)
          have hOS : O.size ≤ 1048576 := by
            rw [HOO.out, ba_size]
            have h1 := HLL.out
            simp only [List.length_append] at h1 ⊢
            omega
          have hcat : ¬ 9223372036854775807 < O.size + 8 := by omega
          have HF : Hid (O ++ ⟨#[115, 101, 115, 115, 105, 111, 110, 10]⟩ = ⟨(((((wSizes.data.toList ++ nL cf) ++ [10]) ++ rowsL (rows.take i)) ++ lineL [wSess]) ++ opsL (r.take 0)).toArray⟩) := Lib.hid (ba_inj (by
            rw [ba_app, ba_list, HOO.out, ba_list]
            show _ = (_ ++ _) ++ []
            rw [List.append_nil]
            rfl))
          have HG2N : Hid ((∀ o ∈ r, OFm o ∧ o.ms.length ≤ 2048) → ∀ r' ∈ rows.take (i + 1), ∀ o ∈ r', OFm o ∧ o.ms.length ≤ 2048) := Lib.hid (fun h r' hr' => by
            rw [List.take_add_one, hr] at hr'
            rcases List.mem_append.1 hr' with hr' | hr'
            · exact HG2.out r' hr'
            · simp at hr'; subst hr'; exact h)
          clear hr hh hx2 hx3 hNN hRL
          go_upto_region 17 with fail
          generalize O ++ ⟨#[115, 101, 115, 115, 105, 111, 110, 10]⟩ = O2 at HF ⊢
          clear c0 c1 c2 c3 c4 c5 c6 c7 c8 c9 c10 hcat hOS
          go_loopw [6, 11] (fun ov iv wr => ∃ j : Nat, j ≤ xs.length ∧ iv = .int .i64 j ∧ Hid (∀ o ∈ r.take j, OFm o ∧ o.ms.length ≤ 2048) ∧ Hid (ov = .string ⟨(((((wSizes.data.toList ++ nL cf) ++ [10]) ++ rowsL (rows.take i)) ++ lineL [wSess]) ++ opsL (r.take j)).toArray⟩) ∧ Below W3.heap.size W3 wr) (fun _ iv _ => xs.length - (intOf iv).toNat)
          case atStart => exact ⟨0, by omega, rfl, Lib.hid (fun v hv => by simp at hv), Lib.hid (by rw [HF.out]), HB3.out⟩
          case round =>
            obtain ⟨j, hj, rfl, HG3, HOV, hbw⟩ := hrel
            have HB93 := Lib.hid hbw
            have HB9 := Lib.hid (bel_trans B3.out hbw)
            clear hbw
            obtain ⟨O3, hO3⟩ : ∃ O3 : ByteArray, O3 = ⟨(((((wSizes.data.toList ++ nL cf) ++ [10]) ++ rowsL (rows.take i)) ++ lineL [wSess]) ++ opsL (r.take j)).toArray⟩ := ⟨_, rfl⟩
            rw [← hO3] at HOV
            (have hov := HOV.out; subst hov; clear HOV)
            have HO3 := Lib.hid hO3
            clear hO3
            have hle := HRL2.out
            have hxl := HXO.out.1
            obtain ⟨c0, c1, c2, c3, c4, c5, c6, c7, c8, c9, c10⟩ := cells11 (keep_bel HB93.out Z3.out)
            obtain ⟨b2, off, hb2, hlt, hc⟩ := (HA.out.later HB9.out).get HHH.out
            subst hb2
            have g9 : wr.cell? ⟨b2, off + i, none⟩ = some (.slice hA2 xs.length hc2) := by simpa [EH] using hc 0 _ rfl
            clear hc
            by_cases h9 : j < xs.length
            · have hj1 : (j : Int) < (xs.length : Int) := by omega
              have hj0 : (0 : Int) ≤ (j : Int) := by omega
              have WJ : IntKind.i64.wrap ((j : Int) + 1) = (j : Int) + 1 := IntWalk.i64_in _ (by omega)
              obtain ⟨o, ho⟩ : ∃ o, r[j]? = some o := ⟨_, List.getElem?_eq_getElem (by omega)⟩
              obtain ⟨x, hx⟩ : ∃ x, xs[j]? = some x := ⟨_, List.getElem?_eq_getElem h9⟩
              obtain ⟨b3, off3, hb3, hlt3, hc3⟩ := (HXR.out.rd.later HB9.out).get hx
              subst hb3
              obtain ⟨e1, e2, e3, e4, e5, e6⟩ := HXO.out.2 j x o hx ho
              obtain ⟨xk, xkey, xtoo, xn, xA, xl, xc⟩ := x
              simp only at e1 e2 e3 e4 e5 e6
              subst e1 e2 e3 e4 e5
              have g0 : wr.cell? ⟨b3, off3 + j * 5, none⟩ = some (.int .u8 o.k) := hc3 0 _ rfl
              have g1 : wr.cell? ⟨b3, off3 + j * 5 + 1, none⟩ = some (.string o.key) := hc3 1 _ rfl
              have g2 : wr.cell? ⟨b3, off3 + j * 5 + 2, none⟩ = some (.string o.too) := hc3 2 _ rfl
              have g3 : wr.cell? ⟨b3, off3 + j * 5 + 3, none⟩ = some (.int .i64 o.n) := hc3 3 _ rfl
              have g4 : wr.cell? ⟨b3, off3 + j * 5 + 4, none⟩ = some (.slice xA o.ms.length xc) := hc3 4 _ rfl
              have HNO := Lib.hid (show opsL (r.take (j + 1)) = opsL (r.take j) ++ opL o from fm_next _ ho)
              have hoz := HO.out r HRM.out o (List.mem_of_getElem? ho)
              by_cases hof : OFm o ∧ o.ms.length ≤ 2048
              rotate_left
              · have HQ := Lib.hid (qop_bad3 o xA xc wr hoz (e6.rd.later HB9.out) hof (HM8.out r HRM.out o (List.mem_of_getElem? ho)))
                unfold OpV.v at HQ
                clear hx ho hc3 e6 hxl hle hof hoz
                go_wp2_with (first
                  | (go_at_call 29; ((with_reducible refine HQ.out.mono ?_); rintro e w8 ⟨⟨er, her, rfl⟩, b8⟩; have B8 := Lib.hid (bel_trans HB9.out b8); have HER := Lib.hid her; have er0 : (er == 0) = false := (by rw [her]; rfl); have er1 : ¬ er = 0 := (by omega); clear b8 her))
                  | fail)
                exact bodyPost_ret (v := .tuple #[.string ⟨#[]⟩, .int .i64 er]) (by simp [results, Tryz.results11, go_sem]) rfl ⟨⟨er, HER.out, rfl⟩, B8.out⟩
              have HQ := Lib.hid (qop_any o xA xc wr hof.1 (ook_of hof.1 hoz) hof.2 (e6.rd.later HB9.out))
              unfold OpV.v at HQ
              have HGN : Hid (∀ q ∈ r.take (j + 1), OFm q ∧ q.ms.length ≤ 2048) := Lib.hid (fun v hv => by
                rw [List.take_add_one, ho] at hv
                rcases List.mem_append.1 hv with hv | hv
                · exact HG3.out v hv
                · simp at hv; subst hv; exact hof)
              obtain ⟨S, hS⟩ : ∃ S : ByteArray, S = ⟨(opL o).toArray⟩ := ⟨_, rfl⟩
              rw [← hS] at HQ
              have HF2 : Hid (O3 ++ S = ⟨(((((wSizes.data.toList ++ nL cf) ++ [10]) ++ rowsL (rows.take i)) ++ lineL [wSess]) ++ opsL (r.take (j + 1))).toArray⟩) := Lib.hid (ba_inj (by rw [ba_app, ba_list, HO3.out, hS, ba_list, ba_list, HNO.out, List.append_assoc _ (opsL (r.take j))]))
              have hcat : ¬ 9223372036854775807 < O3.size + S.size := by
                have h0 := HLL.out
                have h2 : (opsL (r.take (j + 1))).length ≤ (opsL r).length := fm_take _ r (j + 1)
                rw [HNO.out] at h2
                rw [HO3.out, hS, ba_size, ba_size]
                simp only [List.length_append] at h0 h2 ⊢
                omega
              clear hx ho hc3 e6 hxl hle hS hof hoz
              go_wp2_with (first
                | (go_at_call 29; ((with_reducible refine HQ.out.mono ?_); rintro e w8 ⟨rfl, b8⟩; have B8 := Lib.hid (HB93.out.trans (b8.mono HB93.out.size)); clear b8))
                | fail)
              exact ⟨⟨j + 1, by omega, by simp, HGN, Lib.hid (by rw [← HF2.out]), B8.out⟩, by simp [intOf]; omega⟩
            · have hke : j = xs.length := by omega
              subst hke
              have HE := Lib.hid (show r.take xs.length = r from List.take_of_length_le (by omega))
              clear hxl hle
              have hj1 : ¬ (xs.length : Int) < (xs.length : Int) := by omega
              have HF3 : Hid (O3 = ⟨(((wSizes.data.toList ++ nL cf) ++ [10]) ++ rowsL (rows.take (i + 1))).toArray⟩) := Lib.hid (by rw [HO3.out, HE.out, HNX.out]; simp only [List.append_assoc])
              go_wp2
              exact ⟨⟨i + 1, by omega, by simp, Lib.hid (HG2N.out (by rw [← HE.out]; exact HG3.out)), Lib.hid (by rw [← HF3.out]), HB93.out⟩, by simp [intOf]; omega⟩
        · have hke : i = n := by omega
          subst hke
          have hk1 : ¬ (i : Int) < (i : Int) := by omega
          have HE := Lib.hid (show rows.take i = rows from List.take_of_length_le (by omega))
          have hOS : O.size ≤ 1048576 := by
            rw [HOO.out, HE.out, ba_size]
            have h1 := HL.out
            simp only [List.length_append] at h1 ⊢
            omega
          have hcat : ¬ 9223372036854775807 < O.size + 5 := by omega
          have HF : Hid (O ++ ⟨#[112, 105, 99, 107, 115]⟩ = ⟨((((wSizes.data.toList ++ nL cf) ++ [10]) ++ rowsL rows) ++ (wPicks.data.toList ++ nL (picks.take 0))).toArray⟩) := Lib.hid (ba_inj (by
            rw [ba_app, ba_list, HOO.out, HE.out, ba_list]
            show _ = _ ++ (_ ++ [])
            rw [List.append_nil]
            rfl))
          have HG2E : Hid (∀ r ∈ rows, ∀ o ∈ r, OFm o ∧ o.ms.length ≤ 2048) := Lib.hid (by have h := HG2.out; rw [HE.out] at h; exact h)
          clear hNN hRL
          go_upto_region 25 with fail
          generalize O ++ ⟨#[112, 105, 99, 107, 115]⟩ = O2 at HF ⊢
          clear c0 c1 c2 c3 c4 c5 c6 c7 c8 c9 c10 hcat hOS
          go_loopw [6, 14] (fun ov iv w9 => ∃ k : Nat, k ≤ m ∧ iv = .int .i64 k ∧ Hid (∀ v ∈ picks.take k, inR v = true) ∧ Hid (ov = .string ⟨((((wSizes.data.toList ++ nL cf) ++ [10]) ++ rowsL rows) ++ (wPicks.data.toList ++ nL (picks.take k))).toArray⟩) ∧ w9 = wr) (fun _ iv _ => m - (intOf iv).toNat)
          case atStart => exact ⟨0, by omega, rfl, Lib.hid (fun v hv => by simp at hv), Lib.hid (by rw [HF.out]), rfl⟩
          case round =>
            obtain ⟨k, hk, rfl, HG4, HOV, hw⟩ := hrel
            (have hw2 := hw.symm; subst hw2; clear hw)
            obtain ⟨O3, hO3⟩ : ∃ O3 : ByteArray, O3 = ⟨((((wSizes.data.toList ++ nL cf) ++ [10]) ++ rowsL rows) ++ (wPicks.data.toList ++ nL (picks.take k))).toArray⟩ := ⟨_, rfl⟩
            rw [← hO3] at HOV
            (have hov := HOV.out; subst hov; clear HOV)
            have hNN := HN.out
            have hPL := HPL.out
            obtain ⟨c0, c1, c2, c3, c4, c5, c6, c7, c8, c9, c10⟩ := cells11 (keep_bel HB3.out Z3.out)
            have hOS : O3.size ≤ 1048576 := by
              rw [hO3, ba_size]
              have h1 := HL.out
              have h2 : (nL (picks.take k)).length ≤ (nL picks).length := fm_take _ picks k
              simp only [List.length_append] at h1 ⊢
              omega
            by_cases h8 : k < m
            · have hk2 : (k : Int) < (m : Int) := by omega
              have hk0 : (0 : Int) ≤ (k : Int) := by omega
              have WK : IntKind.i64.wrap ((k : Int) + 1) = (k : Int) + 1 := IntWalk.i64_in _ (by omega)
              obtain ⟨x, hx⟩ : ∃ x, picks[k]? = some x := ⟨_, List.getElem?_eq_getElem (by omega)⟩
              obtain ⟨b2, off, hb2, hlt, g0⟩ := ei_at (HP.out.later HB.out) hx
              subst hb2
              by_cases hxr : inR x = true
              rotate_left
              · have HX := Lib.hid (fun W => num_bad hxr (HV1.out x (List.mem_of_getElem? hx)) W)
                have hcat : ¬ 9223372036854775807 < O3.size + 1 := by omega
                clear hx hO3 hNN hPL
                go_wp2_with (first
                  | (go_at_call 28; ((with_reducible refine (HX.out _).mono ?_); rintro e w4 ⟨rfl, hw⟩; (have hw2 := hw.symm; subst hw2; clear hw)))
                  | fail)
                exact bodyPost_ret (v := .tuple #[.string ⟨#[]⟩, .int .i64 3]) (by simp [results, Tryz.results11, go_sem]) rfl ⟨⟨3, rfl, rfl⟩, HB.out⟩
              have HX := Lib.hid (fun W => num_ok hxr W)
              have HXS : Hid ((itoaB x).size ≤ 100) := Lib.hid (by
                have := itoa_21 (HV1.out x (List.mem_of_getElem? hx))
                omega)
              have HGN : Hid (∀ v ∈ picks.take (k + 1), inR v = true) := Lib.hid (fun v hv => by
                rw [List.take_add_one, hx] at hv
                rcases List.mem_append.1 hv with hv | hv
                · exact HG4.out v hv
                · simp at hv; subst hv; exact hxr)
              have HF2 : Hid ((O3 ++ ⟨#[32]⟩) ++ itoaB x = ⟨((((wSizes.data.toList ++ nL cf) ++ [10]) ++ rowsL rows) ++ (wPicks.data.toList ++ nL (picks.take (k + 1)))).toArray⟩) := Lib.hid (ba_inj (by
                rw [ba_app, ba_app, ba_list, hO3, ba_list, itoa_list, show nL (picks.take (k + 1)) = nL (picks.take k) ++ (32 :: Lib.itoa x) from fm_next _ hx]
                simp))
              have hcat : ¬ 9223372036854775807 < O3.size + 1 := by omega
              have hcat2 : ¬ 9223372036854775807 < O3.size + 1 + (itoaB x).size := by have := HXS.out; omega
              generalize itoaB x = N at HX HXS HF2 hcat2
              clear hx hO3 hNN hPL hxr
              go_wp2_with (first
                | (go_at_call 28; ((with_reducible refine (HX.out _).mono ?_); rintro e w4 ⟨rfl, hw⟩; (have hw2 := hw.symm; subst hw2; clear hw)))
                | fail)
              exact ⟨⟨k + 1, by omega, by simp, HGN, Lib.hid (by rw [← HF2.out]), trivial⟩, by simp [intOf]; omega⟩
            · have hke : k = m := by omega
              subst hke
              exfalso
              refine HBAD.out ⟨HG1E.out, HG2E.out, fun v hv => HG4.out v ?_⟩
              rw [List.take_of_length_le (by omega)]
              exact hv
theorem rprint_three {x : ScV} {v : Value} {w : World} (hR : ScR w x v) (hf : FewP x) (hi : ScIn x) (hb : ¬ GoodS x) :
    Calls Tryz.prog 11 #[v] w fun e w' => e = .returned (.tuple #[.string ⟨#[]⟩, .int .i64 3]) ∧ Below w.heap.size w w' := by
  obtain ⟨a0, a1, a2, a3, a4, a5, a6, a7, a8, A, c, B, d, hs, hcf, rfl, hA, hW, hB⟩ := hR.h
  obtain ⟨cf, rows, picks⟩ := x
  simp only at hcf hA hW hB
  subst hcf
  have ht := pr_300 hf hi rfl
  refine (rprint_bad3 a0 a1 a2 a3 a4 a5 a6 a7 a8 A B _ c _ d hs rows picks w hf hi hb (by omega) rfl rfl hA hW hB).mono fun e w' ⟨⟨er, he, h1⟩, h2⟩ => ?_
  subst he
  exact ⟨h1, h2⟩
end Go.Proofs.YtelpkajlejbbgaaGreatDoor
