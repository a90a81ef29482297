/- Texts of the proof, one behind the other. -/
import Derived.Test.YtelpkajlejbbgaaGreatDoorTd17
import Derived.Test.YtelpkajlejbbgaaGreatDoorTd25
import Derived.Test.YtelpkajlejbbgaaGreatDoorTd20
set_option linter.unusedVariables false
set_option linter.unusedSimpArgs false
namespace Go.Proofs.YtelpkajlejbbgaaGreatDoor
open Go.RowKit Go.Maps
/-- A script of good form. -/
structure SFm (x : ScV) : Prop where
  cf : ∀ v ∈ x.cf, inR v = true
  pk : ∀ v ∈ x.picks, inR v = true
  pl : x.picks.length ≤ 900000
  rl : x.rows.length ≤ 900000
  ol : ∀ r ∈ x.rows, r.length ≤ 900000
  op : ∀ r ∈ x.rows, ∀ o ∈ r, OFm o ∧ o.ms.length ≤ 2048
set_option maxHeartbeats 4000000 in
set_option maxRecDepth 100000 in
theorem may_ok (a0 a1 a2 a3 a4 a5 a6 a7 a8 : Int) (A Bp : Option Addr) (n c m d : Nat) (hs : List Hd) (rows : List (List OpV)) (picks : List Int) (w : World) (hg : GW w) (hf : SFm ⟨[a0, a1, a2, a3, a4, a5, a6, a7, a8], rows, picks⟩) (hn : rows.length = n) (hm : picks.length = m) (hA : EH.Rd w A hs) (hR : RowsR w (fun _ => False) hs rows) (hP : EI.Rd w Bp picks) :
    Calls Tryz.prog 21 #[scA a0 a1 a2 a3 a4 a5 a6 a7 a8 A n c Bp m d] w fun e w' => e = .returned (.int .i64 0) ∧ Below w.heap.size w w' := by
  obtain ⟨h1, h2, h3, h4, h5, h6⟩ := hf
  simp only at h1 h2 h3 h4 h5 h6
  rw [hm] at h3
  rw [hn] at h4
  have HG := Lib.hid (GB.of hg)
  have HN := Lib.hid (And.intro hn (And.intro h4 (And.intro hm h3)))
  have HA := Lib.hid hA
  have HR := Lib.hid hR
  have HP := Lib.hid hP
  have H5 := Lib.hid h5
  have H6 := Lib.hid h6
  have HV := Lib.hid (show ∀ v ∈ [a0, a1, a2, a3, a4, a5, a6, a7, a8] ++ picks, inR v = true from fun v hv => by
    rcases List.mem_append.1 hv with hv | hv
    · exact h1 v hv
    · exact h2 v hv)
  clear hg h1 h2 h3 h4 h5 h6 hA hR hP hn hm
  obtain ⟨W0, hW0⟩ : ∃ W0, W0 = w.alloc (.cells #[.int .i64 a0, .int .i64 a1, .int .i64 a2, .int .i64 a3, .int .i64 a4, .int .i64 a5, .int .i64 a6, .int .i64 a7, .int .i64 a8, .slice A n c, .slice Bp m d] 27) := ⟨_, rfl⟩
  have B0 := Lib.hid (show Below w.heap.size w W0 by rw [hW0]; exact alb w _)
  have Z0 := Lib.hid (show W0.heap[w.heap.size]? = some (scO (.int .i64 a0) (.int .i64 a1) (.int .i64 a2) (.int .i64 a3) (.int .i64 a4) (.int .i64 a5) (.int .i64 a6) (.int .i64 a7) (.int .i64 a8) (.slice A n c) (.slice Bp m d)) by rw [hW0]; exact heap_alloc_new w _)
  have up : ∀ V, Below W0.heap.size W0 V → V.cell? ⟨w.heap.size, 0, none⟩ = some (.int .i64 a0) ∧ V.cell? ⟨w.heap.size, 1, none⟩ = some (.int .i64 a1) ∧ V.cell? ⟨w.heap.size, 2, none⟩ = some (.int .i64 a2) ∧ V.cell? ⟨w.heap.size, 3, none⟩ = some (.int .i64 a3) ∧ V.cell? ⟨w.heap.size, 4, none⟩ = some (.int .i64 a4) ∧ V.cell? ⟨w.heap.size, 5, none⟩ = some (.int .i64 a5) ∧ V.cell? ⟨w.heap.size, 6, none⟩ = some (.int .i64 a6) ∧ V.cell? ⟨w.heap.size, 7, none⟩ = some (.int .i64 a7) ∧ V.cell? ⟨w.heap.size, 8, none⟩ = some (.int .i64 a8) ∧ V.cell? ⟨w.heap.size, 9, none⟩ = some (.slice A n c) ∧ V.cell? ⟨w.heap.size, 10, none⟩ = some (.slice Bp m d) := fun V hV => by
    have z := keep_bel hV Z0.out
    exact ⟨cellh z rfl, cellh z rfl, cellh z rfl, cellh z rfl, cellh z rfl, cellh z rfl, cellh z rfl, cellh z rfl, cellh z rfl, cellh z rfl, cellh z rfl⟩
  have UP := Lib.hid up
  obtain ⟨c0, c1, c2, c3, c4, c5, c6, c7, c8, c9, c10⟩ := up W0 (Below.refl _ _)
  clear up
  unfold scA
  go_enter Tryz.func21, Tryz.ntmps21
  go_upto_region 1 with fail
  rw [← hW0]
  clear hW0
  have LN := Lib.hid (show ([a0, a1, a2, a3, a4, a5, a6, a7, a8] : List Int).length = 9 from rfl)
  have HM2 := Lib.hid (And.intro HN.out.2.2.1 HN.out.2.2.2)
  have HM3 := Lib.hid (show m ≤ 1000000 by have := HN.out; omega)
  go_upto_region 3 with (first
    | (go_at_call 23; ((refine (numsof_any a0 a1 a2 a3 a4 a5 a6 a7 a8 _).mono ?_); rintro e w1 ⟨rfl, r1, b1⟩; have B1 := Lib.hid b1; have R1 := Lib.hid r1; have RP := Lib.hid (HP.out.later (bel_trans B0.out b1)); obtain ⟨c0, c1, c2, c3, c4, c5, c6, c7, c8, c9, c10⟩ := UP.out w1 b1; clear r1 b1))
    | (at_builtin; refine RE.wpList_put EI _ rfl (.tmp 14) (.tmp 16) rfl (base := W0.heap.size) (some ⟨W0.heap.size + 1, 0, none⟩) 9 9 _ _ m d picks rfl rfl R1.out LN.out (by omega) B1.out.size HM2.out.1 HM3.out RP.out ?_; intro A3 c3' w5 r1 r2 r3; have R3 := Lib.hid r1; have B5 := Lib.hid (B1.out.trans (RE.Row.below r2 R1.out (Nat.le_refl _) B1.out.size)); clear r1 r2 r3)
    | fail)
  clear c0 c1 c2 c3 c4 c5 c6 c7 c8 c9 c10
  go_loopw [19] (fun iv wr => ∃ i : Nat, i ≤ 9 + m ∧ iv = .int .i64 i ∧ wr = w5) (fun iv _ => 9 + m - (intOf iv).toNat)
  case atStart => exact ⟨0, by omega, rfl, rfl⟩
  case round =>
    obtain ⟨i, hi, rfl, rfl⟩ := hrel
    have hNN := HM2.out
    by_cases h8 : i < 9 + m
    · have hk1 : (i : Int) < 9 + (m : Int) := by omega
      have hk1' : (i : Int) < ((9 + m : Nat) : Int) := by omega
      have hk0 : (0 : Int) ≤ (i : Int) := by omega
      have WK : IntKind.i64.wrap ((i : Int) + 1) = (i : Int) + 1 := IntWalk.i64_in _ (by omega)
      obtain ⟨x, hx⟩ : ∃ x, ([a0, a1, a2, a3, a4, a5, a6, a7, a8] ++ picks)[i]? = some x := ⟨_, List.getElem?_eq_getElem (by rw [List.length_append, LN.out]; omega)⟩
      obtain ⟨b2, off, rfl, hlt, g0⟩ := ei_at R3.out.rd hx
      have HX : Hid (∀ W, Calls Tryz.prog 47 #[.int .i64 x] W fun e w' => e = .returned (.bool true) ∧ w' = W) := Lib.hid (fun W => by have := inR_any x W; rw [HV.out x (List.mem_of_getElem? hx)] at this; exact this)
      clear hx hNN
      go_wp2_with (first
        | (go_at_call 47; ((refine (HX.out _).mono ?_); rintro e w1 ⟨rfl, hw1⟩; (have hw2 := hw1.symm; subst hw2; clear hw1)))
        | fail)
      exact ⟨⟨i + 1, by omega, rfl, trivial⟩, by simp [intOf]; omega⟩
    · have hke : i = 9 + m := by omega
      subst hke
      have hk1 : ¬ ((9 + m : Nat) : Int) < ((9 + m : Nat) : Int) := by omega
      have hk1' : ¬ 9 + (m : Int) < 9 + (m : Int) := by omega
      clear hNN
      obtain ⟨c0, c1, c2, c3, c4, c5, c6, c7, c8, c9, c10⟩ := UP.out _ B5.out
      go_upto_region 10 with fail
      clear c0 c1 c2 c3 c4 c5 c6 c7 c8 c9 c10
      have HB5 := Lib.hid (bel_trans B0.out B5.out)
      go_loopw [6, 30] (fun fv iv wr => ∃ i : Nat, i ≤ n ∧ iv = .int .i64 i ∧ Hid (fv = .bool false) ∧ Below w.heap.size w wr) (fun _ iv _ => n - (intOf iv).toNat)
      case atStart => exact ⟨0, by omega, rfl, Lib.hid rfl, HB5.out⟩
      case round =>
        obtain ⟨i, hi, rfl, HFV, hbw⟩ := hrel
        (have hfv := HFV.out; subst hfv; clear HFV)
        have HB := Lib.hid hbw
        clear hbw
        have hNN := HN.out
        by_cases h8 : i < n
        · have hk1 : (i : Int) < (n : Int) := by omega
          have hk0 : (0 : Int) ≤ (i : Int) := by omega
          have WK : IntKind.i64.wrap ((i : Int) + 1) = (i : Int) + 1 := IntWalk.i64_in _ (by omega)
          obtain ⟨r, hr⟩ : ∃ r, rows[i]? = some r := ⟨_, List.getElem?_eq_getElem (by omega)⟩
          obtain ⟨h, hh⟩ : ∃ h, hs[i]? = some h := ⟨_, List.getElem?_eq_getElem (by rw [HR.out.1]; omega)⟩
          obtain ⟨b2, off, rfl, hlt, hc⟩ := (HA.out.later HB.out).get hh
          obtain ⟨xs, hx1, hx2, hx3⟩ := HR.out.2 i h r hh hr
          obtain ⟨hA2, hn2, hc2⟩ := h
          simp only at hx1 hx2
          subst hx1
          have g0 : wr.cell? ⟨b2, off + i, none⟩ = some (.slice hA2 xs.length hc2) := by simpa [EH] using hc 0 _ rfl
          have HXR := Lib.hid hx2
          have HXO := Lib.hid hx3
          have HRM := Lib.hid (List.mem_of_getElem? hr)
          have HRL := Lib.hid (H5.out r (List.mem_of_getElem? hr))
          clear hr hh hc hx2 hx3 hNN
          go_upto_region 13 with fail
          go_loopw [6, 36] (fun fv iv wr => ∃ i : Nat, i ≤ xs.length ∧ iv = .int .i64 i ∧ Hid (fv = .bool false) ∧ Below w.heap.size w wr) (fun _ iv _ => xs.length - (intOf iv).toNat)
          case atStart => exact ⟨0, by omega, rfl, Lib.hid rfl, HB.out⟩
          case round =>
            obtain ⟨j, hj, rfl, HFV, hbw⟩ := hrel
            (have hfv := HFV.out; subst hfv; clear HFV)
            have HB9 := Lib.hid hbw
            clear hbw
            have hle := HRL.out
            have hxl := HXO.out.1
            by_cases h9 : j < xs.length
            · have hk1 : (j : Int) < (xs.length : Int) := by omega
              have hk0 : (0 : Int) ≤ (j : Int) := by omega
              have WK : IntKind.i64.wrap ((j : Int) + 1) = (j : Int) + 1 := IntWalk.i64_in _ (by omega)
              obtain ⟨o, ho⟩ : ∃ o, r[j]? = some o := ⟨_, List.getElem?_eq_getElem (by omega)⟩
              obtain ⟨x, hx⟩ : ∃ x, xs[j]? = some x := ⟨_, List.getElem?_eq_getElem h9⟩
              obtain ⟨b3, off3, rfl, hlt3, hc3⟩ := (HXR.out.rd.later HB9.out).get hx
              obtain ⟨e1, e2, e3, e4, e5, e6⟩ := HXO.out.2 j x o hx ho
              obtain ⟨hof, hol⟩ := H6.out r HRM.out o (List.mem_of_getElem? ho)
              obtain ⟨xk, xkey, xtoo, xn, xA, xl, xc⟩ := x
              simp only at e1 e2 e3 e4 e5 e6
              subst e1 e2 e3 e4 e5
              have g0 : wr.cell? ⟨b3, off3 + j * 5, none⟩ = some (.int .u8 o.k) := hc3 0 _ rfl
              have g1 : wr.cell? ⟨b3, off3 + j * 5 + 1, none⟩ = some (.string o.key) := hc3 1 _ rfl
              have g2 : wr.cell? ⟨b3, off3 + j * 5 + 2, none⟩ = some (.string o.too) := hc3 2 _ rfl
              have g3 : wr.cell? ⟨b3, off3 + j * 5 + 3, none⟩ = some (.int .i64 o.n) := hc3 3 _ rfl
              have g4 : wr.cell? ⟨b3, off3 + j * 5 + 4, none⟩ = some (.slice xA o.ms.length xc) := hc3 4 _ rfl
              have HK9 := Lib.hid (show decide ((2048 : Int) < (o.ms.length : Int)) = false by simp; omega)
              have HF := Lib.hid (fun W (hW : Below w.heap.size w W) => formed_ok o xA xc W (HG.out.later hW).gw hof (e6.rd.later hW) (by omega))
              unfold OpV.v at HF
              have ZB := Lib.hid (heap_alloc_new wr (.cells #[.int .u8 o.k, .string o.key, .string o.too, .int .i64 o.n, .slice xA o.ms.length xc] 47))
              have HB10 := Lib.hid (bel_alloc HB9.out (.cells #[.int .u8 o.k, .string o.key, .string o.too, .int .i64 o.n, .slice xA o.ms.length xc] 47))
              clear hx ho hc3 e6 hof hol hxl hle
              go_wp2_with (first
                | (go_at_call 48; ((refine (HF.out _ HB10.out).mono ?_); rintro e w8 ⟨rfl, b8⟩; have B8 := Lib.hid (bel_trans HB10.out b8); obtain ⟨c0, c1, c2, c3, c4⟩ := cells5 (keep_bel b8 ZB.out); clear b8))
                | fail)
              exact ⟨⟨j + 1, by omega, rfl, Lib.hid (congrArg Value.bool HK9.out), B8.out⟩, by simp [intOf]; omega⟩
            · have hke : j = xs.length := by omega
              subst hke
              clear hxl hle
              have hk1 : ¬ (xs.length : Int) < (xs.length : Int) := by omega
              go_wp2
              exact ⟨⟨i + 1, by omega, rfl, Lib.hid rfl, HB9.out⟩, by simp [intOf]; omega⟩
        · have hke : i = n := by omega
          subst hke
          have hk1 : ¬ (i : Int) < (i : Int) := by omega
          clear hNN
          go_wp2
          refine bodyPost_ret (v := .int .i64 0) (by simp [results, Tryz.results21, go_sem]) rfl ⟨rfl, HB.out⟩
end Go.Proofs.YtelpkajlejbbgaaGreatDoor
namespace Go.Proofs.YtelpkajlejbbgaaGreatDoor
open Go.RowKit Go.Maps
def opsL (os : List OpV) : List UInt8 := os.flatMap opL
def rowsL (rows : List (List OpV)) : List UInt8 := rows.flatMap (fun r => lineL [wSess] ++ opsL r)
/-- A script's text. -/
def prL (x : ScV) : List UInt8 := (lineL (wSizes :: x.cf.map itoaB) ++ rowsL x.rows) ++ lineL (wPicks :: x.picks.map itoaB)
theorem fm_take {α : Type} (f : α → List UInt8) (xs : List α) (k : Nat) : ((xs.take k).flatMap f).length ≤ (xs.flatMap f).length := by
  have e : xs.flatMap f = (xs.take k).flatMap f ++ (xs.drop k).flatMap f := by rw [← List.flatMap_append, List.take_append_drop]
  rw [e, List.length_append]
  omega
theorem fm_next {α : Type} (f : α → List UInt8) {xs : List α} {k : Nat} {x : α} (h : xs[k]? = some x) : (xs.take (k + 1)).flatMap f = (xs.take k).flatMap f ++ f x := by
  rw [List.take_add_one, h, List.flatMap_append]
  simp
theorem line_ne (ws : List ByteArray) : lineL ws ≠ [] := by unfold lineL; simp
set_option maxHeartbeats 4000000 in
set_option maxRecDepth 100000 in
theorem print_ok (a0 a1 a2 a3 a4 a5 a6 a7 a8 : Int) (A Bp : Option Addr) (n c m d : Nat) (hs : List Hd) (rows : List (List OpV)) (picks : List Int) (w : World) (hg : GW w) (hf : SFm ⟨[a0, a1, a2, a3, a4, a5, a6, a7, a8], rows, picks⟩) (ho : ∀ r ∈ rows, ∀ o ∈ r, OOk o) (ht : (prL ⟨[a0, a1, a2, a3, a4, a5, a6, a7, a8], rows, picks⟩).length ≤ 1048576) (hn : rows.length = n) (hm : picks.length = m) (hA : EH.Rd w A hs) (hR : RowsR w (fun _ => False) hs rows) (hP : EI.Rd w Bp picks) :
    Calls Tryz.prog 10 #[scA a0 a1 a2 a3 a4 a5 a6 a7 a8 A n c Bp m d] w fun e w' => e = .returned (.tuple #[.string ⟨(prL ⟨[a0, a1, a2, a3, a4, a5, a6, a7, a8], rows, picks⟩).toArray⟩, .int .i64 0]) ∧ Below w.heap.size w w' := by
  obtain ⟨T, hT⟩ : ∃ T, prL ⟨[a0, a1, a2, a3, a4, a5, a6, a7, a8], rows, picks⟩ = T := ⟨_, rfl⟩
  obtain ⟨S0, hS0⟩ : ∃ S0, lineL (wSizes :: ([a0, a1, a2, a3, a4, a5, a6, a7, a8] : List Int).map itoaB) = S0 := ⟨_, rfl⟩
  obtain ⟨S1, hS1⟩ : ∃ S1, lineL (wPicks :: picks.map itoaB) = S1 := ⟨_, rfl⟩
  have hT2 : (S0 ++ rowsL rows) ++ S1 = T := by rw [← hT, ← hS0, ← hS1]; rfl
  have hS1n : S1 ≠ [] := by rw [← hS1]; exact line_ne _
  rw [hT] at ht ⊢
  have inr : ∀ v : Int, inR v = true → -9223372036854775808 ≤ v ∧ v ≤ 9223372036854775807 := fun v hv => by
    unfold inR at hv
    simp only [Bool.and_eq_true, decide_eq_true_eq] at hv
    omega
  have HV0 := Lib.hid (fun v hv => inr v (hf.cf v hv))
  have HV1 := Lib.hid (fun v hv => inr v (hf.pk v hv))
  have HPL := Lib.hid (show m ≤ 900000 by have := hf.pl; simp only at this; omega)
  have HRL := Lib.hid (show n ≤ 900000 by have := hf.rl; simp only at this; omega)
  have H5 := Lib.hid hf.ol
  have HF := Lib.hid hf
  have HO := Lib.hid ho
  have HN := Lib.hid (And.intro hn hm)
  have HA := Lib.hid hA
  have HR := Lib.hid hR
  have HP := Lib.hid hP
  have HS0 := Lib.hid hS0
  have HS1 := Lib.hid hS1
  have HT := Lib.hid hT2
  have HNE := Lib.hid (show T ≠ [] by rw [← hT2]; simp [hS1n])
  have HLT : Hid ((S0 ++ rowsL rows).length ≤ 1048576) := Lib.hid (by rw [← hT2, List.length_append] at ht; omega)
  have HTL := Lib.hid ht
  clear hf ho hn hm hA hR hP hS0 hS1 hT hT2 hS1n ht inr
  obtain ⟨W0, hW0⟩ : ∃ W0, W0 = w.alloc (.cells #[.int .i64 a0, .int .i64 a1, .int .i64 a2, .int .i64 a3, .int .i64 a4, .int .i64 a5, .int .i64 a6, .int .i64 a7, .int .i64 a8, .slice A n c, .slice Bp m d] 27) := ⟨_, rfl⟩
  have B0 := Lib.hid (show Below w.heap.size w W0 by rw [hW0]; exact alb w _)
  have HGW := Lib.hid (hg.later B0.out)
  clear hg
  have Z0 := Lib.hid (show W0.heap[w.heap.size]? = some (scO (.int .i64 a0) (.int .i64 a1) (.int .i64 a2) (.int .i64 a3) (.int .i64 a4) (.int .i64 a5) (.int .i64 a6) (.int .i64 a7) (.int .i64 a8) (.slice A n c) (.slice Bp m d)) by rw [hW0]; exact heap_alloc_new w _)
  have up : ∀ V, Below W0.heap.size W0 V → V.cell? ⟨w.heap.size, 0, none⟩ = some (.int .i64 a0) ∧ V.cell? ⟨w.heap.size, 1, none⟩ = some (.int .i64 a1) ∧ V.cell? ⟨w.heap.size, 2, none⟩ = some (.int .i64 a2) ∧ V.cell? ⟨w.heap.size, 3, none⟩ = some (.int .i64 a3) ∧ V.cell? ⟨w.heap.size, 4, none⟩ = some (.int .i64 a4) ∧ V.cell? ⟨w.heap.size, 5, none⟩ = some (.int .i64 a5) ∧ V.cell? ⟨w.heap.size, 6, none⟩ = some (.int .i64 a6) ∧ V.cell? ⟨w.heap.size, 7, none⟩ = some (.int .i64 a7) ∧ V.cell? ⟨w.heap.size, 8, none⟩ = some (.int .i64 a8) ∧ V.cell? ⟨w.heap.size, 9, none⟩ = some (.slice A n c) ∧ V.cell? ⟨w.heap.size, 10, none⟩ = some (.slice Bp m d) := fun V hV => by
    have z := keep_bel hV Z0.out
    exact ⟨cellh z rfl, cellh z rfl, cellh z rfl, cellh z rfl, cellh z rfl, cellh z rfl, cellh z rfl, cellh z rfl, cellh z rfl, cellh z rfl, cellh z rfl⟩
  have UP := Lib.hid up
  obtain ⟨c0, c1, c2, c3, c4, c5, c6, c7, c8, c9, c10⟩ := up W0 (Below.refl _ _)
  clear up
  have MAY := Lib.hid (may_ok a0 a1 a2 a3 a4 a5 a6 a7 a8 A Bp n c m d hs rows picks W0 HGW.out HF.out HN.out.1 HN.out.2 (HA.out.later B0.out) (HR.out.chg (Chg.of_below (D := fun _ => False) B0.out) (fun _ e => e)) (HP.out.later B0.out))
  unfold scA at MAY ⊢
  go_enter Tryz.func10, Tryz.ntmps10
  go_upto_region 1 with fail
  rw [← hW0]
  clear hW0
  go_upto_region 4 with (first
    | (go_at_call 21; ((refine MAY.out.mono ?_); rintro e w1 ⟨rfl, b1⟩; have B1 := Lib.hid b1; clear b1))
    | fail)
  clear c0 c1 c2 c3 c4 c5 c6 c7 c8 c9 c10
  obtain ⟨B, hB⟩ : ∃ B, B = w1.heap.size := ⟨_, rfl⟩
  obtain ⟨W2, hW2⟩ : ∃ W2, W2 = w1.alloc (.cells #[.pointer none, .slice none 0 0] 59) := ⟨_, rfl⟩
  have D2 := Lib.hid (show Bd 59 B B [] W2 by rw [hW2, hB]; exact Bd.new59 w1)
  have HB2 := Lib.hid (show Below W0.heap.size W0 W2 by rw [hW2]; exact bel_alloc B1.out _)
  have HBS := Lib.hid (show B < W2.heap.size by rw [hW2, hB]; simp)
  have HBW0 := Lib.hid (show W0.heap.size ≤ B by rw [hB]; exact B1.out.size)
  have HG2 := Lib.hid (show GB B W2 by rw [hW2, hB]; exact (GB.of (HGW.out.later B1.out)).later (alb w1 _))
  go_upto_region 5 with fail
  rw [← hW2, ← hB]
  clear hW2 hB
  obtain ⟨c0, c1, c2, c3, c4, c5, c6, c7, c8, c9, c10⟩ := UP.out W2 HB2.out
  go_upto_region 7 with (first
    | (go_at_call 23; ((refine (numsof_any a0 a1 a2 a3 a4 a5 a6 a7 a8 _).mono ?_); rintro e w3 ⟨rfl, r3, b3⟩; have B3 := Lib.hid b3; have R3 := Lib.hid r3; clear r3 b3))
    | (go_at_call 22; ((refine (numbers_any B B wSizes (some ⟨W2.heap.size + 1, 0, none⟩) 9 9 [a0, a1, a2, a3, a4, a5, a6, a7, a8] [] w3 (HG2.out.later B3.out) rfl (by omega) R3.out.rd HV0.out (by decide) (D2.out.bel B3.out) (Nat.lt_of_lt_of_le HBS.out B3.out.size) (by simp)).mono ?_); rintro e w4 ⟨rfl, p4⟩; have P4 := Lib.hid (show PK B B (S0 ++ rowsL (rows.take 0)) W2 w4 by rw [show rowsL (rows.take 0) = [] from rfl, List.append_nil, ← HS0.out]; exact ((PK.start D2.out).later B3.out HG2.out.le).then p4); obtain ⟨c0, c1, c2, c3, c4, c5, c6, c7, c8, c9, c10⟩ := UP.out w4 (HB2.out.trans (P4.out.bl.mono HBW0.out)); clear p4))
    | fail)
  clear c0 c1 c2 c3 c4 c5 c6 c7 c8 c9 c10
  go_loopw [25] (fun iv wr => ∃ i : Nat, i ≤ n ∧ iv = .int .i64 i ∧ PK B B (S0 ++ rowsL (rows.take i)) W2 wr) (fun iv _ => n - (intOf iv).toNat)
  case atStart => exact ⟨0, by omega, rfl, P4.out⟩
  case round =>
    obtain ⟨i, hi, rfl, hpk⟩ := hrel
    have HPK := Lib.hid hpk
    clear hpk
    have HB0w := Lib.hid (show Below W0.heap.size W0 wr from HB2.out.trans (HPK.out.bl.mono HBW0.out))
    have HB := Lib.hid (show Below w.heap.size w wr from bel_trans B0.out HB0w.out)
    have HBW := Lib.hid (show B < wr.heap.size from Nat.lt_of_lt_of_le HBS.out HPK.out.bl.size)
    have HGr := Lib.hid (HG2.out.bel HPK.out.bl)
    have hNN := HN.out
    by_cases h8 : i < n
    · have hk1 : (i : Int) < (n : Int) := by omega
      have hk0 : (0 : Int) ≤ (i : Int) := by omega
      have hRL := HRL.out
      have WK : IntKind.i64.wrap ((i : Int) + 1) = (i : Int) + 1 := IntWalk.i64_in _ (by omega)
      obtain ⟨r, hr⟩ : ∃ r, rows[i]? = some r := ⟨_, List.getElem?_eq_getElem (by omega)⟩
      obtain ⟨h, hh⟩ : ∃ h, hs[i]? = some h := ⟨_, List.getElem?_eq_getElem (by rw [HR.out.1]; omega)⟩
      obtain ⟨b2, off, rfl, hlt, hc⟩ := (HA.out.later HB.out).get hh
      obtain ⟨xs, hx1, hx2, hx3⟩ := HR.out.2 i h r hh hr
      obtain ⟨hA2, hn2, hc2⟩ := h
      simp only at hx1 hx2
      subst hx1
      have g0 : wr.cell? ⟨b2, off + i, none⟩ = some (.slice hA2 xs.length hc2) := by simpa [EH] using hc 0 _ rfl
      have HXR := Lib.hid hx2
      have HXO := Lib.hid hx3
      have HRM := Lib.hid (List.mem_of_getElem? hr)
      have HRL2 := Lib.hid (H5.out r (List.mem_of_getElem? hr))
      have HNX := Lib.hid (show rowsL (rows.take (i + 1)) = rowsL (rows.take i) ++ (lineL [wSess] ++ opsL r) from fm_next _ hr)
      have HLL := Lib.hid (show (((S0 ++ rowsL (rows.take i)) ++ lineL [wSess]) ++ opsL r).length ≤ 1048576 by
        have h1 := HLT.out
        have h2 : (rowsL (rows.take (i + 1))).length ≤ (rowsL rows).length := fm_take _ rows (i + 1)
        rw [HNX.out] at h2
        simp only [List.length_append] at h1 h2 ⊢
        omega)
      clear hr hh hc hx2 hx3 hNN hRL
      go_upto_region 11 with (first
        | (go_at_call 24; ((refine (line_any B B _ 1 1 [wSess] (S0 ++ rowsL (rows.take i)) _ rfl (by omega) (WB.lit wr #[.string wSess] [wSess] rfl) (HPK.out.later (alb wr _) (Nat.le_of_lt HBW.out)).d (Nat.le_trans (Nat.le_of_lt HBW.out) (alb wr _).size) (by have h1 := HLL.out; simp only [List.length_append] at h1 ⊢; omega) (by intro x hx; simp only [List.mem_cons, List.not_mem_nil, or_false] at hx; subst hx; decide) (by have := HBW.out; omega)).mono ?_); rintro e w5 ⟨rfl, p5⟩; have P5 := Lib.hid ((HPK.out.later (alb wr (.cells #[.string wSess] 9)) (Nat.le_of_lt HBW.out)).then p5); clear p5))
        | fail)
      go_loopw [34] (fun iv wr => ∃ j : Nat, j ≤ xs.length ∧ iv = .int .i64 j ∧ PK B B (((S0 ++ rowsL (rows.take i)) ++ lineL [wSess]) ++ opsL (r.take j)) W2 wr) (fun iv _ => xs.length - (intOf iv).toNat)
      case atStart => exact ⟨0, by omega, rfl, by rw [show opsL (r.take 0) = [] from rfl, List.append_nil]; exact P5.out⟩
      case round =>
        obtain ⟨j, hj, rfl, hpk⟩ := hrel
        have HP9 := Lib.hid hpk
        clear hpk
        have HB90 := Lib.hid (show Below W0.heap.size W0 wr from HB2.out.trans (HP9.out.bl.mono HBW0.out))
        have HB9 := Lib.hid (show Below w.heap.size w wr from bel_trans B0.out HB90.out)
        have HBW9 := Lib.hid (show B < wr.heap.size from Nat.lt_of_lt_of_le HBS.out HP9.out.bl.size)
        have HG9 := Lib.hid (HG2.out.bel HP9.out.bl)
        have hle := HRL2.out
        have hxl := HXO.out.1
        by_cases h9 : j < xs.length
        · have hk1 : (j : Int) < (xs.length : Int) := by omega
          have hk0 : (0 : Int) ≤ (j : Int) := by omega
          have WK : IntKind.i64.wrap ((j : Int) + 1) = (j : Int) + 1 := IntWalk.i64_in _ (by omega)
          obtain ⟨o, ho⟩ : ∃ o, r[j]? = some o := ⟨_, List.getElem?_eq_getElem (by omega)⟩
          obtain ⟨x, hx⟩ : ∃ x, xs[j]? = some x := ⟨_, List.getElem?_eq_getElem h9⟩
          obtain ⟨b3, off3, rfl, hlt3, hc3⟩ := (HXR.out.rd.later HB9.out).get hx
          obtain ⟨e1, e2, e3, e4, e5, e6⟩ := HXO.out.2 j x o hx ho
          have HOO := Lib.hid (HO.out r HRM.out o (List.mem_of_getElem? ho))
          obtain ⟨xk, xkey, xtoo, xn, xA, xl, xc⟩ := x
          simp only at e1 e2 e3 e4 e5 e6
          subst e1 e2 e3 e4 e5
          have g0 : wr.cell? ⟨b3, off3 + j * 5, none⟩ = some (.int .u8 o.k) := hc3 0 _ rfl
          have g1 : wr.cell? ⟨b3, off3 + j * 5 + 1, none⟩ = some (.string o.key) := hc3 1 _ rfl
          have g2 : wr.cell? ⟨b3, off3 + j * 5 + 2, none⟩ = some (.string o.too) := hc3 2 _ rfl
          have g3 : wr.cell? ⟨b3, off3 + j * 5 + 3, none⟩ = some (.int .i64 o.n) := hc3 3 _ rfl
          have g4 : wr.cell? ⟨b3, off3 + j * 5 + 4, none⟩ = some (.slice xA o.ms.length xc) := hc3 4 _ rfl
          have HNO := Lib.hid (show opsL (r.take (j + 1)) = opsL (r.take j) ++ opL o from fm_next _ ho)
          have HLO := Lib.hid (show ((((S0 ++ rowsL (rows.take i)) ++ lineL [wSess]) ++ opsL (r.take j)) ++ opL o).length ≤ 1048576 by
            have h1 := HLL.out
            have h2 : (opsL (r.take (j + 1))).length ≤ (opsL r).length := fm_take _ r (j + 1)
            rw [HNO.out] at h2
            simp only [List.length_append] at h1 h2 ⊢
            omega)
          have HE6 := Lib.hid (fun V (hV : Below w.heap.size w V) => e6.rd.later hV)
          have HBl := Lib.hid (show w.heap.size ≤ B from Nat.le_trans B0.out.size HBW0.out)
          have POP := Lib.hid (pop_any B B o xA xc _ (wr.alloc (.cells #[.int .u8 o.k, .string o.key, .string o.too, .int .i64 o.n, .slice xA o.ms.length xc] 47)) (HG9.out.later (alb wr _)) HOO.out (fun V hV => HE6.out V ((HB9.out.trans ((alb wr _).mono HB9.out.size)).trans (hV.mono HBl.out))) (HP9.out.later (alb wr _) (Nat.le_of_lt HBW9.out)).d (Nat.lt_of_lt_of_le HBW9.out (alb wr _).size) HLO.out)
          unfold OpV.v at POP
          clear hx ho hc3 e6 hxl hle
          go_wp2_with (first
            | (go_at_call 25; ((refine POP.out.mono ?_); rintro e w8 ⟨rfl, p8⟩; have P8 := Lib.hid ((HP9.out.later (alb wr _) (Nat.le_of_lt HBW9.out)).then p8); clear p8))
            | fail)
          exact ⟨⟨j + 1, by omega, rfl, by rw [HNO.out, ← List.append_assoc]; exact P8.out⟩, by simp [intOf]; omega⟩
        · have hke : j = xs.length := by omega
          subst hke
          have HE := Lib.hid (show r.take xs.length = r from List.take_of_length_le (by omega))
          clear hxl hle
          have hk1 : ¬ (xs.length : Int) < (xs.length : Int) := by omega
          have P9 := Lib.hid (show PK B B (S0 ++ rowsL (rows.take (i + 1))) W2 wr by
            have h := HP9.out
            rw [HE.out] at h
            rw [HNX.out]
            simpa only [List.append_assoc] using h)
          go_wp2
          exact ⟨⟨i + 1, by omega, rfl, P9.out⟩, by simp [intOf]; omega⟩
    · have hke : i = n := by omega
      subst hke
      have hk1 : ¬ (i : Int) < (i : Int) := by omega
      have PE := Lib.hid (show PK B B (S0 ++ rowsL rows) W2 wr by
        have h := HPK.out
        rw [List.take_of_length_le (by omega)] at h
        exact h)
      obtain ⟨c0, c1, c2, c3, c4, c5, c6, c7, c8, c9, c10⟩ := UP.out wr HB0w.out
      have hTL : ¬ (1048576 : Int) < (T.length : Int) := by have := HTL.out; omega
      clear hNN
      go_wp2_with (first
        | (go_at_call 22; ((refine (numbers_any B B wPicks Bp m d picks (S0 ++ rowsL rows) wr HGr.out HN.out.2 HPL.out (HP.out.later HB.out) HV1.out (by decide) PE.out.d HBW.out HLT.out).mono ?_); rintro e w6 ⟨rfl, p6⟩; have P6 := Lib.hid (show PK B B T W2 w6 by rw [← HT.out, ← HS1.out]; exact PE.out.then p6); clear p6))
        | (go_at_call 26; ((refine (len_any B B T w6 P6.out.d).mono ?_); rintro e w7 ⟨rfl, hw⟩; (have hw2 := hw.symm; subst hw2; clear hw)))
        | (go_at_call 27; ((refine (string_some B B T w6 P6.out.d HNE.out).mono ?_); rintro e w8 ⟨rfl, b8, o8⟩; have B8 := Lib.hid (P6.out.bl.trans b8); clear b8 o8))
        | fail)
      refine bodyPost_ret (v := .tuple #[.string ⟨T.toArray⟩, .int .i64 0]) (by simp [results, Tryz.results10, go_sem]) rfl ⟨rfl, bel_trans B0.out (HB2.out.trans (B8.out.mono HBW0.out))⟩
end Go.Proofs.YtelpkajlejbbgaaGreatDoor
