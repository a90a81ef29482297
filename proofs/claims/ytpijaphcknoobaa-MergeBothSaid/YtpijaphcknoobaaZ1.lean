/- The law MergePicks: things for which something is so, and what becomes of each. -/
import Derived.Test.YtpijaphcknoobaaY9
namespace Go.Proofs.Ytpijaphcknoobaa
set_option linter.unusedSimpArgs false
open Go.RowKit Go.Shelf
set_option linter.unusedVariables false

def lessB (n : Int) (x : TT) : Bool := decide (x.1 < n)
set_option maxHeartbeats 1000000 in
theorem less_any (n : Int) (bn : Nat) (x : TT) (w : World) (hb : Boxed w bn 3 (.int .i64 n)) : Calls Try.prog 25 (enc x ++ #[.pointer (some ⟨bn, 0, none⟩)]) w fun e w' => e = .returned (.bool (lessB n x)) ∧ Below w.heap.size w w' := by
  have HB : Hid (Below w.heap.size w (w.alloc (kv x))) := Lib.hid (bel_alloc (Below.refl _ _) _)
  have cb := (boxed_later hb HB.out).cell
  have cb0 := hb.cell
  have lt := hb.lt
  clear hb
  obtain ⟨x0, x1⟩ := x
  by_cases h1 : x0 < n
  · have e : Hid (lessB n (x0, x1) = true) := Lib.hid (decide_eq_true h1)
    rw [e.out]
    go_enter Try.func25, Try.ntmps25
    go_wp2
    go_ret
    exact ⟨rfl, HB.out⟩
  · have e : Hid (lessB n (x0, x1) = false) := Lib.hid (decide_eq_false h1)
    rw [e.out]
    go_enter Try.func25, Try.ntmps25
    go_wp2
    go_ret
    exact ⟨rfl, HB.out⟩
set_option maxHeartbeats 1000000 in
theorem mark_any (x : TT) (w : World) : Calls Try.prog 26 (enc x ++ #[]) w fun e w' => e = .returned (.int .i64 x.2) ∧ Below w.heap.size w w' := by
  have HB : Hid (Below w.heap.size w (w.alloc (kv x))) := Lib.hid (bel_alloc (Below.refl _ _) _)
  obtain ⟨x0, x1⟩ := x
  go_enter Try.func26, Try.ntmps26
  go_wp2
  go_ret
  exact ⟨rfl, HB.out⟩
set_option maxRecDepth 100000 in
set_option maxHeartbeats 4000000 in
theorem picks_any (A : Option Addr) (len cap : Nat) (xs : List TT) (n : Int) (W : World) (hl : xs.length = len) (hc : len ≤ cap) (hc9 : cap ≤ 9223372036854775807) (hR : RdT W A xs) :
    Calls Try.prog 6 #[.slice A len cap, .int .i64 n] W fun e W' => e = .returned (.bool true) ∧ Below W.heap.size W W' := by
  obtain ⟨m, hm⟩ : ∃ m, m = min len 20 := ⟨_, rfl⟩
  obtain ⟨ys, hys⟩ : ∃ ys, ys = xs.take m := ⟨_, rfl⟩
  have hlen : ys.length = m := by rw [hys, List.length_take]; omega
  have hm20 : m ≤ 20 := by omega
  have hRy : RdT W A ys := by rw [hys]; exact rdt_take hR m
  obtain ⟨V, hV⟩ : ∃ V, V = W.alloc (.cells #[.int .i64 n] 3) := ⟨_, rfl⟩
  have bV : Below W.heap.size W V := by rw [hV]; exact bel_alloc (Below.refl _ _) _
  have bxV : Boxed V W.heap.size 3 (.int .i64 n) := by rw [hV]; exact Boxed.new W 3 _
  have HF := Lib.hid (few_any A len cap V hc hc9)
  rw [← hm] at HF
  have HY : Hid (∀ U, Below V.heap.size V U → RdT U A ys) := Lib.hid (fun U hU => Rd.later hRy (bel_trans bV hU))
  have HOf : Hid (∀ U, Below V.heap.size V U → Calls Try.prog 21 #[.slice A m cap] U (SeqBack Try.prog 41 U ys)) := Lib.hid (fun U hU => of_any A cap m ys hlen (by omega) U (HY.out U hU))
  have E41 := Lib.hid (enters_of Try.func41 (by kernel_rfl) rfl)
  have E45 := Lib.hid (enters_of Try.func45 (by kernel_rfl) rfl)
  have E49 := Lib.hid (enters_of Try.func49 (by kernel_rfl) rfl)
  have E25 := Lib.hid (enters_of Try.func25 (by kernel_rfl) rfl)
  have E26 := Lib.hid (enters_of Try.func26 (by kernel_rfl) rfl)
  have HLEN := Lib.hid hlen
  have BX := Lib.hid bxV
  have BV := Lib.hid bV
  obtain ⟨ta, hta⟩ : ∃ ta, ta = ys.filter (lessB n) := ⟨_, rfl⟩
  obtain ⟨tb, htb⟩ : ∃ tb, tb = ys.map Prod.snd := ⟨_, rfl⟩
  have LS : Hid (∀ U, Below V.heap.size V U → ∀ (x : TT) U', Below U.heap.size U U' → Calls Try.prog 25 (enc x ++ #[.pointer (some ⟨W.heap.size, 0, none⟩)]) U' fun e w' => e = .returned (.bool (lessB n x)) ∧ Below U'.heap.size U' w') := Lib.hid (fun U hU x U' hU' => less_any n W.heap.size x U' (boxed_later BX.out (bel_trans hU hU')))
  have HWH : Hid (∀ lb U, Below V.heap.size V U → SeqF Try.prog 41 lb enc ys U → Calls Try.prog 27 #[.func (.func 41) #[] lb, .func (.func 25) #[] #[.pointer (some ⟨W.heap.size, 0, none⟩)]] U (SeqBack Try.prog 45 U ta)) := Lib.hid (fun lb U hU hs => by
    rw [hta]; exact where_any (.inr ⟨41, lb, rfl, E41.out, hs⟩) (fun cs => by simp) E25.out (LS.out U hU))
  have HWN : Hid (∀ U, Below V.heap.size V U → Calls Try.prog 27 #[.nilFunc, .func (.func 25) #[] #[.pointer (some ⟨W.heap.size, 0, none⟩)]] U (SeqBack Try.prog 45 U [])) := Lib.hid (fun U hU =>
    where_any (sv := .nilFunc) (xs := []) (p := lessB n) (.inl ⟨rfl, rfl⟩) (fun cs => by simp) E25.out (LS.out U hU))
  have HMP : Hid (∀ lb U, SeqF Try.prog 41 lb enc ys U → Calls Try.prog 29 #[.func (.func 41) #[] lb, .func (.func 26) #[] #[]] U (I.SeqBack Try.prog 49 U tb)) := Lib.hid (fun lb U hs => by
    rw [htb]; exact map_any (mk := Prod.snd) (.inr ⟨41, lb, rfl, E41.out, hs⟩) E26.out (fun x U' _ => mark_any x U'))
  have HMN : Hid (∀ U, Calls Try.prog 29 #[.nilFunc, .func (.func 26) #[] #[]] U (I.SeqBack Try.prog 49 U [])) := Lib.hid (fun U =>
    map_any (sv := .nilFunc) (xs := []) (mk := Prod.snd) (.inl ⟨rfl, rfl⟩) E26.out (fun x U' _ => mark_any x U'))
  have TL : Hid (ta.length ≤ 20) := Lib.hid (by rw [hta]; have := List.length_filter_le (lessB n) ys; omega)
  have BL : tb.length = m := by rw [htb, List.length_map]; exact hlen
  have BL20 : tb.length ≤ 20 := by omega
  have HTA := Lib.hid hta
  have HBG : Hid (∀ (k : Nat) (x : TT), ys[k]? = some x → tb[k]? = some x.2) := Lib.hid (fun k x h => by rw [htb, List.getElem?_map, h]; rfl)
  have HBL := Lib.hid BL
  clear hR hl hc hm hys hlen hRy hta htb bxV bV BL
  subst hV
  go_enter Try.func6, Try.ntmps6
  go_wp2_with fail
  refine (HF.out).mono ?_
  rintro e w1 ⟨rfl, rfl⟩
  clear HF
  go_wp2_with fail
  refine (HOf.out _ (Below.refl _ _)).mono ?_
  rintro e w1 ⟨lb1, rfl, hb1, hs1⟩
  have B1 := Lib.hid hb1
  have T1 := Lib.hid (HWH.out _ _ hb1 hs1)
  clear hb1 hs1
  go_wp2_with fail
  refine (T1.out).mono ?_
  rintro e w2 ⟨lb2, rfl, hb2, hs2⟩
  have B2 := Lib.hid (bel_trans B1.out hb2)
  have L2 := Lib.hid (list_any E45.out hs2 (Below.refl _ _) (by have := TL.out; omega))
  clear hb2 hs2 T1
  go_wp2_with fail
  refine (L2.out).mono ?_
  rintro e w3 ⟨A3, c3, rfl, hr3, hb3⟩
  have B3 := Lib.hid (bel_trans B2.out hb3)
  have R3 := Lib.hid hr3
  clear hb3 hr3 L2
  go_wp2_with fail
  refine (HOf.out _ B3.out).mono ?_
  rintro e w4 ⟨lb4, rfl, hb4, hs4⟩
  have C4 := Lib.hid hb4
  have B4 := Lib.hid (bel_trans B3.out hb4)
  have T4 := Lib.hid (HMP.out _ _ hs4)
  clear hb4 hs4
  go_wp2_with fail
  refine (T4.out).mono ?_
  rintro e w5 ⟨lb5, rfl, hb5, hs5⟩
  have C5 := Lib.hid (bel_trans C4.out hb5)
  have B5 := Lib.hid (bel_trans B4.out hb5)
  have L5 := Lib.hid (I.list_any E49.out hs5 (Below.refl _ _) (by omega))
  clear hb5 hs5 T4 C4
  go_wp2_with fail
  refine (L5.out).mono ?_
  rintro e w6 ⟨A6, c6, rfl, hr6, hb6⟩
  have C6 := Lib.hid (bel_trans C5.out hb6)
  have B6 := Lib.hid (bel_trans B5.out hb6)
  have R6 := Lib.hid hr6
  have Q3 := Lib.hid (Rd.later R3.out C6.out)
  have YR := Lib.hid (HY.out _ B6.out)
  have CN := Lib.hid (boxed_later BX.out B6.out)
  clear hb6 hr6 L5 C5
  obtain ⟨i0, hi, hz0, hz1, hz2⟩ := info_parts infoE
  have oR : Hid ((w6.alloc (.cells #[] 29)).ownsRow w6.heap.size 29 2 (.slice (some ⟨w6.heap.size, 0, none⟩) 0 0) 0 []) := Lib.hid (World.ownsRow_made w6 (base := w6.heap.size) (e := 29) (size := 2) #[] 0 (by simp) (by simp [maxLen]) (by simp))
  have bR : Hid (Below w6.heap.size w6 (w6.alloc (.cells #[] 29))) := Lib.hid (bel_alloc (Below.refl _ _) _)
  go_wp2_with fail
  rw [HBL.out]
  go_loopw [9, 10] (fun ov iv wr => ∃ k : Nat, k ≤ m ∧ iv = .int .i64 k ∧ wr.ownsRow w6.heap.size 29 2 ov ((ys.take k).filter (lessB n)).length (cls ((ys.take k).filter (lessB n))) ∧ Below w6.heap.size w6 wr) (fun _ i _ => m - (intOf i).toNat)
  case atStart => exact ⟨0, Nat.zero_le _, rfl, by simpa [cls] using oR.out, bR.out⟩
  case round =>
    obtain ⟨k, hk, rfl, hown, hB⟩ := hrel
    obtain ⟨a9, c9, rfl, _⟩ := own_shape hown
    have HO := Lib.hid hown
    have HB := Lib.hid hB
    clear hown hB
    by_cases h8 : k < m
    · have q1 : (k : Int) < (m : Int) := by omega
      have q0 : (0 : Int) ≤ (k : Int) := by omega
      have q9 : (k : Int) ≤ 20 := by omega
      obtain ⟨x, hx⟩ : ∃ x, ys[k]? = some x := ⟨_, List.getElem?_eq_getElem (by rw [HLEN.out]; omega)⟩
      obtain ⟨b, off, rfl, hlt, f0, f1⟩ := rdt_get YR.out hx
      obtain ⟨b2, off2, rfl, hlt2, f2⟩ := I.rdt_get R6.out (HBG.out k x hx)
      have g0 : wr.cell? ⟨b, off + k * 2, none⟩ = some (.int .i64 x.1) := (bel_cell HB.out hlt).trans f0
      have g3 : wr.cell? ⟨W.heap.size, 0, none⟩ = some (.int .i64 n) := (boxed_later CN.out HB.out).cell
      have KP : Hid (∀ U, Below wr.heap.size wr U → U.cell? ⟨b, off + k * 2, none⟩ = some (.int .i64 x.1) ∧ U.cell? ⟨b, off + k * 2 + 1, none⟩ = some (.int .i64 x.2) ∧ U.cell? ⟨b2, off2 + k, none⟩ = some (.int .i64 x.2)) := Lib.hid (fun U hU =>
        ⟨bel_later hU g0, bel_later hU ((bel_cell HB.out hlt).trans f1), bel_later hU ((bel_cell HB.out hlt2).trans f2)⟩)
      have HX := Lib.hid hx
      have F1 := Lib.hid f1
      have F2 := Lib.hid f2
      have YLT := Lib.hid hlt
      have YLT2 := Lib.hid hlt2
      obtain ⟨x0, x1⟩ := x
      simp only at g0
      have z3 : ¬ tb.length ≤ k := by rw [HBL.out]; omega
      clear hx f0 f1 f2 hlt hlt2
      cases hp : lessB n (x0, x1) with
      | false =>
        have t1 : ¬ x0 < n := by simpa [lessB] using hp
        have e := Lib.hid (filt_out HX.out hp)
        clear hp
        go_wp2_with fail
        go_quiet (fail)
        have hU : Below wr.heap.size wr (wr.drewN nq) := bel_drewN (Below.refl _ _) nq
        obtain ⟨k0, k1, k2⟩ := KP.out wr (Below.refl _ _)
        have z4 : ¬ m ≤ k := by omega
        have z5 : k < m := by omega
        go_wp2_with fail
        go_quiet (fail)
        go_wp2
        refine ⟨⟨k + 1, by omega, by simp, ?_, bel_drewN HB.out _⟩, by simp [intOf]; omega⟩
        rw [e.out]
        exact own_bel HO.out (bel_drewN (Below.refl _ _) _)
      | true =>
        have t1 : x0 < n := by simpa [lessB] using hp
        have e := Lib.hid (filt_in HX.out hp).1
        have hln : ((ys.take k).filter (lessB n)).length ≤ k := Nat.le_trans (List.length_filter_le _ _) (by rw [List.length_take]; omega)
        have HH := Lib.hid hln
        clear hp hln
        go_wp2_with fail
        go_quiet (fail)
        have hU : Below wr.heap.size wr (wr.drewN nq) := bel_drewN (Below.refl _ _) nq
        obtain ⟨k0, k1, k2⟩ := KP.out _ hU
        have HO2 := Lib.hid (own_bel HO.out hU)
        have HB2 := Lib.hid (bel_trans HB.out hU)
        have HU := Lib.hid hU
        clear hU
        generalize wr.drewN nq = U at *
        have FA : Hid (((ys.take k).filter (lessB n)).length + 1 ≤ maxLen) := Lib.hid (by have := HH.out; simp only [maxLen]; omega)
        have FB : Hid ((((ys.take k).filter (lessB n)).length + 1) * 16 ≤ 140737488355328) := Lib.hid (by have := HH.out; omega)
        have FC : Hid (w6.heap.size ≤ (U.alloc (kv (x0, x1))).heap.size) := Lib.hid (by have := HB2.out.size; simp; omega)
        have one2 : ∀ u ∈ [Value.int .i64 x0, .int .i64 x1], u.oneCell' = true := by simp [Value.oneCell']
        go_wp2_with (at_builtin; refine wpList_append_own_at _ rfl (.tmp 38) (.tmp 43) 26 rfl w6.heap.size 29 i0 (.agg #[.int .i64 0, .int .i64 0]) 2 16 Try.underlying26 hi hz0 hz1 hz2 rfl (by decide) (.slice a9 ((ys.take k).filter (lessB n)).length c9) ((ys.take k).filter (lessB n)).length (cls ((ys.take k).filter (lessB n))) rfl (HO2.out.alloc _) ⟨U.heap.size, 0, none⟩ 1 1 [.int .i64 x0, .int .i64 x1] rfl rfl (kv_new U (x0, x1)) one2 FA.out FB.out FC.out ?_; intro v' w1' hown' hgrow hnil hat; have O1 := Lib.hid hown'; have bb1 := bel_own (bel_alloc HB2.out (kv (x0, x1))) hgrow (HO2.out.alloc _); have BB1 := Lib.hid bb1; clear bb1 hown' hgrow hat hnil)
        clear one2 k0 k1 k2
        have z4 : ¬ m ≤ k := by omega
        have z5 : k < m := by omega
        have m0 : w1'.cell? ⟨b, off + k * 2 + 1, none⟩ = some (.int .i64 x1) := (bel_cell BB1.out YLT.out).trans F1.out
        have m1 : w1'.cell? ⟨b2, off2 + k, none⟩ = some (.int .i64 x1) := (bel_cell BB1.out YLT2.out).trans F2.out
        go_wp2_with fail
        go_quiet (fail)
        go_wp2
        refine ⟨⟨k + 1, by omega, by simp, ?_, bel_drewN BB1.out _⟩, by simp [intOf]; omega⟩
        rw [e.out, cls_snoc, List.length_append]
        exact own_bel O1.out (bel_drewN (Below.refl _ _) _)
    · have q1 : ¬ (k : Int) < (m : Int) := by omega
      obtain rfl : k = m := by omega
      have et : (ys.take k).filter (lessB n) = ta := by rw [HTA.out, List.take_of_length_le (by rw [HLEN.out]; omega)]
      have ho := HO.out
      rw [et] at ho
      have HO3 := Lib.hid ho
      rw [et]
      clear ho et
      have LV := Lib.hid (live_any wr)
      have BW := Lib.hid (bel_trans BV.out (bel_trans B6.out HB.out))
      have BL6 := Lib.hid HB.out
      go_wp2_with fail
      refine (LV.out).mono ?_
      rintro e w13 ⟨rfl, hb13⟩
      have BW13 := Lib.hid (bel_trans BW.out hb13)
      have V13 := Lib.hid (bel_trans (bel_trans B6.out HB.out) hb13)
      have SM := Lib.hid (same_eq A3 a9 ta ta.length ta.length c3 c9 w13 rfl rfl (by have := TL.out; omega) (Rd.later (Rd.later Q3.out HB.out) hb13) (Rd.later (Rd.of_own HO3.out (by decide)) hb13))
      clear hb13 LV
      go_wp2_with fail
      refine (SM.out).mono ?_
      rintro e w14 ⟨rfl, hb14⟩
      have BW14 := Lib.hid (bel_trans BW13.out hb14)
      have WN := Lib.hid (HWN.out w14 (bel_trans V13.out hb14))
      clear hb14 SM
      go_wp2_with fail
      refine (WN.out).mono ?_
      rintro e w15 ⟨lb15, rfl, hb15, hs15⟩
      have BW15 := Lib.hid (bel_trans BW14.out hb15)
      have L15 := Lib.hid (list_any E45.out hs15 (Below.refl _ _) (by simp))
      clear hb15 hs15 WN
      go_wp2_with fail
      refine (L15.out).mono ?_
      rintro e w16 ⟨A16, c16, rfl, _, hb16⟩
      have BW16 := Lib.hid (bel_trans BW15.out hb16)
      have MN := Lib.hid (HMN.out w16)
      clear hb16 L15
      go_wp2_with fail
      refine (MN.out).mono ?_
      rintro e w17 ⟨lb17, rfl, hb17, hs17⟩
      have BW17 := Lib.hid (bel_trans BW16.out hb17)
      have L17 := Lib.hid (I.list_any E49.out hs17 (Below.refl _ _) (by simp))
      clear hb17 hs17 MN
      go_wp2_with fail
      refine (L17.out).mono ?_
      rintro e w18 ⟨A18, c18, rfl, _, hb18⟩
      have BW18 := Lib.hid (bel_trans BW17.out hb18)
      clear hb18 L17
      go_wp2
      go_ret
      exact ⟨rfl, BW18.out⟩
end Go.Proofs.Ytpijaphcknoobaa
