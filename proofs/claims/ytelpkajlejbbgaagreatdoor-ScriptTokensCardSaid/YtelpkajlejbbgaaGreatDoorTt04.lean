/- Texts of the proof, one behind the other. -/
import Derived.Test.YtelpkajlejbbgaaGreatDoorTt03
import Derived.Test.YtelpkajlejbbgaaGreatDoorTt01
set_option linter.unusedVariables false
set_option linter.unusedSimpArgs false
namespace Go.Proofs.YtelpkajlejbbgaaGreatDoor
open Go.RowKit Go.Maps
theorem lit_ne {t : ByteArray} {l : List UInt8} (h : t.data.toList ≠ l) : (t.toList == l) = false := by
  rw [ByteArray.toList_eq, beq_eq_false_iff_ne]; exact h
theorem lit_eq {t : ByteArray} {l : List UInt8} (h : t.data.toList = l) : (t.toList == l) = true := by
  rw [ByteArray.toList_eq, beq_iff_eq]; exact h
theorem ixbyte_lit (c : UInt8) (w : World) : Calls Tryz.prog 43 #[.string ⟨#[48, 49, 50, 51, 52, 53, 54, 55, 56, 57, 97, 98, 99, 100, 101, 102]⟩, .int .u8 c.toNat] w fun e w' => e = .returned (.int .i64 (ixV c)) ∧ w' = w := ixbyte_any c w
theorem ixV_some {c : UInt8} {n : Nat} (h : hexv c = some n) : ixV c = n ∧ n < 16 := by
  refine ⟨?_, (hexv_some h).1⟩
  unfold ixV; rw [h]
theorem ixV_none {c : UInt8} (h : hexv c = none) : ixV c = -1 := by unfold ixV; rw [h]
set_option maxHeartbeats 400000 in
set_option maxRecDepth 100000 in
theorem from_short (t : ByteArray) (h : t = ⟨#[45]⟩ ∨ t = ⟨#[]⟩ ∨ t.size % 2 = 1) (ht : t.size ≤ 1000000) (w : World) :
    Calls Tryz.prog 17 #[.string t] w fun e w' => e = .returned (txtV t) ∧ Below w.heap.size w w' := by
  by_cases h1 : t = ⟨#[45]⟩
  · subst h1
    rw [txt_minus]
    have e1 : ((⟨#[45]⟩ : ByteArray).toList == (⟨#[45]⟩ : ByteArray).toList) = true := bytes_eq rfl
    go_enter Tryz.func17, Tryz.ntmps17
    go_wp2
    refine bodyPost_ret (v := .tuple #[.string ⟨#[]⟩, .int .i64 0]) (by simp [results, Tryz.results17, go_sem]) rfl ⟨rfl, Below.refl _ _⟩
  · have e1 : (t.toList == [45]) = false := lit_ne (fun e => h1 (ba_inj e))
    have HV : Hid (txtV t = .tuple #[.string ⟨#[]⟩, .int .i64 3]) := Lib.hid (by
      unfold txtV
      have : txtB t = none := by
        rcases h with h | h | h
        · exact absurd h h1
        · subst h; decide +kernel
        · by_cases h2 : t = ⟨#[]⟩
          · subst h2; decide +kernel
          · rw [txt_form h1 h2, unP_odd _ _ (Nat.le_refl _) (by rw [ba_len]; exact h)]; rfl
      rw [this])
    by_cases h2 : t = ⟨#[]⟩
    · have e2 : t.toList.isEmpty = true := by subst h2; decide +kernel
      clear h h1 h2
      go_enter Tryz.func17, Tryz.ntmps17
      go_wp2
      all_goals
        refine bodyPost_ret (v := .tuple #[.string ⟨#[]⟩, .int .i64 3]) (by simp [results, Tryz.results17, go_sem]) rfl ⟨by rw [HV.out], Below.refl _ _⟩
    · have e2 : t.toList.isEmpty = false := ne_empty h2
      have e3 : (t.size : Int).tmod 2 = 1 := by
        rcases h with h | h | h
        · exact absurd h h1
        · exact absurd h h2
        · rw [Int.tmod_eq_emod_of_nonneg (by omega)]; omega
      clear h h1 h2
      go_enter Tryz.func17, Tryz.ntmps17
      go_wp2
      all_goals
        first
        | (refine bodyPost_ret (v := .tuple #[.string ⟨#[]⟩, .int .i64 3]) (by simp [results, Tryz.results17, go_sem]) rfl ⟨by rw [HV.out], Below.refl _ _⟩)
        | (exfalso; omega)
theorem or_digit : ∀ p : Nat, p < 16 → ∀ q : Nat, q < 16 → bits BinOp.or IntKind.i64 ((p : Int) * 16) (q : Int) % 256 = ((p * 16 + q : Nat) : Int) := by decide +kernel
set_option maxHeartbeats 1000000 in
set_option maxRecDepth 100000 in
theorem from_long (t : ByteArray) (h1 : t ≠ ⟨#[45]⟩) (h2 : t ≠ ⟨#[]⟩) (m : Nat) (h3 : t.size = 2 * m) (ht : t.size ≤ 1000000) (w : World) :
    Calls Tryz.prog 17 #[.string t] w fun e w' => e = .returned (txtV t) ∧ Below w.heap.size w w' := by
  have e1 : (t.toList == [45]) = false := lit_ne (fun e => h1 (ba_inj e))
  have e2 : t.toList.isEmpty = false := ne_empty h2
  have HF := Lib.hid (txt_form h1 h2)
  have e3 : (t.size : Int).tmod 2 = 0 := by rw [Int.tmod_eq_emod_of_nonneg (by omega)]; omega
  have e4 : (t.size : Int).tdiv 2 = (m : Int) := by rw [Int.tdiv_eq_ediv_of_nonneg (by omega)]; omega
  have wm : IntKind.i64.wrap (m : Int) = (m : Int) := IntWalk.i64_in _ (by omega)
  have e5 : ¬ (0 : Int) < (t.size : Int).tmod 2 := by omega
  obtain ⟨i0, hI0, hI1, hI2, hI3⟩ := EB.parts
  obtain ⟨w0, hr, hown, hg⟩ := run_make_own (P := Tryz.prog) w w.heap.size 55 5 i0 (.int .u8 0) 1 Tryz.underlying55 hI0 hI1 hI2 .i64 .i64 m (by rw [hI3]; show 1 * m ≤ _; omega) (by unfold maxLen; omega) (Nat.le_refl _)
  obtain ⟨v, hv⟩ : ∃ v, txtV t = v := ⟨_, rfl⟩
  rw [hv]
  have HV := Lib.hid hv
  have HM := Lib.hid (And.intro h3 ht)
  have HM0 : Hid (0 < m) := Lib.hid (by
    rcases Nat.eq_zero_or_pos m with h | h
    · exfalso; apply h2; refine ba_inj (List.eq_nil_of_length_eq_zero ?_); rw [ba_len]; omega
    · exact h)
  have HOWN := Lib.hid hown
  have HG := Lib.hid hg
  clear h1 h2 h3 ht hown hg hv hI0 hI1 hI2 hI3
  go_enter Tryz.func17, Tryz.ntmps17
  go_upto_region 7 with fail
  go_loopw [4, 5] (fun bv iv wr => ∃ (j k : Nat) (l : List UInt8) (A : Option Addr) (c : Nat), k = 2 * j ∧ j ≤ m ∧ iv = .int .i64 k ∧ bv = .slice A j c ∧ Hid (l.length = j) ∧ Hid (unP (t.data.toList.take k) = some l) ∧ Hid (EB.Row wr w.heap.size A l c) ∧ Below w.heap.size w wr) (fun _ iv _ => t.size - (intOf iv).toNat)
  case atStart => exact ⟨0, 0, [], _, m, rfl, by omega, rfl, rfl, Lib.hid rfl, Lib.hid rfl, Lib.hid (.inr ⟨HM0.out, HOWN.out⟩), (Below.refl _ w).grown HG.out (Nat.le_refl _) (fun j hj => by cases hj)⟩
  case round =>
    obtain ⟨j, k, l, A, c, hk, hj, rfl, rfl, HL, HP, HR, hb⟩ := hrel
    have HB := Lib.hid hb
    clear hb
    have hM := HM.out
    have HKJ := Lib.hid hk
    by_cases h8 : k < t.size
    · have h9 : k + 1 < t.size := by omega
      have hk1 : (k : Int) < (t.size : Int) := by omega
      have hk2 : (k : Int) + 1 < (t.size : Int) := by omega
      have hk0 : (0 : Int) ≤ (k : Int) := by omega
      have hk3 : (0 : Int) ≤ (k : Int) + 1 := by omega
      have WK : IntKind.i64.wrap ((k : Int) + 1) = (k : Int) + 1 := IntWalk.i64_in _ (by omega)
      have WK2 : IntKind.i64.wrap ((k : Int) + 2) = (k : Int) + 2 := IntWalk.i64_in _ (by omega)
      obtain ⟨x, hx⟩ : ∃ x, t.data.toList[k]? = some x := ⟨_, List.getElem?_eq_getElem (by rw [ba_len]; exact h8)⟩
      obtain ⟨y, hy⟩ : ∃ y, t.data.toList[k + 1]? = some y := ⟨_, List.getElem?_eq_getElem (by rw [ba_len]; exact h9)⟩
      have hx2 : t[k]'h8 = x := by
        have q := (List.getElem?_eq_some_iff.1 hx).2
        rw [← q]; rfl
      have hy2 : t[k + 1]'h9 = y := by
        have q := (List.getElem?_eq_some_iff.1 hy).2
        rw [← q]; rfl
      have ht2 : t.data.toList = t.data.toList.take k ++ x :: y :: t.data.toList.drop (k + 2) := by
        have a1 := List.take_append_drop k t.data.toList
        have a2 : t.data.toList.drop k = x :: y :: t.data.toList.drop (k + 2) := by
          obtain ⟨p1, p2⟩ := List.getElem?_eq_some_iff.1 hx
          obtain ⟨q1, q2⟩ := List.getElem?_eq_some_iff.1 hy
          rw [List.drop_eq_getElem_cons p1, p2, List.drop_eq_getElem_cons q1, q2]
        rw [← a2]; exact a1.symm
      have HT2 := Lib.hid ht2
      clear hx hy ht2 hM hk
      go_upto_region 10 with fail
      go_region_with (first
        | (go_at_call 43; ((with_reducible refine (ixbyte_lit x _).mono ?_); rintro e w1 ⟨rfl, rfl⟩))
        | (go_at_call 43; ((with_reducible refine (ixbyte_lit y _).mono ?_); rintro e w1 ⟨rfl, rfl⟩)))
      all_goals
        obtain ⟨W, hW⟩ : ∃ W, W = wr.drew := ⟨_, rfl⟩
        rw [← hW]
        have HBW : Hid (Below w.heap.size w W) := Lib.hid (by rw [hW]; exact HB.out.drew)
        have HRW : Hid (EB.Row W w.heap.size A l c) := Lib.hid (by rw [hW]; exact HR.out.later (Below.refl _ _).drew)
        clear hW
        cases hq : hexv x with
        | none =>
          have ex := ixV_none hq
          have HE : Hid (v = .tuple #[.string ⟨#[]⟩, .int .i64 3]) := Lib.hid (by
            rw [← HV.out]; unfold txtV; rw [HF.out, HT2.out, unP_app _ _ _ _ (Nat.le_refl _) HP.out, unP_bad (.inl hq)]; rfl)
          simp only [ex]
          clear hq ex
          go_wp2
          refine bodyPost_ret (v := .tuple #[.string ⟨#[]⟩, .int .i64 3]) (by simp [results, Tryz.results17, go_sem]) rfl ⟨by rw [HE.out], HBW.out⟩
        | some p =>
          obtain ⟨ex, hp⟩ := ixV_some hq
          cases hr : hexv y with
          | none =>
            have ey := ixV_none hr
            have HE : Hid (v = .tuple #[.string ⟨#[]⟩, .int .i64 3]) := Lib.hid (by
              rw [← HV.out]; unfold txtV; rw [HF.out, HT2.out, unP_app _ _ _ _ (Nat.le_refl _) HP.out, unP_bad (.inr hr)]; rfl)
            simp only [ex, ey]
            clear hq ex hr ey
            go_wp2
            refine bodyPost_ret (v := .tuple #[.string ⟨#[]⟩, .int .i64 3]) (by simp [results, Tryz.results17, go_sem]) rfl ⟨by rw [HE.out], HBW.out⟩
          | some q =>
            obtain ⟨ey, hq2⟩ := ixV_some hr
            have HG2 := Lib.hid (unP_good (r := t.data.toList.drop (k + 2)) hq hr)
            have HG3 := Lib.hid (unP_good (r := []) hq hr)
            simp only [ex, ey]
            clear hq ex hr ey
            have hp0 : ¬ (p : Int) < 0 := by omega
            have hq0 : ¬ (q : Int) < 0 := by omega
            have hor : bits BinOp.or IntKind.i64 ((p : Int) * 16) (q : Int) % 256 = ((p * 16 + q : Nat) : Int) := or_digit p hp q hq2
            have hbyte : ((UInt8.ofNat (p * 16 + q)).toNat : Int) = ((p * 16 + q : Nat) : Int) := by rw [UInt8.toNat_ofNat']; omega
            have RL := Lib.hid (RE.Rd.lit (E := EB) W 5 [UInt8.ofNat (p * 16 + q)] #[.int .u8 ((p * 16 + q : Nat) : Int)] (by show [Value.int .u8 _] = [Value.int .u8 _]; rw [hbyte]))
            have BW := Lib.hid (bel_alloc HBW.out (.cells #[.int .u8 ((p * 16 + q : Nat) : Int)] 5))
            have RW := Lib.hid (HRW.out.later (alb W (.cells #[.int .u8 ((p * 16 + q : Nat) : Int)] 5)))
            clear hbyte
            have HL2 := Lib.hid (show j ≤ 1000000 by have := HM.out; omega)
            go_wp2_with (first
              | (at_builtin; refine RE.wpList_put EB _ rfl (.tmp 43) (.tmp 49) rfl (base := w.heap.size) A j c _ _ 1 1 [UInt8.ofNat (p * 16 + q)] rfl rfl RW.out HL.out HL2.out BW.out.size rfl (by omega) RL.out ?_; intro A2 c2 w5 r1 r2 r3; have R1 := Lib.hid r1; have R2 := Lib.hid r2; clear r1 r2 r3)
              | fail)
            exact ⟨⟨j + 1, k + 2, l ++ [UInt8.ofNat (p * 16 + q)], A2, c2, by have := HKJ.out; omega, by have := HM.out; have := HKJ.out; omega, rfl, rfl, Lib.hid (by rw [List.length_append, HL.out]; rfl), Lib.hid (by
              have e : t.data.toList.take (k + 2) = t.data.toList.take k ++ [x, y] := by
                conv => lhs; rw [HT2.out]
                have hlt : (t.data.toList.take k).length = k := by rw [List.length_take, ba_len]; omega
                rw [List.take_append, hlt, List.take_of_length_le (by rw [hlt]; omega), show k + 2 - k = 2 by omega]; rfl
              rw [e, unP_app _ _ _ _ (Nat.le_refl _) HP.out, HG3.out]; rfl), R1, BW.out.trans (RE.Row.below R2.out RW.out (Nat.le_refl _) BW.out.size)⟩, by simp [intOf]; omega⟩
    · have hke : k = t.size := by omega
      have hjm : j = m := by omega
      subst hjm
      have hk1 : ¬ (k : Int) < (t.size : Int) := by omega
      have htk : t.data.toList.take k = t.data.toList := List.take_of_length_le (by rw [ba_len]; omega)
      rw [htk] at HP
      have HE : Hid (v = .tuple #[.string ⟨l.toArray⟩, .int .i64 0]) := Lib.hid (by
        rw [← HV.out]; unfold txtV; rw [HF.out, HP.out]; rfl)
      have hcv : (convert 55 9 (.slice A j c)).run Tryz.prog wr = .ok (.string ⟨l.toArray⟩) wr := by
        rcases HR.out.rd with h0 | ⟨b, off, rfl, hlt, hc⟩
        · have := EB.all_empty h0
          have h1 := HL.out
          rw [this] at h1
          have := HM0.out
          simp at h1; omega
        · have g := run_convert_bytes_back (P := Tryz.prog) wr 55 9 5 ⟨b, off, none⟩ c l Tryz.underlying55 Tryz.underlying5 Tryz.underlying9 (fun i hi => by
            have e : (⟨b, off, none⟩ : Addr).add i = ⟨b, off + i, none⟩ := by unfold Addr.add; split <;> simp_all
            rw [e]
            refine hc i _ ?_
            rw [eb_all]
            simp [hi])
          rw [HL.out] at g
          exact g
      clear hM hk htk hke
      go_wp2
      refine bodyPost_ret (v := .tuple #[.string ⟨l.toArray⟩, .int .i64 0]) (by simp [results, Tryz.results17, go_sem]) rfl ⟨by rw [HE.out], HB.out⟩
theorem from_any (t : ByteArray) (ht : t.size ≤ 1000000) (w : World) : Calls Tryz.prog 17 #[.string t] w fun e w' => e = .returned (txtV t) ∧ Below w.heap.size w w' := by
  by_cases h1 : t = ⟨#[45]⟩
  · exact from_short t (.inl h1) ht w
  · by_cases h2 : t = ⟨#[]⟩
    · exact from_short t (.inr (.inl h2)) ht w
    · by_cases h3 : t.size % 2 = 1
      · exact from_short t (.inr (.inr h3)) ht w
      · exact from_long t h1 h2 (t.size / 2) (by omega) ht w
end Go.Proofs.YtelpkajlejbbgaaGreatDoor
namespace Go.Proofs.YtelpkajlejbbgaaGreatDoor
open Go.RowKit Go.Maps
def hexB (n : Nat) : ByteArray := ⟨#[hexd n]⟩
set_option maxHeartbeats 4000000 in
set_option maxRecDepth 100000 in
theorem hex_any (n : Nat) (h : n < 16) (w : World) : Calls Tryz.prog 46 #[.int .u8 (n : Int)] w fun e w' => e = .returned (.string (hexB n)) ∧ w' = w := by
  have all : n = 0 ∨ n = 1 ∨ n = 2 ∨ n = 3 ∨ n = 4 ∨ n = 5 ∨ n = 6 ∨ n = 7 ∨ n = 8 ∨ n = 9 ∨ n = 10 ∨ n = 11 ∨ n = 12 ∨ n = 13 ∨ n = 14 ∨ n = 15 := by omega
  rcases all with rfl | rfl | rfl | rfl | rfl | rfl | rfl | rfl | rfl | rfl | rfl | rfl | rfl | rfl | rfl | rfl
  all_goals
    go_enter Tryz.func46, Tryz.ntmps46
    go_wp2
    go_ret
    exact ⟨rfl, rfl⟩
end Go.Proofs.YtelpkajlejbbgaaGreatDoor
namespace Go.Proofs.YtelpkajlejbbgaaGreatDoor
open Go.RowKit Go.Maps
theorem hexB_size (n : Nat) : (hexB n).size = 1 := rfl
theorem hexB_at (n : Nat) : (hexB n)[0]'(by rw [hexB_size]; omega) = hexd n := rfl
theorem ixV_hexd {i : Nat} (h : i < 16) : ixV (hexd i) = i := by
  unfold ixV
  rw [hexd_v i h]
theorem ixV_no {c : UInt8} (h : ∀ j, j < 16 → hexd j ≠ c) : ixV c = -1 := by
  unfold ixV
  cases hc : hexv c with
  | none => rfl
  | some v => obtain ⟨h1, h2⟩ := hexv_some hc; exact absurd h2 (h v h1)
set_option maxHeartbeats 4000000 in
set_option maxRecDepth 100000 in
theorem value_any (c : UInt8) (w : World) : Calls Tryz.prog 44 #[.int .u8 (c.toNat : Int)] w fun e w' => e = .returned (.int .i64 (ixV c)) ∧ Below w.heap.size w w' := by
  have hc3 := c.toNat_lt
  go_enter Tryz.func44, Tryz.ntmps44
  go_upto_region 2 with fail
  go_loopw [3] (fun iv wr => ∃ i : Nat, i ≤ 16 ∧ iv = .int .i64 i ∧ Hid (∀ j, j < i → hexd j ≠ c) ∧ wr = w) (fun iv _ => 16 - (intOf iv).toNat)
  case atStart => exact ⟨0, by omega, rfl, Lib.hid (fun j hj => by omega), rfl⟩
  case round =>
    obtain ⟨i, hi, rfl, HN, hw⟩ := hrel
    (have hw2 := hw.symm; subst hw2; clear hw)
    by_cases h8 : i < 16
    · have hk1 : (i : Int) < 16 := by omega
      have hk0 : (0 : Int) ≤ (i : Int) := by omega
      have WK : IntKind.i64.wrap ((i : Int) + 1) = (i : Int) + 1 := IntWalk.i64_in _ (by omega)
      have WU : IntKind.u8.wrap (i : Int) = (i : Int) := by show (i : Int) % 256 = i; omega
      have WM : (i : Int) % 256 = i := by omega
      have hz := hexB_size i
      have ha := hexB_at i
      have HX := Lib.hid (hex_any i h8)
      obtain ⟨d, hd⟩ : ∃ d, hexd i = d := ⟨_, rfl⟩
      obtain ⟨S, hS⟩ : ∃ S, hexB i = S := ⟨_, rfl⟩
      rw [hS] at HX
      have hz2 : S.size = 1 := by rw [← hS]; exact hz
      have h0S : 0 < S.size := by omega
      have ha2 : S[0]'h0S = d := by subst hS; rw [← hd]; exact ha
      have hd3 := d.toNat_lt
      have HV : Hid (d = c → ixV c = i) := Lib.hid (fun e => by rw [← e, ← hd]; exact ixV_hexd h8)
      have HN2 : Hid (d ≠ c → ∀ j, j < i + 1 → hexd j ≠ c) := Lib.hid (fun e j hj => by
        rcases Nat.lt_or_ge j i with q | q
        · exact HN.out j q
        · have : j = i := by omega
          subst this; rw [hd]; exact e)
      clear hz ha hd hS
      by_cases hq : d = c
      · subst hq
        go_wp2_with (first
          | (go_at_call 46; ((refine (HX.out _).mono ?_); rintro e w1 ⟨rfl, rfl⟩))
          | fail)
        refine bodyPost_ret (v := .int .i64 i) (by simp [results, Tryz.results44, go_sem]) rfl ⟨by rw [HV.out (by first | rfl | trivial)], Below.refl _ _⟩
      · have h10 : ¬ (d.toNat : Int) = (c.toNat : Int) := fun e => hq (UInt8.toNat_inj.1 (by omega))
        go_wp2_with (first
          | (go_at_call 46; ((refine (HX.out _).mono ?_); rintro e w1 ⟨rfl, rfl⟩))
          | fail)
        exact ⟨⟨i + 1, by omega, by simp, Lib.hid (HN2.out hq), trivial⟩, by simp [intOf]; omega⟩
    · have hke : i = 16 := by omega
      subst hke
      have HE := Lib.hid (ixV_no HN.out)
      go_wp2
      refine bodyPost_ret (v := .int .i64 (-1)) (by simp [results, Tryz.results44, go_sem]) rfl ⟨by rw [HE.out], Below.refl _ _⟩
theorem ba_app (a b : ByteArray) : (a ++ b).data.toList = a.data.toList ++ b.data.toList := by
  rw [ByteArray.data_append, Array.toList_append]
set_option maxHeartbeats 4000000 in
set_option maxRecDepth 100000 in
theorem rtoken_any (t : ByteArray) (ht : t.size ≤ 1000000) (w : World) :
    Calls Tryz.prog 20 #[.string t] w fun e w' => e = .returned (.string (tokB t)) ∧ Below w.heap.size w w' := by
  by_cases hz : t = ⟨#[]⟩
  · subst hz
    rw [tok_nil]
    go_enter Tryz.func20, Tryz.ntmps20
    go_wp2
    go_ret
    exact ⟨rfl, Below.refl _ _⟩
  · have e1 : t.toList.isEmpty = false := ne_empty hz
    have hsz : t.size ≠ 0 := fun e => hz (ba_inj (List.eq_nil_of_length_eq_zero ((ba_len t).trans e)))
    rw [tokB_some hsz]
    have HT := Lib.hid ht
    clear ht hz hsz
    go_enter Tryz.func20, Tryz.ntmps20
    go_upto_region 5 with fail
    go_loopw [3, 4] (fun ov iv wr => ∃ (k : Nat), k ≤ t.size ∧ iv = .int .i64 k ∧ Hid (ov = .string ⟨(tokP (t.data.toList.take k)).toArray⟩) ∧ Below w.heap.size w wr) (fun _ i _ => t.size - (intOf i).toNat)
    case atStart => exact ⟨0, by omega, rfl, Lib.hid (by rw [List.take_zero]; rfl), Below.refl _ _⟩
    case round =>
      obtain ⟨k, hk, rfl, HOV, hb⟩ := hrel
      obtain ⟨O, hO⟩ : ∃ O : ByteArray, O = ⟨(tokP (t.data.toList.take k)).toArray⟩ := ⟨_, rfl⟩
      rw [← hO] at HOV
      (have hov := HOV.out; subst hov; clear HOV)
      have HB := Lib.hid hb
      clear hb
      by_cases h8 : k < t.size
      · have hk1 : (k : Int) < (t.size : Int) := by omega
        have hk0 : (0 : Int) ≤ (k : Int) := by omega
        obtain ⟨x, hx⟩ : ∃ x, t.data.toList[k]? = some x := ⟨_, List.getElem?_eq_getElem (by rw [ba_len]; exact h8)⟩
        have hx2 : t[k]'h8 = x := by
          have q := (List.getElem?_eq_some_iff.1 hx).2
          rw [← q]; rfl
        have hx3 := x.toNat_lt
        have WK : IntKind.i64.wrap ((k : Int) + 1) = (k : Int) + 1 := IntWalk.i64_in _ (by have := HT.out; omega)
        obtain ⟨p, hp⟩ : ∃ p, x.toNat / 16 = p := ⟨_, rfl⟩
        obtain ⟨q, hq⟩ : ∃ q, x.toNat % 16 = q := ⟨_, rfl⟩
        have hp16 : p < 16 := by omega
        have hq16 : q < 16 := by omega
        have HT1 := Lib.hid (show tokP (t.data.toList.take (k + 1)) = (tokP (t.data.toList.take k) ++ [hexd p]) ++ [hexd q] by rw [List.take_add_one, hx, tokP_app, ← hp, ← hq]; simp [tokP_one])
        have ed : (x.toNat : Int).tdiv 16 = (p : Int) := by rw [Int.tdiv_eq_ediv_of_nonneg (by omega)]; omega
        have em : (x.toNat : Int).tmod 16 = (q : Int) := by rw [Int.tmod_eq_emod_of_nonneg (by omega)]; omega
        have wp8 : IntKind.u8.wrap (p : Int) = (p : Int) := by show (p : Int) % 256 = p; omega
        have wq8 : IntKind.u8.wrap (q : Int) = (q : Int) := by show (q : Int) % 256 = q; omega
        have wpm : (p : Int) % 256 = p := by omega
        have wqm : (q : Int) % 256 = q := by omega
        have HF : Hid ((O ++ hexB p) ++ hexB q = ⟨(tokP (t.data.toList.take (k + 1))).toArray⟩) := Lib.hid (ba_inj (by rw [ba_app, ba_app, ba_list, HT1.out, hO, ba_list]; rfl))
        have HPX := Lib.hid (hex_any p hp16)
        have HQX := Lib.hid (hex_any q hq16)
        have HS1 : Hid (O.size + (hexB p).size ≤ 3000000) := Lib.hid (by rw [hexB_size, hO, ba_size, tokP_len, List.length_take]; have := HT.out; omega)
        have HS2 : Hid (O.size + (hexB p).size + (hexB q).size ≤ 3000000) := Lib.hid (by rw [hexB_size, hexB_size, hO, ba_size, tokP_len, List.length_take]; have := HT.out; omega)
        generalize hexB p = P at HPX HF HS1 HS2
        generalize hexB q = Q at HQX HF HS2
        clear hx hp hq hO HT1
        go_upto_region 7 with fail
        refine wp_region_held_drew (S := (fun _ : World => True)) (by kernel_rfl) ?_ (fun hHeld => ?_)
        · trivial
        have HHeld := Lib.hid hHeld; clear hHeld
        refine wT (i := 0) (oi := { dst := some 13, op := Op.move (Operand.tmp 3), type := 9, pos := "ref.go:20", after := #[], guard := none }) (v := ?_) rfl (Or.inl ⟨by rfl, ?_⟩) HHeld.out ?_
        rotate_left
        · intro w hSw; clear hSw; go_simp; try with_reducible rfl
        try simp only [pu, pn, s1, s2, s3]
        refine wT (i := 1) (oi := { dst := some 14, op := Op.move (Operand.tmp 0), type := 9, pos := "ref.go:20", after := #[], guard := none }) (v := ?_) rfl (Or.inl ⟨by rfl, ?_⟩) HHeld.out ?_
        rotate_left
        · intro w hSw; clear hSw; go_simp; try with_reducible rfl
        try simp only [pu, pn, s1, s2, s3]
        refine wT (i := 2) (oi := { dst := some 15, op := Op.move (Operand.tmp 4), type := 3, pos := "ref.go:20", after := #[], guard := none }) (v := ?_) rfl (Or.inl ⟨by rfl, ?_⟩) HHeld.out ?_
        rotate_left
        · intro w hSw; clear hSw; go_simp; try with_reducible rfl
        try simp only [pu, pn, s1, s2, s3]
        refine wT (i := 3) (oi := { dst := some 16, op := Op.index 9 (Operand.tmp 14) (Operand.tmp 15), type := 5, pos := "ref.go:20", after := #[{ on := 1, ground := Ground.data }, { on := 2, ground := Ground.data }], guard := none }) (v := (.int .u8 (x.toNat : Int) : Value)) rfl (Or.inl ⟨by rfl, ?_⟩) HHeld.out ?_
        · intro V hV; have hc0 := hx2; clear hV; go_simp
        try simp only [pu, pn, s1, s2, s3]
        refine wT (i := 4) (oi := { dst := some 17, op := Op.binOp BinOp.quo 5 (Operand.tmp 16) (Operand.const (Value.int IntKind.u8 16)) 5, type := 5, pos := "ref.go:20", after := #[{ on := 3, ground := Ground.data }], guard := none }) (v := (.int .u8 (p : Int) : Value)) rfl (Or.inl ⟨by rfl, ?_⟩) HHeld.out ?_
        · intro V hV; have hc0 := ed; clear hV; go_simp
        try simp only [pu, pn, s1, s2, s3]
        refine wT (i := 7) (oi := { dst := some 20, op := Op.move (Operand.tmp 0), type := 9, pos := "ref.go:20", after := #[], guard := none }) (v := ?_) rfl (Or.inl ⟨by rfl, ?_⟩) HHeld.out ?_
        rotate_left
        · intro w hSw; clear hSw; go_simp; try with_reducible rfl
        try simp only [pu, pn, s1, s2, s3]
        refine wT (i := 8) (oi := { dst := some 21, op := Op.move (Operand.tmp 4), type := 3, pos := "ref.go:20", after := #[], guard := none }) (v := ?_) rfl (Or.inl ⟨by rfl, ?_⟩) HHeld.out ?_
        rotate_left
        · intro w hSw; clear hSw; go_simp; try with_reducible rfl
        try simp only [pu, pn, s1, s2, s3]
        refine wT (i := 9) (oi := { dst := some 22, op := Op.index 9 (Operand.tmp 20) (Operand.tmp 21), type := 5, pos := "ref.go:20", after := #[{ on := 7, ground := Ground.data }, { on := 8, ground := Ground.data }], guard := none }) (v := (.int .u8 (x.toNat : Int) : Value)) rfl (Or.inl ⟨by rfl, ?_⟩) HHeld.out ?_
        · intro V hV; have hc0 := hx2; clear hV; go_simp
        try simp only [pu, pn, s1, s2, s3]
        refine wT (i := 10) (oi := { dst := some 23, op := Op.binOp BinOp.rem 5 (Operand.tmp 22) (Operand.const (Value.int IntKind.u8 16)) 5, type := 5, pos := "ref.go:20", after := #[{ on := 9, ground := Ground.data }], guard := none }) (v := (.int .u8 (q : Int) : Value)) rfl (Or.inl ⟨by rfl, ?_⟩) HHeld.out ?_
        · intro V hV; have hc0 := em; clear hV; go_simp
        try simp only [pu, pn, s1, s2, s3]
        refine wpAnyH_ready (rs := [5]) (by kernel_rfl) (by simp) ?_
        refine AllReadyH.cons (o := { dst := some 18, op := Op.call { callee := Callee.value (Operand.func 46), args := #[Operand.tmp 17], argTypes := #[5] }, type := 9, pos := "ref.go:20", after := #[{ on := 4, ground := Ground.data }], guard := none }) rfl (fun K hK => ?_) AllReadyH.nil
        go_simp
        go_at_call 46; ((refine (HPX.out _).mono ?_); rintro e w1 ⟨rfl, rfl⟩)
        refine hK.out _ _ ?_ (fun hHeld => ?_)
        · trivial
        clear HHeld; have HHeld := Lib.hid hHeld; clear hHeld
        clear hK K
        try simp only [pu, pn, s1, s2, s3]
        refine wT (i := 6) (oi := { dst := some 19, op := Op.binOp BinOp.add 9 (Operand.tmp 13) (Operand.tmp 18) 9, type := 9, pos := "ref.go:20", after := #[{ on := 0, ground := Ground.data }, { on := 5, ground := Ground.data }], guard := none }) (v := (.string (O ++ P) : Value)) rfl (Or.inl ⟨by rfl, ?_⟩) HHeld.out ?_
        · intro V hV; clear hV; have hs := HS1.out; go_simp; omega
        try simp only [pu, pn, s1, s2, s3]
        refine wpAnyH_ready (rs := [11]) (by kernel_rfl) (by simp) ?_
        refine AllReadyH.cons (o := { dst := some 24, op := Op.call { callee := Callee.value (Operand.func 46), args := #[Operand.tmp 23], argTypes := #[5] }, type := 9, pos := "ref.go:20", after := #[{ on := 10, ground := Ground.data }, { on := 5, ground := Ground.chain }], guard := none }) rfl (fun K hK => ?_) AllReadyH.nil
        go_simp
        go_at_call 46; ((refine (HQX.out _).mono ?_); rintro e w1 ⟨rfl, rfl⟩)
        refine hK.out _ _ ?_ (fun hHeld => ?_)
        · trivial
        clear HHeld; have HHeld := Lib.hid hHeld; clear hHeld
        clear hK K
        try simp only [pu, pn, s1, s2, s3]
        refine wT (i := 12) (oi := { dst := some 25, op := Op.binOp BinOp.add 9 (Operand.tmp 19) (Operand.tmp 24) 9, type := 9, pos := "ref.go:20", after := #[{ on := 6, ground := Ground.data }, { on := 11, ground := Ground.data }], guard := none }) (v := (.string ((O ++ P) ++ Q) : Value)) rfl (Or.inl ⟨by rfl, ?_⟩) HHeld.out ?_
        · intro V hV; clear hV; have hs := HS2.out; go_simp; omega
        try simp only [pu, pn, s1, s2, s3]
        refine wT (i := 13) (oi := { dst := some 3, op := Op.assign (Operand.tmp 25), type := 9, pos := "ref.go:20", after := #[{ on := 12, ground := Ground.data }, { on := 11, ground := Ground.chain }, { on := 0, ground := Ground.phase }, { on := 1, ground := Ground.phase }, { on := 2, ground := Ground.phase }, { on := 3, ground := Ground.phase }, { on := 4, ground := Ground.phase }, { on := 5, ground := Ground.phase }, { on := 6, ground := Ground.phase }, { on := 7, ground := Ground.phase }, { on := 8, ground := Ground.phase }, { on := 9, ground := Ground.phase }, { on := 10, ground := Ground.phase }, { on := 11, ground := Ground.phase }, { on := 12, ground := Ground.phase }], guard := none }) (v := ?_) rfl (Or.inl ⟨by rfl, ?_⟩) HHeld.out ?_
        rotate_left
        · intro w hSw; clear hSw; go_simp; try with_reducible rfl
        try simp only [pu, pn, s1, s2, s3]
        refine wpAnyH_done (by kernel_rfl) ?_ _
        clear HHeld
        go_wp2
        exact ⟨⟨k + 1, by omega, by simp, Lib.hid (by rw [← HF.out]), HB.out.drew⟩, by simp [intOf]; omega⟩
      · have hk1 : ¬ (k : Int) < (t.size : Int) := by omega
        have hke : k = t.size := by omega
        subst hke
        have e2 : t.data.toList.take t.size = t.data.toList := List.take_of_length_le (by rw [ba_len]; omega)
        rw [e2] at hO
        subst hO
        clear e2
        go_wp2
        refine bodyPost_ret (v := .string ⟨(tokP t.data.toList).toArray⟩) (by simp [results, Tryz.results20, go_sem]) rfl ⟨rfl, HB.out⟩
end Go.Proofs.YtelpkajlejbbgaaGreatDoor
namespace Go.Proofs.YtelpkajlejbbgaaGreatDoor
open Go.RowKit Go.Maps
theorem cut_any (t : ByteArray) (ht : t.size ≤ 4000000) (w : World) (h : GW w) :
    Calls Tryz.prog 65 #[.string t, .string NL] w fun e w' => e = .returned (.tuple #[.string ⟨(Lib.cut t.data.toList [10]).1.toArray⟩, .string ⟨(Lib.cut t.data.toList [10]).2.1.toArray⟩, .bool (Lib.cut t.data.toList [10]).2.2]) ∧ Below w.heap.size w w' := by
  obtain ⟨m, hm⟩ := h.mx
  refine (sh_strings_Cut t NL m w (by omega) hm).mono fun e w' ⟨h1, n, h2⟩ => ⟨h1, ?_⟩
  rw [h2]; exact bel_drewN (Below.refl _ _) n
theorem split_any (t : ByteArray) (ht : t.size ≤ 4000000) (w : World) (h : GW w) :
    Calls Tryz.prog 66 #[.string t, .string SP] w fun e w' => ∃ b n, e = .returned (.slice (some ⟨b, 0, none⟩) n n) ∧ w.heap.size ≤ b ∧ (splitW t).length = n ∧ ES.Rd w' (some ⟨b, 0, none⟩) (splitW t) ∧ Below w.heap.size w w' := by
  obtain ⟨m, hm⟩ := h.mx
  refine (sh_strings_Split t SP m w (by omega) hm (by decide)).mono fun e w' ⟨h1, h2⟩ => ⟨_, _, h1, Nat.le_refl _, split_len t, ?_, ?_⟩
  · rw [h2]; exact RE.Rd.lit (E := ES) w 9 (splitW t) _ (by rw [es_all]; rfl)
  · rw [h2]; exact alb _ _
/-- The words of the next line, and what is left behind it. -/
def nextF (t : ByteArray) : Option (List ByteArray × ByteArray) :=
  if (Lib.cut t.data.toList [10]).2.2 then some (splitW ⟨(Lib.cut t.data.toList [10]).1.toArray⟩, ⟨(Lib.cut t.data.toList [10]).2.1.toArray⟩) else none
theorem next_facts {t : ByteArray} {ws : List ByteArray} {u : ByteArray} (h : nextF t = some (ws, u)) : 0 < ws.length ∧ u.size < t.size ∧ (∀ x ∈ ws, x.size ≤ t.size) ∧ t.data.toList = Lib.join (ws.map (·.data.toList)) [32] ++ 10 :: u.data.toList ∧ (10 : UInt8) ∉ Lib.join (ws.map (·.data.toList)) [32] := by
  unfold nextF at h
  split at h
  · rename_i hc
    rcases cut_cases 10 t.data.toList with ⟨h1, _⟩ | ⟨_, h2, h3⟩
    · rw [h1] at hc; cases hc
    · obtain ⟨⟨a, b, o⟩, he⟩ : ∃ z, Lib.cut t.data.toList [10] = z := ⟨_, rfl⟩
      rw [he] at h h2 h3
      simp only at h h2 h3
      cases h
      have hl := congrArg List.length h2
      rw [ba_len, List.length_append, List.length_cons] at hl
      refine ⟨split_ne _, by rw [ba_size]; omega, fun x hx => ?_, ?_, ?_⟩
      · have h5 := split_sz SP _ _ x hx
        have h6 := ba_size a
        omega
      · rw [split_back, ba_list, ba_list]; exact h2
      · rw [split_back, ba_list]; exact h3
  · cases h
set_option maxHeartbeats 1000000 in
set_option maxRecDepth 100000 in
theorem next_ok {B g : Nat} {t : ByteArray} {ln : Int} {w : World} {ws : List ByteArray} {u : ByteArray} (hr : RB w g t ln) (hb : GB B w) (hg : B ≤ g) (ht : t.size ≤ 4000000) (hl : 0 ≤ ln ∧ ln ≤ 100000000) (hn : nextF t = some (ws, u)) :
    Calls Tryz.prog 41 #[.pointer (some ⟨g, 0, none⟩)] w fun e w' => ∃ b n, e = .returned (.slice (some ⟨b, 0, none⟩) n n) ∧ w.heap.size ≤ b ∧ ws.length = n ∧ ES.Rd w' (some ⟨b, 0, none⟩) ws ∧ RB w' g u (ln + 1) ∧ Chg (fun x => x = g) w w' := by
  have WL : IntKind.i64.wrap (ln + 1) = ln + 1 := IntWalk.i64_in _ (by omega)
  have HT := Lib.hid ht
  have c0 := hr.c0
  have c1 := hr.c1
  have f1 := hr.fr 1
  have R1 := Lib.hid (hr.set1 (ln + 1))
  have C1 := Lib.hid (Chg.set (D := fun x => x = g) w (l := g) (o := 1) (.int .i64 (ln + 1)) rfl)
  have G1 := Lib.hid (hb.chg C1.out hg)
  have hlt := hr.lt
  unfold nextF at hn
  obtain ⟨⟨a, b, o⟩, he⟩ : ∃ z, Lib.cut t.data.toList [10] = z := ⟨_, rfl⟩
  rw [he] at hn
  cases o with
  | false => simp at hn
  | true =>
    simp only [if_true] at hn
    cases hn
    have hcs := cut_cases 10 t.data.toList
    rw [he] at hcs
    have hsz : a.length ≤ 4000000 := by
      rcases hcs with ⟨h1, _⟩ | ⟨_, h2, _⟩
      · cases h1
      · have h5 : t.data.toList = a ++ 10 :: b := h2
        have h6 := congrArg List.length h5
        rw [ba_len, List.length_append] at h6; omega
    obtain ⟨T1, hT1⟩ : ∃ T1 : ByteArray, T1 = ⟨a.toArray⟩ := ⟨_, rfl⟩
    obtain ⟨T2, hT2⟩ : ∃ T2 : ByteArray, T2 = ⟨b.toArray⟩ := ⟨_, rfl⟩
    rw [← hT1, ← hT2]
    have HS1 : Hid (T1.size ≤ 4000000) := Lib.hid (by rw [hT1, ba_size]; exact hsz)
    obtain ⟨w1, hw1⟩ : ∃ w1, w1 = w.setCell ⟨g, 1, none⟩ (.int .i64 (ln + 1)) := ⟨_, rfl⟩
    rw [← hw1] at R1 C1 G1
    have CU := Lib.hid (cut_any t ht w1 G1.out.gw)
    rw [he] at CU
    simp only at CU
    rw [← hT1, ← hT2] at CU
    have d0 := R1.out.c0
    have HLT := Lib.hid hlt
    clear hT1 hT2 hcs hsz he hr hb ht hl hlt
    go_enter Tryz.func41, Tryz.ntmps41
    go_upto_region 2 with fail
    rw [← hw1]
    clear hw1 c0 c1 f1
    go_wp2_with (first
      | (go_at_call 65; ((refine CU.out.mono ?_); rintro e w2 ⟨rfl, b2⟩; have R2 := Lib.hid (R1.out.later b2); have C2 := Lib.hid (C1.out.later b2); have G2 := Lib.hid (G1.out.later b2); clear b2))
      | (go_at_call 42; ((refine (check_ok g 5 _).mono ?_); rintro e w3 ⟨rfl, rfl⟩; have c0 := R2.out.c0; have f0 := R2.out.fr 0; have R3 := Lib.hid (R2.out.set0 T2); have C3 := Lib.hid (C2.out.then (Chg.set (D := fun x => x = g) _ (l := g) (o := 0) (.string T2) rfl)); have G3 := Lib.hid (G2.out.chg (Chg.set (D := fun x => x = g) _ (l := g) (o := 0) (.string T2) rfl) hg)))
      | (go_at_call 66; ((refine (split_any T1 HS1.out _ G3.out.gw).mono ?_); rintro e w4 ⟨b4, n4, rfl, h41, h42, h43, h44⟩; have Q4 := Lib.hid (And.intro h41 (And.intro h42 (And.intro h43 h44))); clear h41 h42 h43 h44))
      | fail)
    go_ret
    obtain ⟨h41, h42, h43, h44⟩ := Q4.out
    exact ⟨b4, n4, rfl, Nat.le_trans C3.out.size h41, h42, h43, R3.out.later h44, C3.out.later h44⟩
set_option maxHeartbeats 1000000 in
set_option maxRecDepth 100000 in
theorem next_bad {B g : Nat} {t : ByteArray} {ln : Int} {w : World} (hr : RB w g t ln) (hb : GB B w) (hg : B ≤ g) (ht : t.size ≤ 4000000) (hl : 0 ≤ ln ∧ ln ≤ 100000000) (hn : nextF t = none) :
    Calls Tryz.prog 41 #[.pointer (some ⟨g, 0, none⟩)] w fun e w' => e = .panicked [FP (ln + 1) 5] ∧ Chg (fun x => x = g) w w' := by
  have WL : IntKind.i64.wrap (ln + 1) = ln + 1 := IntWalk.i64_in _ (by omega)
  have c0 := hr.c0
  have c1 := hr.c1
  have f1 := hr.fr 1
  have R1 := Lib.hid (hr.set1 (ln + 1))
  have C1 := Lib.hid (Chg.set (D := fun x => x = g) w (l := g) (o := 1) (.int .i64 (ln + 1)) rfl)
  have G1 := Lib.hid (hb.chg C1.out hg)
  have ho : (Lib.cut t.data.toList [10]).2.2 = false := by
    cases e : (Lib.cut t.data.toList [10]).2.2 with
    | false => rfl
    | true => unfold nextF at hn; rw [if_pos e] at hn; cases hn
  obtain ⟨w1, hw1⟩ : ∃ w1, w1 = w.setCell ⟨g, 1, none⟩ (.int .i64 (ln + 1)) := ⟨_, rfl⟩
  rw [← hw1] at R1 C1 G1
  have CU := Lib.hid (cut_any t ht w1 G1.out.gw)
  rw [ho] at CU
  have d0 := R1.out.c0
  clear hr hb ht hl hn ho
  go_enter Tryz.func41, Tryz.ntmps41
  go_upto_region 2 with fail
  rw [← hw1]
  clear hw1 c0 c1 f1
  go_wp2_with (first
    | (go_at_call 65; ((refine CU.out.mono ?_); rintro e w2 ⟨rfl, b2⟩; have R2 := Lib.hid (R1.out.later b2); have C2 := Lib.hid (C1.out.later b2); clear b2))
    | (go_at_call 42; ((refine (check_bad g 5 _ R2.out).mono ?_); rintro e w3 ⟨rfl, rfl⟩))
    | fail)
  exact ⟨rfl, rfl, C2.out⟩
/-- What a word is, or a fault. -/
def RN (v : Option Value) (ln : Int) (w : World) (e : Ending) (w' : World) : Prop :=
  (match v with
    | some x => e = .returned x
    | none => e = .panicked [FP ln 3]) ∧ Below w.heap.size w w'
set_option maxHeartbeats 1000000 in
set_option maxRecDepth 100000 in
theorem rnumber_any {B g : Nat} {t s : ByteArray} {ln : Int} {w : World} (hr : RB w g t ln) (hb : GB B w) (hs : s.size ≤ 4000000) :
    Calls Tryz.prog 75 #[.pointer (some ⟨g, 0, none⟩), .string s] w (RN ((numB s).map (Value.int .i64)) ln w) := by
  have NA := Lib.hid (number_any s (by omega) w hb.gw)
  have HR := Lib.hid hr
  clear hr hb
  unfold numV at NA
  cases hn : numB s with
  | none =>
    rw [hn] at NA
    clear hn
    go_enter Tryz.func75, Tryz.ntmps75
    go_wp2_with (first
      | (go_at_call 88; ((refine NA.out.mono ?_); rintro e w1 ⟨rfl, b1⟩; have R1 := Lib.hid (HR.out.later b1); have B1 := Lib.hid b1; clear b1))
      | (go_at_call 42; ((refine (check_bad g 3 _ R1.out).mono ?_); rintro e w2 ⟨rfl, rfl⟩))
      | fail)
    exact ⟨rfl, rfl, B1.out⟩
  | some v =>
    rw [hn] at NA
    clear hn
    go_enter Tryz.func75, Tryz.ntmps75
    go_wp2_with (first
      | (go_at_call 88; ((refine NA.out.mono ?_); rintro e w1 ⟨rfl, b1⟩; have R1 := Lib.hid (HR.out.later b1); have B1 := Lib.hid b1; clear b1))
      | (go_at_call 42; ((refine (check_ok g 3 _).mono ?_); rintro e w2 ⟨rfl, rfl⟩))
      | fail)
    go_ret
    exact ⟨rfl, B1.out⟩
set_option maxHeartbeats 1000000 in
set_option maxRecDepth 100000 in
theorem rtext_any {B g : Nat} {t s : ByteArray} {ln : Int} {w : World} (hr : RB w g t ln) (hb : GB B w) (hs : s.size ≤ 1000000) :
    Calls Tryz.prog 77 #[.pointer (some ⟨g, 0, none⟩), .string s] w (RN ((txtB s).map Value.string) ln w) := by
  have NA := Lib.hid (from_any s hs w)
  have HR := Lib.hid hr
  clear hr hb
  unfold txtV at NA
  cases hn : txtB s with
  | none =>
    rw [hn] at NA
    clear hn
    go_enter Tryz.func77, Tryz.ntmps77
    go_wp2_with (first
      | (go_at_call 17; ((refine NA.out.mono ?_); rintro e w1 ⟨rfl, b1⟩; have R1 := Lib.hid (HR.out.later b1); have B1 := Lib.hid b1; clear b1))
      | (go_at_call 42; ((refine (check_bad g 3 _ R1.out).mono ?_); rintro e w2 ⟨rfl, rfl⟩))
      | fail)
    exact ⟨rfl, rfl, B1.out⟩
  | some v =>
    rw [hn] at NA
    clear hn
    go_enter Tryz.func77, Tryz.ntmps77
    go_wp2_with (first
      | (go_at_call 17; ((refine NA.out.mono ?_); rintro e w1 ⟨rfl, b1⟩; have R1 := Lib.hid (HR.out.later b1); have B1 := Lib.hid b1; clear b1))
      | (go_at_call 42; ((refine (check_ok g 0 _).mono ?_); rintro e w2 ⟨rfl, rfl⟩))
      | fail)
    go_ret
    exact ⟨rfl, B1.out⟩
def numsB : List ByteArray → Option (List Int)
  | [] => some []
  | t :: ts => (numB t).bind fun v => (numsB ts).map (v :: ·)
theorem nums_app : ∀ (a b : List ByteArray), numsB (a ++ b) = (numsB a).bind fun x => (numsB b).map (x ++ ·)
  | [], b => by
    show numsB b = _
    cases numsB b <;> rfl
  | t :: a, b => by
    show (numB t).bind (fun v => (numsB (a ++ b)).map (v :: ·)) = ((numB t).bind (fun v => (numsB a).map (v :: ·))).bind _
    rw [nums_app a b]
    cases numB t with
    | none => rfl
    | some v =>
      cases numsB a with
      | none => rfl
      | some x =>
        simp only [Option.bind_some, Option.map_some]
        cases numsB b <;> rfl
theorem nums_len : ∀ {a : List ByteArray} {l : List Int}, numsB a = some l → l.length = a.length
  | [], l, h => by unfold numsB at h; cases h; rfl
  | t :: a, l, h => by
    unfold numsB at h
    cases hn : numB t with
    | none => rw [hn] at h; cases h
    | some v =>
      rw [hn] at h
      simp only [Option.bind_some] at h
      obtain ⟨x, hx, rfl⟩ := Option.map_eq_some_iff.1 h
      simp [nums_len hx]
/-- Numbers in a row, or a fault. -/
def RL (r : Option (List Int)) (ln : Int) (w : World) (e : Ending) (w' : World) : Prop :=
  (match r with
    | some l => ∃ A c, e = .returned (.slice A l.length c) ∧ EI.Row w' w.heap.size A l c
    | none => e = .panicked [FP ln 3]) ∧ Below w.heap.size w w'
set_option maxHeartbeats 1000000 in
set_option maxRecDepth 100000 in
theorem rnumbers_any {B g : Nat} {t : ByteArray} {ln : Int} {w : World} (A : Option Addr) (n c : Nat) (ws : List ByteArray) (hr : RB w g t ln) (hb : GB B w) (hl : ws.length = n) (hn : n ≤ 900000) (hA : ES.Rd w A ws) (hs : ∀ x ∈ ws, x.size ≤ 4000000) :
    Calls Tryz.prog 63 #[.pointer (some ⟨g, 0, none⟩), .slice A n c] w (RL (numsB ws) ln w) := by
  have HR := Lib.hid hr
  have HG := Lib.hid hb
  have HL := Lib.hid (And.intro hl hn)
  have HA := Lib.hid hA
  have HS := Lib.hid hs
  obtain ⟨r, hrr⟩ : ∃ r, numsB ws = r := ⟨_, rfl⟩
  rw [hrr]
  have HRR := Lib.hid hrr
  clear hr hb hl hA hs hrr
  go_enter Tryz.func63, Tryz.ntmps63
  go_upto_region 3 with fail
  go_loopw [5, 10] (fun lv iv wr => ∃ (k : Nat) (l : List Int) (A2 : Option Addr) (c2 : Nat), k ≤ n ∧ iv = .int .i64 k ∧ lv = .slice A2 k c2 ∧ Hid (numsB (ws.take k) = some l) ∧ Hid (l.length = k) ∧ Hid (EI.Row wr w.heap.size A2 l c2) ∧ Below w.heap.size w wr) (fun _ iv _ => n - (intOf iv).toNat)
  case atStart => exact ⟨0, [], none, 0, by omega, rfl, rfl, Lib.hid rfl, Lib.hid rfl, Lib.hid (.inl ⟨rfl, rfl⟩), Below.refl _ _⟩
  case round =>
    obtain ⟨k, l, A2, c2, hk, rfl, rfl, HP, HK, HW, hbw⟩ := hrel
    have HB := Lib.hid hbw
    clear hbw
    have hNN := HL.out
    by_cases h8 : k < n
    · have hk1 : (k : Int) < (n : Int) := by omega
      have hk0 : (0 : Int) ≤ (k : Int) := by omega
      have WK : IntKind.i64.wrap ((k : Int) + 1) = (k : Int) + 1 := IntWalk.i64_in _ (by omega)
      obtain ⟨x, hx⟩ : ∃ x, ws[k]? = some x := ⟨_, List.getElem?_eq_getElem (by omega)⟩
      obtain ⟨b, off, rfl, hlt, g0⟩ := es_at (HA.out.later HB.out) hx
      have HX := Lib.hid hx
      have NB := Lib.hid (rnumber_any (HR.out.later HB.out) (HG.out.later HB.out) (HS.out x (List.mem_of_getElem? hx)))
      unfold RN at NB
      have htk : ws.take (k + 1) = ws.take k ++ [x] := by rw [List.take_add_one, hx]; rfl
      have hap : numsB (ws.take (k + 1)) = (numB x).map (fun v => l ++ [v]) := by
        rw [htk, nums_app, HP.out]
        show (numsB [x]).map _ = _
        show ((numB x).bind fun v => some [v]).map _ = _
        cases numB x <;> rfl
      have HK2 := Lib.hid (show k ≤ 1000000 by omega)
      cases hnx : numB x with
      | none =>
        rw [hnx] at NB hap
        have HE : Hid (r = none) := Lib.hid (by
          rw [← HRR.out, ← List.take_append_drop (k + 1) ws, nums_app, hap]; rfl)
        clear hnx hap htk hx hNN
        go_wp2_with (first
          | (go_at_call 75; ((refine NB.out.mono ?_); rintro e w1 ⟨rfl, b1⟩; have B1 := Lib.hid (bel_trans HB.out b1); clear b1))
          | fail)
        refine ⟨rfl, ?_, B1.out⟩
        rw [HE.out]
      | some v =>
        rw [hnx] at NB hap
        have HAP := Lib.hid hap
        clear hnx hap htk hx hNN
        go_wp2_with (first
          | (go_at_call 75; ((refine NB.out.mono ?_); rintro e w1 ⟨he, b1⟩; simp only [Option.map_some] at he; subst he; have B1 := Lib.hid (bel_trans HB.out b1); have RW := Lib.hid ((HW.out.later b1).later (alb w1 (.cells #[.int .i64 v] 3))); have RV := Lib.hid (RE.Rd.lit (E := EI) w1 3 [v] #[.int .i64 v] rfl); have B2 := Lib.hid (bel_alloc B1.out (.cells #[.int .i64 v] 3)); clear b1))
          | (at_builtin; refine RE.wpList_put EI _ rfl (.tmp 14) (.tmp 18) rfl (base := w.heap.size) A2 k c2 _ _ 1 1 [v] rfl rfl RW.out HK.out HK2.out B2.out.size rfl (by omega) RV.out ?_; intro A3 c3 w5 r1 r2 r3; have R1 := Lib.hid r1; have R2 := Lib.hid r2; clear r1 r2 r3)
          | fail)
        exact ⟨⟨k + 1, l ++ [v], A3, c3, by omega, rfl, rfl, Lib.hid HAP.out, Lib.hid (by rw [List.length_append, HK.out]; rfl), R1, B2.out.trans (RE.Row.below R2.out RW.out (Nat.le_refl _) B2.out.size)⟩, by simp [intOf]; omega⟩
    · have hke : k = n := by omega
      subst hke
      have hk1 : ¬ (k : Int) < (k : Int) := by omega
      have HE : Hid (r = some l) := Lib.hid (by
        rw [← HRR.out, ← HP.out, List.take_of_length_le (by omega)])
      have HKK := Lib.hid HK.out
      clear hNN
      go_wp2
      refine bodyPost_ret (v := .slice A2 k c2) (by simp [results, Tryz.results63, go_sem]) rfl ⟨?_, HB.out⟩
      rw [HE.out]
      exact ⟨A2, c2, by rw [HKK.out], HW.out⟩
end Go.Proofs.YtelpkajlejbbgaaGreatDoor
