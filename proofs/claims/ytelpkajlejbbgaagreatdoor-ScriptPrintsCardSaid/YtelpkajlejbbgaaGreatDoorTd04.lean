/- Texts of the proof, one behind the other. -/
import Derived.Test.YtelpkajlejbbgaaGreatDoorTd03
import Derived.Test.YtelpkajlejbbgaaGreatDoorTd01
import Derived.Lib.ItoaLen
set_option linter.unusedVariables false
set_option linter.unusedSimpArgs false
namespace Go.Proofs.YtelpkajlejbbgaaGreatDoor
open Go.RowKit Go.Maps
theorem lit_ne {t : ByteArray} {l : List UInt8} (h : t.data.toList ≠ l) : (t.toList == l) = false := by
  rw [ByteArray.toList_eq, beq_eq_false_iff_ne]; exact h
theorem lit_eq {t : ByteArray} {l : List UInt8} (h : t.data.toList = l) : (t.toList == l) = true := by
  rw [ByteArray.toList_eq, beq_iff_eq]; exact h
theorem ixbyte_lit (c : UInt8) (w : World) : Calls Tryz.prog 43 #[.string ⟨#[48, 49, 50, 51, 52, 53, 54, 55, 56, 57, 97, 98, 99, 100, 101, 102]⟩, .int .u8 c.toNat] w fun e w' => e = .returned (.int .i64 (ixV c)) ∧ w' = w := ixbyte_any c w
theorem ixV_some {c : UInt8} {n : Nat} (h : hexv c = some n) : ixV c = n ∧ n < 16 := by
  refine ⟨?_, (hexv_some h).1⟩
  unfold ixV; rw [h]
theorem ixV_none {c : UInt8} (h : hexv c = none) : ixV c = -1 := by unfold ixV; rw [h]
set_option maxHeartbeats 400000 in
set_option maxRecDepth 100000 in
theorem from_short (t : ByteArray) (h : t = ⟨#[45]⟩ ∨ t = ⟨#[]⟩ ∨ t.size % 2 = 1) (ht : t.size ≤ 1000000) (w : World) :
    Calls Tryz.prog 17 #[.string t] w fun e w' => e = .returned (txtV t) ∧ Below w.heap.size w w' := by
  by_cases h1 : t = ⟨#[45]⟩
  · subst h1
    rw [txt_minus]
    have e1 : ((⟨#[45]⟩ : ByteArray).toList == (⟨#[45]⟩ : ByteArray).toList) = true := bytes_eq rfl
    go_enter Tryz.func17, Tryz.ntmps17
    go_wp2
    refine bodyPost_ret (v := .tuple #[.string ⟨#[]⟩, .int .i64 0]) (by simp [results, Tryz.results17, go_sem]) rfl ⟨rfl, Below.refl _ _⟩
  · have e1 : (t.toList == [45]) = false := lit_ne (fun e => h1 (ba_inj e))
    have HV : Hid (txtV t = .tuple #[.string ⟨#[]⟩, .int .i64 3]) := Lib.hid (by
      unfold txtV
      have : txtB t = none := by
        rcases h with h | h | h
        · exact absurd h h1
        · subst h; decide +kernel
        · by_cases h2 : t = ⟨#[]⟩
          · subst h2; decide +kernel
          · rw [txt_form h1 h2, unP_odd _ _ (Nat.le_refl _) (by rw [ba_len]; exact h)]; rfl
      rw [this])
    by_cases h2 : t = ⟨#[]⟩
    · have e2 : t.toList.isEmpty = true := by subst h2; decide +kernel
      clear h h1 h2
      go_enter Tryz.func17, Tryz.ntmps17
      go_wp2
      all_goals
        refine bodyPost_ret (v := .tuple #[.string ⟨#[]⟩, .int .i64 3]) (by simp [results, Tryz.results17, go_sem]) rfl ⟨by rw [HV.out], Below.refl _ _⟩
    · have e2 : t.toList.isEmpty = false := ne_empty h2
      have e3 : (t.size : Int).tmod 2 = 1 := by
        rcases h with h | h | h
        · exact absurd h h1
        · exact absurd h h2
        · rw [Int.tmod_eq_emod_of_nonneg (by omega)]; omega
      clear h h1 h2
      go_enter Tryz.func17, Tryz.ntmps17
      go_wp2
      all_goals
        first
        | (refine bodyPost_ret (v := .tuple #[.string ⟨#[]⟩, .int .i64 3]) (by simp [results, Tryz.results17, go_sem]) rfl ⟨by rw [HV.out], Below.refl _ _⟩)
        | (exfalso; omega)
theorem or_digit : ∀ p : Nat, p < 16 → ∀ q : Nat, q < 16 → bits BinOp.or IntKind.i64 ((p : Int) * 16) (q : Int) % 256 = ((p * 16 + q : Nat) : Int) := by decide +kernel
set_option maxHeartbeats 1000000 in
set_option maxRecDepth 100000 in
theorem from_long (t : ByteArray) (h1 : t ≠ ⟨#[45]⟩) (h2 : t ≠ ⟨#[]⟩) (m : Nat) (h3 : t.size = 2 * m) (ht : t.size ≤ 1000000) (w : World) :
    Calls Tryz.prog 17 #[.string t] w fun e w' => e = .returned (txtV t) ∧ Below w.heap.size w w' := by
  have e1 : (t.toList == [45]) = false := lit_ne (fun e => h1 (ba_inj e))
  have e2 : t.toList.isEmpty = false := ne_empty h2
  have HF := Lib.hid (txt_form h1 h2)
  have e3 : (t.size : Int).tmod 2 = 0 := by rw [Int.tmod_eq_emod_of_nonneg (by omega)]; omega
  have e4 : (t.size : Int).tdiv 2 = (m : Int) := by rw [Int.tdiv_eq_ediv_of_nonneg (by omega)]; omega
  have wm : IntKind.i64.wrap (m : Int) = (m : Int) := IntWalk.i64_in _ (by omega)
  have e5 : ¬ (0 : Int) < (t.size : Int).tmod 2 := by omega
  obtain ⟨i0, hI0, hI1, hI2, hI3⟩ := EB.parts
  obtain ⟨w0, hr, hown, hg⟩ := run_make_own (P := Tryz.prog) w w.heap.size 55 5 i0 (.int .u8 0) 1 Tryz.underlying55 hI0 hI1 hI2 .i64 .i64 m (by rw [hI3]; show 1 * m ≤ _; omega) (by unfold maxLen; omega) (Nat.le_refl _)
  obtain ⟨v, hv⟩ : ∃ v, txtV t = v := ⟨_, rfl⟩
  rw [hv]
  have HV := Lib.hid hv
  have HM := Lib.hid (And.intro h3 ht)
  have HM0 : Hid (0 < m) := Lib.hid (by
    rcases Nat.eq_zero_or_pos m with h | h
    · exfalso; apply h2; refine ba_inj (List.eq_nil_of_length_eq_zero ?_); rw [ba_len]; omega
    · exact h)
  have HOWN := Lib.hid hown
  have HG := Lib.hid hg
  clear h1 h2 h3 ht hown hg hv hI0 hI1 hI2 hI3
  go_enter Tryz.func17, Tryz.ntmps17
  go_upto_region 7 with fail
  go_loopw [4, 5] (fun bv iv wr => ∃ (j k : Nat) (l : List UInt8) (A : Option Addr) (c : Nat), k = 2 * j ∧ j ≤ m ∧ iv = .int .i64 k ∧ bv = .slice A j c ∧ Hid (l.length = j) ∧ Hid (unP (t.data.toList.take k) = some l) ∧ Hid (EB.Row wr w.heap.size A l c) ∧ Below w.heap.size w wr) (fun _ iv _ => t.size - (intOf iv).toNat)
  case atStart => exact ⟨0, 0, [], _, m, rfl, by omega, rfl, rfl, Lib.hid rfl, Lib.hid rfl, Lib.hid (.inr ⟨HM0.out, HOWN.out⟩), (Below.refl _ w).grown HG.out (Nat.le_refl _) (fun j hj => by cases hj)⟩
  case round =>
    obtain ⟨j, k, l, A, c, hk, hj, rfl, rfl, HL, HP, HR, hb⟩ := hrel
    have HB := Lib.hid hb
    clear hb
    have hM := HM.out
    have HKJ := Lib.hid hk
    by_cases h8 : k < t.size
    · have h9 : k + 1 < t.size := by omega
      have hk1 : (k : Int) < (t.size : Int) := by omega
      have hk2 : (k : Int) + 1 < (t.size : Int) := by omega
      have hk0 : (0 : Int) ≤ (k : Int) := by omega
      have hk3 : (0 : Int) ≤ (k : Int) + 1 := by omega
      have WK : IntKind.i64.wrap ((k : Int) + 1) = (k : Int) + 1 := IntWalk.i64_in _ (by omega)
      have WK2 : IntKind.i64.wrap ((k : Int) + 2) = (k : Int) + 2 := IntWalk.i64_in _ (by omega)
      obtain ⟨x, hx⟩ : ∃ x, t.data.toList[k]? = some x := ⟨_, List.getElem?_eq_getElem (by rw [ba_len]; exact h8)⟩
      obtain ⟨y, hy⟩ : ∃ y, t.data.toList[k + 1]? = some y := ⟨_, List.getElem?_eq_getElem (by rw [ba_len]; exact h9)⟩
      have hx2 : t[k]'h8 = x := by
        have q := (List.getElem?_eq_some_iff.1 hx).2
        rw [← q]; rfl
      have hy2 : t[k + 1]'h9 = y := by
        have q := (List.getElem?_eq_some_iff.1 hy).2
        rw [← q]; rfl
      have ht2 : t.data.toList = t.data.toList.take k ++ x :: y :: t.data.toList.drop (k + 2) := by
        have a1 := List.take_append_drop k t.data.toList
        have a2 : t.data.toList.drop k = x :: y :: t.data.toList.drop (k + 2) := by
          obtain ⟨p1, p2⟩ := List.getElem?_eq_some_iff.1 hx
          obtain ⟨q1, q2⟩ := List.getElem?_eq_some_iff.1 hy
          rw [List.drop_eq_getElem_cons p1, p2, List.drop_eq_getElem_cons q1, q2]
        rw [← a2]; exact a1.symm
      have HT2 := Lib.hid ht2
      clear hx hy ht2 hM hk
      go_upto_region 10 with fail
      go_region_with (first
        | (go_at_call 43; ((with_reducible refine (ixbyte_lit x _).mono ?_); rintro e w1 ⟨rfl, rfl⟩))
        | (go_at_call 43; ((with_reducible refine (ixbyte_lit y _).mono ?_); rintro e w1 ⟨rfl, rfl⟩)))
      all_goals
        obtain ⟨W, hW⟩ : ∃ W, W = wr.drew := ⟨_, rfl⟩
        rw [← hW]
        have HBW : Hid (Below w.heap.size w W) := Lib.hid (by rw [hW]; exact HB.out.drew)
        have HRW : Hid (EB.Row W w.heap.size A l c) := Lib.hid (by rw [hW]; exact HR.out.later (Below.refl _ _).drew)
        clear hW
        cases hq : hexv x with
        | none =>
          have ex := ixV_none hq
          have HE : Hid (v = .tuple #[.string ⟨#[]⟩, .int .i64 3]) := Lib.hid (by
            rw [← HV.out]; unfold txtV; rw [HF.out, HT2.out, unP_app _ _ _ _ (Nat.le_refl _) HP.out, unP_bad (.inl hq)]; rfl)
          simp only [ex]
          clear hq ex
          go_wp2
          refine bodyPost_ret (v := .tuple #[.string ⟨#[]⟩, .int .i64 3]) (by simp [results, Tryz.results17, go_sem]) rfl ⟨by rw [HE.out], HBW.out⟩
        | some p =>
          obtain ⟨ex, hp⟩ := ixV_some hq
          cases hr : hexv y with
          | none =>
            have ey := ixV_none hr
            have HE : Hid (v = .tuple #[.string ⟨#[]⟩, .int .i64 3]) := Lib.hid (by
              rw [← HV.out]; unfold txtV; rw [HF.out, HT2.out, unP_app _ _ _ _ (Nat.le_refl _) HP.out, unP_bad (.inr hr)]; rfl)
            simp only [ex, ey]
            clear hq ex hr ey
            go_wp2
            refine bodyPost_ret (v := .tuple #[.string ⟨#[]⟩, .int .i64 3]) (by simp [results, Tryz.results17, go_sem]) rfl ⟨by rw [HE.out], HBW.out⟩
          | some q =>
            obtain ⟨ey, hq2⟩ := ixV_some hr
            have HG2 := Lib.hid (unP_good (r := t.data.toList.drop (k + 2)) hq hr)
            have HG3 := Lib.hid (unP_good (r := []) hq hr)
            simp only [ex, ey]
            clear hq ex hr ey
            have hp0 : ¬ (p : Int) < 0 := by omega
            have hq0 : ¬ (q : Int) < 0 := by omega
            have hor : bits BinOp.or IntKind.i64 ((p : Int) * 16) (q : Int) % 256 = ((p * 16 + q : Nat) : Int) := or_digit p hp q hq2
            have hbyte : ((UInt8.ofNat (p * 16 + q)).toNat : Int) = ((p * 16 + q : Nat) : Int) := by rw [UInt8.toNat_ofNat']; omega
            have RL := Lib.hid (RE.Rd.lit (E := EB) W 5 [UInt8.ofNat (p * 16 + q)] #[.int .u8 ((p * 16 + q : Nat) : Int)] (by show [Value.int .u8 _] = [Value.int .u8 _]; rw [hbyte]))
            have BW := Lib.hid (bel_alloc HBW.out (.cells #[.int .u8 ((p * 16 + q : Nat) : Int)] 5))
            have RW := Lib.hid (HRW.out.later (alb W (.cells #[.int .u8 ((p * 16 + q : Nat) : Int)] 5)))
            clear hbyte
            have HL2 := Lib.hid (show j ≤ 1000000 by have := HM.out; omega)
            go_wp2_with (first
              | (at_builtin; refine RE.wpList_put EB _ rfl (.tmp 43) (.tmp 49) rfl (base := w.heap.size) A j c _ _ 1 1 [UInt8.ofNat (p * 16 + q)] rfl rfl RW.out HL.out HL2.out BW.out.size rfl (by omega) RL.out ?_; intro A2 c2 w5 r1 r2 r3; have R1 := Lib.hid r1; have R2 := Lib.hid r2; clear r1 r2 r3)
              | fail)
            exact ⟨⟨j + 1, k + 2, l ++ [UInt8.ofNat (p * 16 + q)], A2, c2, by have := HKJ.out; omega, by have := HM.out; have := HKJ.out; omega, rfl, rfl, Lib.hid (by rw [List.length_append, HL.out]; rfl), Lib.hid (by
              have e : t.data.toList.take (k + 2) = t.data.toList.take k ++ [x, y] := by
                conv => lhs; rw [HT2.out]
                have hlt : (t.data.toList.take k).length = k := by rw [List.length_take, ba_len]; omega
                rw [List.take_append, hlt, List.take_of_length_le (by rw [hlt]; omega), show k + 2 - k = 2 by omega]; rfl
              rw [e, unP_app _ _ _ _ (Nat.le_refl _) HP.out, HG3.out]; rfl), R1, BW.out.trans (RE.Row.below R2.out RW.out (Nat.le_refl _) BW.out.size)⟩, by simp [intOf]; omega⟩
    · have hke : k = t.size := by omega
      have hjm : j = m := by omega
      subst hjm
      have hk1 : ¬ (k : Int) < (t.size : Int) := by omega
      have htk : t.data.toList.take k = t.data.toList := List.take_of_length_le (by rw [ba_len]; omega)
      rw [htk] at HP
      have HE : Hid (v = .tuple #[.string ⟨l.toArray⟩, .int .i64 0]) := Lib.hid (by
        rw [← HV.out]; unfold txtV; rw [HF.out, HP.out]; rfl)
      have hcv : (convert 55 9 (.slice A j c)).run Tryz.prog wr = .ok (.string ⟨l.toArray⟩) wr := by
        rcases HR.out.rd with h0 | ⟨b, off, rfl, hlt, hc⟩
        · have := EB.all_empty h0
          have h1 := HL.out
          rw [this] at h1
          have := HM0.out
          simp at h1; omega
        · have g := run_convert_bytes_back (P := Tryz.prog) wr 55 9 5 ⟨b, off, none⟩ c l Tryz.underlying55 Tryz.underlying5 Tryz.underlying9 (fun i hi => by
            have e : (⟨b, off, none⟩ : Addr).add i = ⟨b, off + i, none⟩ := by unfold Addr.add; split <;> simp_all
            rw [e]
            refine hc i _ ?_
            rw [eb_all]
            simp [hi])
          rw [HL.out] at g
          exact g
      clear hM hk htk hke
      go_wp2
      refine bodyPost_ret (v := .tuple #[.string ⟨l.toArray⟩, .int .i64 0]) (by simp [results, Tryz.results17, go_sem]) rfl ⟨by rw [HE.out], HB.out⟩
theorem from_any (t : ByteArray) (ht : t.size ≤ 1000000) (w : World) : Calls Tryz.prog 17 #[.string t] w fun e w' => e = .returned (txtV t) ∧ Below w.heap.size w w' := by
  by_cases h1 : t = ⟨#[45]⟩
  · exact from_short t (.inl h1) ht w
  · by_cases h2 : t = ⟨#[]⟩
    · exact from_short t (.inr (.inl h2)) ht w
    · by_cases h3 : t.size % 2 = 1
      · exact from_short t (.inr (.inr h3)) ht w
      · exact from_long t h1 h2 (t.size / 2) (by omega) ht w
end Go.Proofs.YtelpkajlejbbgaaGreatDoor
namespace Go.Proofs.YtelpkajlejbbgaaGreatDoor
open Go.RowKit Go.Maps
def hexB (n : Nat) : ByteArray := ⟨#[hexd n]⟩
set_option maxHeartbeats 4000000 in
set_option maxRecDepth 100000 in
theorem hex_any (n : Nat) (h : n < 16) (w : World) : Calls Tryz.prog 46 #[.int .u8 (n : Int)] w fun e w' => e = .returned (.string (hexB n)) ∧ w' = w := by
  have all : n = 0 ∨ n = 1 ∨ n = 2 ∨ n = 3 ∨ n = 4 ∨ n = 5 ∨ n = 6 ∨ n = 7 ∨ n = 8 ∨ n = 9 ∨ n = 10 ∨ n = 11 ∨ n = 12 ∨ n = 13 ∨ n = 14 ∨ n = 15 := by omega
  rcases all with rfl | rfl | rfl | rfl | rfl | rfl | rfl | rfl | rfl | rfl | rfl | rfl | rfl | rfl | rfl | rfl
  all_goals
    go_enter Tryz.func46, Tryz.ntmps46
    go_wp2
    go_ret
    exact ⟨rfl, rfl⟩
end Go.Proofs.YtelpkajlejbbgaaGreatDoor
namespace Go.Proofs.YtelpkajlejbbgaaGreatDoor
open Go.RowKit Go.Maps
theorem hexB_size (n : Nat) : (hexB n).size = 1 := rfl
theorem ba_app (a b : ByteArray) : (a ++ b).data.toList = a.data.toList ++ b.data.toList := by
  rw [ByteArray.data_append, Array.toList_append]
set_option maxHeartbeats 4000000 in
set_option maxRecDepth 100000 in
theorem rtoken_any (t : ByteArray) (ht : t.size ≤ 1000000) (w : World) :
    Calls Tryz.prog 20 #[.string t] w fun e w' => e = .returned (.string (tokB t)) ∧ Below w.heap.size w w' := by
  by_cases hz : t = ⟨#[]⟩
  · subst hz
    rw [tok_nil]
    go_enter Tryz.func20, Tryz.ntmps20
    go_wp2
    go_ret
    exact ⟨rfl, Below.refl _ _⟩
  · have e1 : t.toList.isEmpty = false := ne_empty hz
    have hsz : t.size ≠ 0 := fun e => hz (ba_inj (List.eq_nil_of_length_eq_zero ((ba_len t).trans e)))
    rw [tokB_some hsz]
    have HT := Lib.hid ht
    clear ht hz hsz
    go_enter Tryz.func20, Tryz.ntmps20
    go_upto_region 5 with fail
    go_loopw [3, 4] (fun ov iv wr => ∃ (k : Nat), k ≤ t.size ∧ iv = .int .i64 k ∧ Hid (ov = .string ⟨(tokP (t.data.toList.take k)).toArray⟩) ∧ Below w.heap.size w wr) (fun _ i _ => t.size - (intOf i).toNat)
    case atStart => exact ⟨0, by omega, rfl, Lib.hid (by rw [List.take_zero]; rfl), Below.refl _ _⟩
    case round =>
      obtain ⟨k, hk, rfl, HOV, hb⟩ := hrel
      obtain ⟨O, hO⟩ : ∃ O : ByteArray, O = ⟨(tokP (t.data.toList.take k)).toArray⟩ := ⟨_, rfl⟩
      rw [← hO] at HOV
      (have hov := HOV.out; subst hov; clear HOV)
      have HB := Lib.hid hb
      clear hb
      by_cases h8 : k < t.size
      · have hk1 : (k : Int) < (t.size : Int) := by omega
        have hk0 : (0 : Int) ≤ (k : Int) := by omega
        obtain ⟨x, hx⟩ : ∃ x, t.data.toList[k]? = some x := ⟨_, List.getElem?_eq_getElem (by rw [ba_len]; exact h8)⟩
        have hx2 : t[k]'h8 = x := by
          have q := (List.getElem?_eq_some_iff.1 hx).2
          rw [← q]; rfl
        have hx3 := x.toNat_lt
        have WK : IntKind.i64.wrap ((k : Int) + 1) = (k : Int) + 1 := IntWalk.i64_in _ (by have := HT.out; omega)
        obtain ⟨p, hp⟩ : ∃ p, x.toNat / 16 = p := ⟨_, rfl⟩
        obtain ⟨q, hq⟩ : ∃ q, x.toNat % 16 = q := ⟨_, rfl⟩
        have hp16 : p < 16 := by omega
        have hq16 : q < 16 := by omega
        have HT1 := Lib.hid (show tokP (t.data.toList.take (k + 1)) = (tokP (t.data.toList.take k) ++ [hexd p]) ++ [hexd q] by rw [List.take_add_one, hx, tokP_app, ← hp, ← hq]; simp [tokP_one])
        have ed : (x.toNat : Int).tdiv 16 = (p : Int) := by rw [Int.tdiv_eq_ediv_of_nonneg (by omega)]; omega
        have em : (x.toNat : Int).tmod 16 = (q : Int) := by rw [Int.tmod_eq_emod_of_nonneg (by omega)]; omega
        have wp8 : IntKind.u8.wrap (p : Int) = (p : Int) := by show (p : Int) % 256 = p; omega
        have wq8 : IntKind.u8.wrap (q : Int) = (q : Int) := by show (q : Int) % 256 = q; omega
        have wpm : (p : Int) % 256 = p := by omega
        have wqm : (q : Int) % 256 = q := by omega
        have HF : Hid ((O ++ hexB p) ++ hexB q = ⟨(tokP (t.data.toList.take (k + 1))).toArray⟩) := Lib.hid (ba_inj (by rw [ba_app, ba_app, ba_list, HT1.out, hO, ba_list]; rfl))
        have HPX := Lib.hid (hex_any p hp16)
        have HQX := Lib.hid (hex_any q hq16)
        have HS1 : Hid (O.size + (hexB p).size ≤ 3000000) := Lib.hid (by rw [hexB_size, hO, ba_size, tokP_len, List.length_take]; have := HT.out; omega)
        have HS2 : Hid (O.size + (hexB p).size + (hexB q).size ≤ 3000000) := Lib.hid (by rw [hexB_size, hexB_size, hO, ba_size, tokP_len, List.length_take]; have := HT.out; omega)
        generalize hexB p = P at HPX HF HS1 HS2
        generalize hexB q = Q at HQX HF HS2
        clear hx hp hq hO HT1
        go_upto_region 7 with fail
        refine wp_region_held_drew (S := (fun _ : World => True)) (by kernel_rfl) ?_ (fun hHeld => ?_)
        · trivial
        have HHeld := Lib.hid hHeld; clear hHeld
        refine wT (i := 0) (oi := { dst := some 13, op := Op.move (Operand.tmp 3), type := 9, pos := "ref.go:20", after := #[], guard := none }) (v := ?_) rfl (Or.inl ⟨by rfl, ?_⟩) HHeld.out ?_
        rotate_left
        · intro w hSw; clear hSw; go_simp; try with_reducible rfl
        try simp only [pu, pn, s1, s2, s3]
        refine wT (i := 1) (oi := { dst := some 14, op := Op.move (Operand.tmp 0), type := 9, pos := "ref.go:20", after := #[], guard := none }) (v := ?_) rfl (Or.inl ⟨by rfl, ?_⟩) HHeld.out ?_
        rotate_left
        · intro w hSw; clear hSw; go_simp; try with_reducible rfl
        try simp only [pu, pn, s1, s2, s3]
        refine wT (i := 2) (oi := { dst := some 15, op := Op.move (Operand.tmp 4), type := 3, pos := "ref.go:20", after := #[], guard := none }) (v := ?_) rfl (Or.inl ⟨by rfl, ?_⟩) HHeld.out ?_
        rotate_left
        · intro w hSw; clear hSw; go_simp; try with_reducible rfl
        try simp only [pu, pn, s1, s2, s3]
        refine wT (i := 3) (oi := { dst := some 16, op := Op.index 9 (Operand.tmp 14) (Operand.tmp 15), type := 5, pos := "ref.go:20", after := #[{ on := 1, ground := Ground.data }, { on := 2, ground := Ground.data }], guard := none }) (v := (.int .u8 (x.toNat : Int) : Value)) rfl (Or.inl ⟨by rfl, ?_⟩) HHeld.out ?_
        · intro V hV; have hc0 := hx2; clear hV; go_simp
        try simp only [pu, pn, s1, s2, s3]
        refine wT (i := 4) (oi := { dst := some 17, op := Op.binOp BinOp.quo 5 (Operand.tmp 16) (Operand.const (Value.int IntKind.u8 16)) 5, type := 5, pos := "ref.go:20", after := #[{ on := 3, ground := Ground.data }], guard := none }) (v := (.int .u8 (p : Int) : Value)) rfl (Or.inl ⟨by rfl, ?_⟩) HHeld.out ?_
        · intro V hV; have hc0 := ed; clear hV; go_simp
        try simp only [pu, pn, s1, s2, s3]
        refine wT (i := 7) (oi := { dst := some 20, op := Op.move (Operand.tmp 0), type := 9, pos := "ref.go:20", after := #[], guard := none }) (v := ?_) rfl (Or.inl ⟨by rfl, ?_⟩) HHeld.out ?_
        rotate_left
        · intro w hSw; clear hSw; go_simp; try with_reducible rfl
        try simp only [pu, pn, s1, s2, s3]
        refine wT (i := 8) (oi := { dst := some 21, op := Op.move (Operand.tmp 4), type := 3, pos := "ref.go:20", after := #[], guard := none }) (v := ?_) rfl (Or.inl ⟨by rfl, ?_⟩) HHeld.out ?_
        rotate_left
        · intro w hSw; clear hSw; go_simp; try with_reducible rfl
        try simp only [pu, pn, s1, s2, s3]
        refine wT (i := 9) (oi := { dst := some 22, op := Op.index 9 (Operand.tmp 20) (Operand.tmp 21), type := 5, pos := "ref.go:20", after := #[{ on := 7, ground := Ground.data }, { on := 8, ground := Ground.data }], guard := none }) (v := (.int .u8 (x.toNat : Int) : Value)) rfl (Or.inl ⟨by rfl, ?_⟩) HHeld.out ?_
        · intro V hV; have hc0 := hx2; clear hV; go_simp
        try simp only [pu, pn, s1, s2, s3]
        refine wT (i := 10) (oi := { dst := some 23, op := Op.binOp BinOp.rem 5 (Operand.tmp 22) (Operand.const (Value.int IntKind.u8 16)) 5, type := 5, pos := "ref.go:20", after := #[{ on := 9, ground := Ground.data }], guard := none }) (v := (.int .u8 (q : Int) : Value)) rfl (Or.inl ⟨by rfl, ?_⟩) HHeld.out ?_
        · intro V hV; have hc0 := em; clear hV; go_simp
        try simp only [pu, pn, s1, s2, s3]
        refine wpAnyH_ready (rs := [5]) (by kernel_rfl) (by simp) ?_
        refine AllReadyH.cons (o := { dst := some 18, op := Op.call { callee := Callee.value (Operand.func 46), args := #[Operand.tmp 17], argTypes := #[5] }, type := 9, pos := "ref.go:20", after := #[{ on := 4, ground := Ground.data }], guard := none }) rfl (fun K hK => ?_) AllReadyH.nil
        go_simp
        go_at_call 46; ((refine (HPX.out _).mono ?_); rintro e w1 ⟨rfl, rfl⟩)
        refine hK.out _ _ ?_ (fun hHeld => ?_)
        · trivial
        clear HHeld; have HHeld := Lib.hid hHeld; clear hHeld
        clear hK K
        try simp only [pu, pn, s1, s2, s3]
        refine wT (i := 6) (oi := { dst := some 19, op := Op.binOp BinOp.add 9 (Operand.tmp 13) (Operand.tmp 18) 9, type := 9, pos := "ref.go:20", after := #[{ on := 0, ground := Ground.data }, { on := 5, ground := Ground.data }], guard := none }) (v := (.string (O ++ P) : Value)) rfl (Or.inl ⟨by rfl, ?_⟩) HHeld.out ?_
        · intro V hV; clear hV; have hs := HS1.out; go_simp; omega
        try simp only [pu, pn, s1, s2, s3]
        refine wpAnyH_ready (rs := [11]) (by kernel_rfl) (by simp) ?_
        refine AllReadyH.cons (o := { dst := some 24, op := Op.call { callee := Callee.value (Operand.func 46), args := #[Operand.tmp 23], argTypes := #[5] }, type := 9, pos := "ref.go:20", after := #[{ on := 10, ground := Ground.data }, { on := 5, ground := Ground.chain }], guard := none }) rfl (fun K hK => ?_) AllReadyH.nil
        go_simp
        go_at_call 46; ((refine (HQX.out _).mono ?_); rintro e w1 ⟨rfl, rfl⟩)
        refine hK.out _ _ ?_ (fun hHeld => ?_)
        · trivial
        clear HHeld; have HHeld := Lib.hid hHeld; clear hHeld
        clear hK K
        try simp only [pu, pn, s1, s2, s3]
        refine wT (i := 12) (oi := { dst := some 25, op := Op.binOp BinOp.add 9 (Operand.tmp 19) (Operand.tmp 24) 9, type := 9, pos := "ref.go:20", after := #[{ on := 6, ground := Ground.data }, { on := 11, ground := Ground.data }], guard := none }) (v := (.string ((O ++ P) ++ Q) : Value)) rfl (Or.inl ⟨by rfl, ?_⟩) HHeld.out ?_
        · intro V hV; clear hV; have hs := HS2.out; go_simp; omega
        try simp only [pu, pn, s1, s2, s3]
        refine wT (i := 13) (oi := { dst := some 3, op := Op.assign (Operand.tmp 25), type := 9, pos := "ref.go:20", after := #[{ on := 12, ground := Ground.data }, { on := 11, ground := Ground.chain }, { on := 0, ground := Ground.phase }, { on := 1, ground := Ground.phase }, { on := 2, ground := Ground.phase }, { on := 3, ground := Ground.phase }, { on := 4, ground := Ground.phase }, { on := 5, ground := Ground.phase }, { on := 6, ground := Ground.phase }, { on := 7, ground := Ground.phase }, { on := 8, ground := Ground.phase }, { on := 9, ground := Ground.phase }, { on := 10, ground := Ground.phase }, { on := 11, ground := Ground.phase }, { on := 12, ground := Ground.phase }], guard := none }) (v := ?_) rfl (Or.inl ⟨by rfl, ?_⟩) HHeld.out ?_
        rotate_left
        · intro w hSw; clear hSw; go_simp; try with_reducible rfl
        try simp only [pu, pn, s1, s2, s3]
        refine wpAnyH_done (by kernel_rfl) ?_ _
        clear HHeld
        go_wp2
        exact ⟨⟨k + 1, by omega, by simp, Lib.hid (by rw [← HF.out]), HB.out.drew⟩, by simp [intOf]; omega⟩
      · have hk1 : ¬ (k : Int) < (t.size : Int) := by omega
        have hke : k = t.size := by omega
        subst hke
        have e2 : t.data.toList.take t.size = t.data.toList := List.take_of_length_le (by rw [ba_len]; omega)
        rw [e2] at hO
        subst hO
        clear e2
        go_wp2
        refine bodyPost_ret (v := .string ⟨(tokP t.data.toList).toArray⟩) (by simp [results, Tryz.results20, go_sem]) rfl ⟨rfl, HB.out⟩
end Go.Proofs.YtelpkajlejbbgaaGreatDoor
namespace Go.Proofs.YtelpkajlejbbgaaGreatDoor
open Go.RowKit Go.Maps
theorem hexd_dig : ∀ n, n < 10 → UInt8.ofNat (48 + n) = hexd n := by decide +kernel
theorem utoa_lo {u : Nat} (h : u < 10) : utoaB u = hexB u := by
  unfold utoaB hexB
  rw [Lib.decDigits, dif_pos h, hexd_dig u h]
theorem utoa_hi {u : Nat} (h : ¬ u < 10) : utoaB u = utoaB (u / 10) ++ hexB (u % 10) := by
  refine ba_inj ?_
  rw [ba_app]
  unfold utoaB hexB
  rw [ba_list, ba_list, Lib.decDigits, dif_neg h, hexd_dig _ (by omega)]
theorem utoa_size (u : Nat) (h : u ≤ 18446744073709551615) : (utoaB u).size ≤ 20 := by
  unfold utoaB
  rw [ba_size, Lib.decDigits_length]
  exact Lib.nDigits_le20 u (by omega)
set_option maxHeartbeats 1000000 in
set_option maxRecDepth 100000 in
theorem digits_any (u : Nat) : ∀ (hu : u ≤ 18446744073709551615) (w : World), Calls Tryz.prog 52 #[.int .u64 (u : Int)] w fun e w' => e = .returned (.string (utoaB u)) ∧ w' = w := by
  induction u using Nat.strongRecOn with
  | _ u ih =>
    intro hu w
    by_cases h : u < 10
    · have HX := Lib.hid (hex_any u (by omega))
      rw [utoa_lo h]
      have k0 : (u : Int) < 10 := by omega
      have wu8 : IntKind.u8.wrap (u : Int) = (u : Int) := by show (u : Int) % 256 = u; omega
      have wum : (u : Int) % 256 = u := by omega
      clear ih
      go_enter Tryz.func52, Tryz.ntmps52
      go_wp2_with (first
        | (go_at_call 46; ((with_reducible refine (HX.out _).mono ?_); rintro e w1 ⟨rfl, rfl⟩))
        | fail)
      go_ret
      exact ⟨rfl, rfl⟩
    · have HI := Lib.hid (ih (u / 10) (by omega) (by omega))
      have HSZ := Lib.hid (utoa_size (u / 10) (by omega))
      rw [utoa_hi h]
      have k0 : ¬ (u : Int) < 10 := by omega
      obtain ⟨p, hp⟩ : ∃ p, u / 10 = p := ⟨_, rfl⟩
      obtain ⟨q, hq⟩ : ∃ q, u % 10 = q := ⟨_, rfl⟩
      rw [hp] at HI HSZ
      rw [hp, hq]
      have HX := Lib.hid (hex_any q (by omega))
      have ed : (u : Int).tdiv 10 = (p : Int) := by rw [Int.tdiv_eq_ediv_of_nonneg (by omega)]; omega
      have em : (u : Int).tmod 10 = (q : Int) := by rw [Int.tmod_eq_emod_of_nonneg (by omega)]; omega
      have wp6 : IntKind.u64.wrap (p : Int) = (p : Int) := by show (p : Int) % 18446744073709551616 = p; omega
      have wpm : (p : Int) % 18446744073709551616 = p := by omega
      have wq6 : IntKind.u64.wrap (q : Int) = (q : Int) := by show (q : Int) % 18446744073709551616 = q; omega
      have wqn : (q : Int) % 18446744073709551616 = q := by omega
      have wq8 : IntKind.u8.wrap (q : Int) = (q : Int) := by show (q : Int) % 256 = q; omega
      have wqm : (q : Int) % 256 = q := by omega
      have HS1 : Hid ((utoaB p).size + (hexB q).size ≤ 100) := Lib.hid (by rw [hexB_size]; have := HSZ.out; omega)
      generalize utoaB p = P at HI HS1 ⊢
      generalize hexB q = Q at HX HS1 ⊢
      have hcat : ¬ 9223372036854775807 < P.size + Q.size := by have := HS1.out; omega
      clear ih hp hq
      go_enter Tryz.func52, Tryz.ntmps52
      go_wp2_with (first
        | (go_at_call 52; ((with_reducible refine (HI.out _).mono ?_); rintro e w1 ⟨rfl, rfl⟩))
        | (go_at_call 46; ((with_reducible refine (HX.out _).mono ?_); rintro e w1 ⟨rfl, rfl⟩))
        | fail)
      all_goals
        first
        | (exfalso; have := HS1.out; omega)
        | (go_ret; exact ⟨rfl, rfl⟩)
def numT (n : Int) : Value := if inR n = true then .tuple #[.string (itoaB n), .bool true] else .tuple #[.string ⟨#[]⟩, .bool false]
set_option maxHeartbeats 1000000 in
set_option maxRecDepth 100000 in
theorem rnum_any (n : Int) (h0 : -9223372036854775808 ≤ n) (h1 : n ≤ 9223372036854775807) (w : World) : Calls Tryz.prog 28 #[.int .i64 n] w fun e w' => e = .returned (numT n) ∧ w' = w := by
  unfold numT
  by_cases hr : inR n = true
  · rw [if_pos hr]
    unfold inR at hr
    simp only [Bool.and_eq_true, decide_eq_true_eq] at hr
    obtain ⟨r0, r1⟩ := hr
    have k0 : ¬ n < -2147483647 := by omega
    have k1 : ¬ (2147483647 : Int) < n := by omega
    by_cases hneg : n < 0
    · obtain ⟨u, rfl⟩ : ∃ u : Nat, n = -(u : Int) := ⟨n.natAbs, by omega⟩
      have e : itoaB (-(u : Int)) = ⟨#[45]⟩ ++ utoaB u := by
        refine ba_inj ?_
        rw [ba_app]
        unfold itoaB utoaB
        rw [ba_list, ba_list, Lib.itoa_neg u (by omega)]
        rfl
      rw [e]
      have HD := Lib.hid (digits_any u (by omega))
      have HSZ := Lib.hid (utoa_size u (by omega))
      have w1 : IntKind.i64.wrap (u : Int) = (u : Int) := IntWalk.i64_in _ (by omega)
      have w2 : IntKind.u64.wrap (u : Int) = (u : Int) := by show (u : Int) % 18446744073709551616 = u; omega
      have w3 : (u : Int) % 18446744073709551616 = u := by omega
      generalize utoaB u = U at HD HSZ ⊢
      have hcat : ¬ 9223372036854775807 < 1 + U.size := by have := HSZ.out; omega
      clear e h0 h1
      go_enter Tryz.func28, Tryz.ntmps28
      go_wp2_with (first
        | (go_at_call 52; ((with_reducible refine (HD.out _).mono ?_); rintro e w1 ⟨rfl, rfl⟩))
        | fail)
      all_goals
        first
        | (exfalso; have := HSZ.out; omega)
        | (refine bodyPost_ret (v := .tuple #[.string (⟨#[45]⟩ ++ U), .bool true]) (by simp [results, Tryz.results28, go_sem]) rfl ⟨rfl, rfl⟩)
    · obtain ⟨u, rfl⟩ : ∃ u : Nat, n = (u : Int) := ⟨n.toNat, by omega⟩
      have e : itoaB (u : Int) = utoaB u := by
        unfold itoaB utoaB
        rw [Lib.itoa_nonneg]
      rw [e]
      have HD := Lib.hid (digits_any u (by omega))
      have w2 : IntKind.u64.wrap (u : Int) = (u : Int) := by show (u : Int) % 18446744073709551616 = u; omega
      have w3 : (u : Int) % 18446744073709551616 = u := by omega
      generalize utoaB u = U at HD ⊢
      clear e h0 h1
      go_enter Tryz.func28, Tryz.ntmps28
      go_wp2_with (first
        | (go_at_call 52; ((with_reducible refine (HD.out _).mono ?_); rintro e w1 ⟨rfl, rfl⟩))
        | fail)
      refine bodyPost_ret (v := .tuple #[.string U, .bool true]) (by simp [results, Tryz.results28, go_sem]) rfl ⟨rfl, rfl⟩
  · rw [if_neg hr]
    have hq : n < -2147483647 ∨ 2147483647 < n := by
      unfold inR at hr
      simp only [Bool.and_eq_true, decide_eq_true_eq] at hr
      omega
    clear hr
    by_cases k0 : n < -2147483647
    · go_enter Tryz.func28, Tryz.ntmps28
      go_wp2
      refine bodyPost_ret (v := .tuple #[.string ⟨#[]⟩, .bool false]) (by simp [results, Tryz.results28, go_sem]) rfl ⟨rfl, rfl⟩
    · have k1 : (2147483647 : Int) < n := by omega
      clear hq
      go_enter Tryz.func28, Tryz.ntmps28
      go_wp2
      refine bodyPost_ret (v := .tuple #[.string ⟨#[]⟩, .bool false]) (by simp [results, Tryz.results28, go_sem]) rfl ⟨rfl, rfl⟩
end Go.Proofs.YtelpkajlejbbgaaGreatDoor
