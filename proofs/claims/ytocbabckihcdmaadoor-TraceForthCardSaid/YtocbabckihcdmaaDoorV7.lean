/- What is parsed is printed as that text: the law's walk. -/
import Derived.Test.YtocbabckihcdmaaDoorV6
import Derived.Test.YtocbabckihcdmaaDoorU0
namespace Go.Proofs.YtocbabckihcdmaaDoor
set_option linter.unusedSimpArgs false
open Go.RowKit Go.Maps
set_option linter.unusedVariables false
theorem allok_of {ys : List MV} (h : ∀ y ∈ ys, toldB y = true ∧ 0 ≤ y.w) : AllOk ys := by
  intro y hy
  have T := told_of (h y hy).1
  have hw := (h y hy).2
  constructor
  · exact hw
  · have := T.w1; omega
  · have := T.s0; have := T.s1; omega
  · have := T.n0; have := T.n1; omega
  · have := T.v0; have := T.v1; omega
  · have := T.e0; have := T.e1; omega
theorem printF_told {ys : List MV} (h : ∀ y ∈ ys, toldB y = true ∧ 0 ≤ y.w) : printF ys = (⟨(textL ys).toArray⟩, 0) := by
  unfold printF
  rw [if_pos (List.all_eq_true.2 (fun y hy => (h y hy).1))]
theorem parse_told {ys : List MV} (h : ∀ y ∈ ys, toldB y = true ∧ 0 ≤ y.w) : parseF ⟨(textL ys).toArray⟩ = (ys, 0, 0) := by
  unfold parseF
  rw [parse_text ys _ 1 [] h ?_]
  · rfl
  · rw [ba_size]
    have := text_five ys
    omega
set_option maxRecDepth 100000 in
set_option maxHeartbeats 400000 in
theorem forth_long (s : ByteArray) (hs : 2000 < s.size) (w : World) (h : GW w) :
    Calls Tryd.prog 4 #[.string s] w fun e w' => e = .returned (.bool true) ∧ Below w.heap.size w w' := by
  have h1 : (2000 : Int) < (s.size : Int) := by omega
  have LV := Lib.hid (live_any w h)
  clear h
  go_enter Tryd.func4, Tryd.ntmps4
  go_wp2_with (first
    | (go_at_call 9; ((refine LV.out.mono ?_); rintro e w4 ⟨rfl, b4⟩; have C4 := Lib.hid b4; clear b4))
    | fail)
  refine bodyPost_ret (v := .bool true) (by simp [results, Tryd.results4, go_sem]) rfl ⟨rfl, C4.out⟩
set_option maxRecDepth 100000 in
set_option maxHeartbeats 400000 in
theorem forth_good (s : ByteArray) (hs : s.size ≤ 2000) (ys : List MV) (hy : ∀ y ∈ ys, toldB y = true ∧ 0 ≤ y.w) (hp : parseF s = (ys, 0, 0)) (ht : s.data.toList = textL ys) (w : World) (h : GW w) :
    Calls Tryd.prog 4 #[.string s] w fun e w' => e = .returned (.bool true) ∧ Below w.heap.size w w' := by
  have h1 : ¬ (2000 : Int) < (s.size : Int) := by omega
  have HG := Lib.hid (fun W (b : Below w.heap.size w W) => h.later b)
  have hlen : ys.length ≤ 1000 := by
    have h5 := text_five ys
    have e : (textL ys).length = s.size := by rw [← ht]; exact Array.length_toList
    omega
  have hsz : s = ⟨(textL ys).toArray⟩ := Go.WideShapes.bytes_inj (by rw [ht])
  obtain ⟨m, hm⟩ : ∃ m, ys.length = m := ⟨_, rfl⟩
  have PA : Hid (Calls Tryd.prog 10 #[.string s] w fun e w' => ∃ A c, e = .returned (.tuple #[.slice A m c, .int .i64 0, .int .i64 0]) ∧ EM.Rd w' A ys ∧ Below w.heap.size w w') := Lib.hid (by
    refine (parse_any s (by omega) w h).mono fun e w' ⟨A, c, h1, h2, h3⟩ => ⟨A, c, ?_, ?_, h3⟩
    · rw [h1, hp, hm]
    · rw [hp] at h2; exact h2)
  have PR : Hid (∀ W A c, Below w.heap.size w W → EM.Rd W A ys → Calls Tryd.prog 7 #[.slice A m c] W fun e w' => e = .returned (.tuple #[.string s, .int .i64 0]) ∧ Below W.heap.size W w') := Lib.hid (fun W A c b hr => by
    have g := print_any A m c ys W hm (by omega) hr (allok_of hy) (HG.out _ b)
    rw [printF_told hy, ← hsz] at g
    exact g)
  have LV := Lib.hid (fun W (b : Below w.heap.size w W) => live_any W (HG.out _ b))
  clear h hs hy hp ht hlen hsz hm
  go_enter Tryd.func4, Tryd.ntmps4
  go_wp2_with (first
    | (go_at_call 10; ((refine PA.out.mono ?_); rintro e w2 ⟨A2, c2, rfl, r2, b2⟩; have C2 := Lib.hid b2; have R2 := Lib.hid r2; clear b2 r2))
    | (go_at_call 7; ((refine (PR.out _ A2 c2 C2.out R2.out).mono ?_); rintro e w3 ⟨rfl, b3⟩; have C3 := Lib.hid (bel_trans C2.out b3); clear b3))
    | (go_at_call 9; ((refine (LV.out _ C3.out).mono ?_); rintro e w4 ⟨rfl, b4⟩; have C4 := Lib.hid (bel_trans C3.out b4); clear b4))
    | fail)
  refine bodyPost_ret (v := .bool true) (by simp [results, Tryd.results4, go_sem]) rfl ⟨rfl, C4.out⟩
set_option maxRecDepth 100000 in
set_option maxHeartbeats 1000000 in
theorem forth_bad (s : ByteArray) (hs : s.size ≤ 2000) (ys : List MV) (rest : List UInt8) (er : Int) (hy : ∀ y ∈ ys, toldB y = true ∧ 0 ≤ y.w) (hp : parseF s = ([], 1 + (ys.length : Int), er)) (ht : s.data.toList = textL ys ++ rest) (hr : rest ≠ []) (he : (er = 5 ∧ (10 : UInt8) ∉ rest) ∨ (er = 3 ∧ (10 : UInt8) ∈ rest)) (w : World) (h : GW w) :
    Calls Tryd.prog 4 #[.string s] w fun e w' => e = .returned (.bool true) ∧ Below w.heap.size w w' := by
  have h1 : ¬ (2000 : Int) < (s.size : Int) := by omega
  have HG := Lib.hid (fun W (b : Below w.heap.size w W) => h.later b)
  have hL : s.data.toList.length = s.size := Array.length_toList
  obtain ⟨B, hB⟩ : ∃ B, (textL ys).length = B := ⟨_, rfl⟩
  obtain ⟨R, hR⟩ : ∃ R, rest.length = R := ⟨_, rfl⟩
  have hR0 : 0 < R := by rw [← hR]; exact List.length_pos_iff.2 hr
  have hBR : s.size = B + R := by rw [← hL, ht, List.length_append, hB, hR]
  have h5 := text_five ys
  obtain ⟨m, hm⟩ : ∃ m, ys.length = m := ⟨_, rfl⟩
  obtain ⟨n, hn⟩ : ∃ n : Nat, n = s.size := ⟨_, rfl⟩
  have hm9 : m ≤ 400 := by omega
  have PA : Hid (Calls Tryd.prog 10 #[.string s] w fun e w' => ∃ A c, e = .returned (.tuple #[.slice A 0 c, .int .i64 (1 + (m : Int)), .int .i64 er]) ∧ Below w.heap.size w w') := Lib.hid (by
    refine (parse_any s (by omega) w h).mono fun e w' ⟨A, c, h1, h2, h3⟩ => ⟨A, c, ?_, h3⟩
    rw [h1, hp, hm]; rfl)
  obtain ⟨tx, htx⟩ : ∃ tx : ByteArray, tx = ⟨(textL ys).toArray⟩ := ⟨_, rfl⟩
  have hts : tx.size = B := by rw [htx, ba_size, hB]
  have PB : Hid (∀ W, Below w.heap.size w W → Calls Tryd.prog 10 #[.string tx] W fun e w' => ∃ A c, e = .returned (.tuple #[.slice A m c, .int .i64 0, .int .i64 0]) ∧ EM.Rd w' A ys ∧ Below W.heap.size W w') := Lib.hid (fun W b => by
    refine (parse_any tx (by omega) W (HG.out _ b)).mono fun e w' ⟨A, c, h1, h2, h3⟩ => ⟨A, c, ?_, ?_, h3⟩
    · rw [h1, htx, parse_told hy, hm]
    · rw [htx, parse_told hy] at h2; exact h2)
  have PR : Hid (∀ W A c, Below w.heap.size w W → EM.Rd W A ys → Calls Tryd.prog 7 #[.slice A m c] W fun e w' => e = .returned (.tuple #[.string tx, .int .i64 0]) ∧ Below W.heap.size W w') := Lib.hid (fun W A c b hr => by
    have g := print_any A m c ys W hm (by omega) hr (allok_of hy) (HG.out _ b)
    rw [printF_told hy, ← htx] at g
    exact g)
  have LV := Lib.hid (fun W (b : Below w.heap.size w W) => live_any W (HG.out _ b))
  have HCE : Hid (cntF s.data.toList B = m) := Lib.hid (by rw [ht, ← hB, cnt_end hy, hm])
  have HLE : Hid (lastF s.data.toList B = B) := Lib.hid (by rw [ht, ← hB]; exact last_end ys rest)
  have HCL : Hid (∀ i, i < B → cntF s.data.toList i < m) := Lib.hid (fun i hi => by rw [ht, ← hm]; exact cnt_lt hy rest (by rw [hB]; exact hi))
  have HRD : Hid (∀ j, s.data.toList[B + j]? = rest[j]?) := Lib.hid (fun j => by rw [ht, List.getElem?_append_right (by omega)]; congr 1; omega)
  have HEX : s.extract 0 B = tx := Go.WideShapes.bytes_inj (by rw [htx]; simp [ht, ← hB])
  have HER := Lib.hid he
  have HN := Lib.hid (show s.size = B + R ∧ s.size ≤ 2000 ∧ m ≤ 400 ∧ 0 < R ∧ rest.length = R from ⟨hBR, hs, hm9, hR0, hR⟩)
  clear h hy hp ht hr he h5 hm htx hm9 hL hB hR hR0
  go_enter Tryd.func4, Tryd.ntmps4
  have e3 : (er == 0) = false := by rcases HER.out with ⟨h, _⟩ | ⟨h, _⟩ <;> (rw [h]; rfl)
  go_upto_region 9 with (first
    | (go_at_call 10; ((refine PA.out.mono ?_); rintro e w2 ⟨A2, c2, rfl, b2⟩; have C2 := Lib.hid b2; clear b2))
    | fail)
  go_loopw [8, 9, 10] (fun av fv iv wr => ∃ i c l : Nat, i ≤ B ∧ av = .int .i64 (1 + (c : Int)) ∧ fv = .int .i64 l ∧ iv = .int .i64 i ∧ Hid (cntF s.data.toList i = c) ∧ Hid (lastF s.data.toList i = l) ∧ Below w.heap.size w wr) (fun _ _ i _ => B - (intOf i).toNat)
  case atStart => exact ⟨0, 0, 0, by omega, rfl, rfl, rfl, Lib.hid rfl, Lib.hid rfl, C2.out⟩
  case round =>
    obtain ⟨i, c, l, hi, rfl, rfl, rfl, HCC, HLL, hwr⟩ := hrel
    replace C2 := Lib.hid hwr
    clear hwr
    have ci := cnt_le s.data.toList i
    have li := last_le s.data.toList i
    by_cases hB : i < B
    · have hlt := HCL.out i hB
      have hN := HN.out
      obtain ⟨x, hx⟩ : ∃ x, s.data.toList[i]? = some x := ⟨_, List.getElem?_eq_getElem (by rw [Array.length_toList]; show i < s.size; omega)⟩
      rw [HCC.out] at hlt ci
      rw [HLL.out] at li
      have k1 : (i : Int) < (s.size : Int) := by omega
      have k0 : (0 : Int) ≤ (i : Int) := by omega
      have k2 : (1 : Int) + (c : Int) < 1 + (m : Int) := by omega
      have WK : IntKind.i64.wrap ((i : Int) + 1) = (i : Int) + 1 := IntWalk.i64_in _ (by omega)
      have WC : IntKind.i64.wrap (1 + (c : Int) + 1) = 1 + (c : Int) + 1 := IntWalk.i64_in _ (by omega)
      have hi9 : i < s.size := by omega
      have hx2 : s[i]'hi9 = x := by
        have q := (List.getElem?_eq_some_iff.1 hx).2
        rw [← q]; rfl
      have HX := Lib.hid hx
      by_cases h10 : x = 10
      · have d1 : (((s[i]'hi9).toNat : Int) == 10) = true := by rw [hx2, h10]; rfl
        have E10 := Lib.hid (show s.data.toList[i]? = some 10 by rw [hx, h10])
        clear hx2 hx h10 hlt ci li hN
        go_wp2
        exact ⟨⟨i + 1, c + 1, i + 1, by omega, congrArg (Value.int .i64) (by omega), by simp, by simp, Lib.hid (by rw [cnt_yes E10.out, HCC.out]), Lib.hid (last_yes E10.out), C2.out⟩, by simp [intOf]; omega⟩
      · have d1 : (((s[i]'hi9).toNat : Int) == 10) = false := by
          rw [hx2]
          have : x.toNat ≠ 10 := fun e => h10 (UInt8.toNat_inj.1 e)
          simp; omega
        have H10 := Lib.hid h10
        clear hx2 hx h10 hlt ci li hN
        go_wp2
        exact ⟨⟨i + 1, c, l, by omega, rfl, rfl, by simp, Lib.hid (by rw [cnt_no HX.out H10.out, HCC.out]), Lib.hid (by rw [last_no HX.out H10.out, HLL.out]), C2.out⟩, by simp [intOf]; omega⟩
    · have hiB : B = i := by omega
      subst hiB
      have hcm : m = c := HCE.out.symm.trans HCC.out
      have hlb : B = l := HLE.out.symm.trans HLL.out
      subst hcm hlb
      have hN := HN.out
      have k1 : (B : Int) < (s.size : Int) := by omega
      have k0 : (0 : Int) ≤ (B : Int) := by omega
      have k2 : ¬ (1 : Int) + (m : Int) < 1 + (m : Int) := by omega
      have k3 : (B : Int) ≤ (s.size : Int) := by omega
      have HK1 := Lib.hid k1
      clear ci li hB hi
      go_upto_region 18 with (first
        | (go_at_call 10; ((refine (PB.out _ C2.out).mono ?_); rintro e w4 ⟨A4, c4, rfl, r4, b4⟩; have C4 := Lib.hid (bel_trans C2.out b4); have R4 := Lib.hid r4; clear r4 b4))
        | (go_at_call 7; ((refine (PR.out _ A4 c4 C4.out R4.out).mono ?_); rintro e w5 ⟨rfl, b5⟩; have C5 := Lib.hid (bel_trans C4.out b5); clear b5))
        | fail)
      go_loopw [16, 17] (fun ev iv wr => ∃ q : Nat, B ≤ q ∧ q ≤ B + R ∧ iv = .int .i64 q ∧ ev = .bool (decide ((10 : UInt8) ∉ rest.take (q - B))) ∧ Below w.heap.size w wr) (fun _ i _ => B + R - (intOf i).toNat)
      case atStart => exact ⟨B, by omega, by omega, rfl, by simp, C5.out⟩
      case round =>
        obtain ⟨q, hq0, hq1, rfl, rfl, hwr⟩ := hrel
        replace C5 := Lib.hid hwr
        clear hwr
        by_cases hq : q < B + R
        · have k5 : (q : Int) < (s.size : Int) := by omega
          have k6 : (0 : Int) ≤ (q : Int) := by omega
          have WK : IntKind.i64.wrap ((q : Int) + 1) = (q : Int) + 1 := IntWalk.i64_in _ (by omega)
          have hq9 : q < s.size := by omega
          obtain ⟨x, hx⟩ : ∃ x, rest[q - B]? = some x := ⟨_, List.getElem?_eq_getElem (by omega)⟩
          have hx3 : s.data.toList[q]? = some x := by have := HRD.out (q - B); rw [show B + (q - B) = q by omega, hx] at this; exact this
          have hx2 : s[q]'hq9 = x := by
            have z := (List.getElem?_eq_some_iff.1 hx3).2
            rw [← z]; rfl
          have ht : rest.take (q + 1 - B) = rest.take (q - B) ++ [x] := by rw [show q + 1 - B = (q - B) + 1 by omega, List.take_add_one, hx]; rfl
          have HT := Lib.hid ht
          by_cases hm9 : (10 : UInt8) ∈ rest.take (q - B)
          · have d0 : decide ((10 : UInt8) ∉ rest.take (q - B)) = false := by simpa using hm9
            have HE : Hid (decide ((10 : UInt8) ∉ rest.take (q + 1 - B)) = false) := Lib.hid (by rw [HT.out]; simp [hm9])
            rw [d0]
            clear hx hx2 hx3 ht hm9 d0
            go_wp2
            exact ⟨⟨q + 1, by omega, by omega, by simp, by rw [HE.out], C5.out⟩, by simp [intOf]; omega⟩
          · have d0 : decide ((10 : UInt8) ∉ rest.take (q - B)) = true := by simpa using hm9
            rw [d0]
            by_cases h10 : x = 10
            · have d1 : (((s[q]'hq9).toNat : Int) == 10) = true := by rw [hx2, h10]; rfl
              have d2 : (((s[q]'hq9).toNat : Int) != 10) = false := by rw [hx2, h10]; rfl
              have HE : Hid (decide ((10 : UInt8) ∉ rest.take (q + 1 - B)) = false) := Lib.hid (by rw [HT.out, h10]; simp)
              clear hx hx2 hx3 ht hm9 d0 h10
              go_wp2
              exact ⟨⟨q + 1, by omega, by omega, by simp, by rw [HE.out], C5.out⟩, by simp [intOf]; omega⟩
            · have d1 : (((s[q]'hq9).toNat : Int) == 10) = false := by
                rw [hx2]
                have : x.toNat ≠ 10 := fun e => h10 (UInt8.toNat_inj.1 e)
                simp; omega
              have d2 : (((s[q]'hq9).toNat : Int) != 10) = true := by rw [bne, d1]; rfl
              have HE : Hid (decide ((10 : UInt8) ∉ rest.take (q + 1 - B)) = true) := Lib.hid (by rw [HT.out]; simp [hm9, Ne.symm h10])
              clear hx hx2 hx3 ht hm9 d0 h10
              go_wp2
              exact ⟨⟨q + 1, by omega, by omega, by simp, by rw [HE.out], C5.out⟩, by simp [intOf]; omega⟩
        · have hqe : q = B + R := by omega
          subst hqe
          have k5 : ¬ ((B + R : Nat) : Int) < (s.size : Int) := by omega
          have htk : rest.take (B + R - B) = rest := by rw [show B + R - B = R by omega]; exact List.take_of_length_le (by omega)
          have y1 : (1 : Int) ≤ 1 + (m : Int) := by omega
          rw [htk]
          clear htk hq0 hq1 hq
          rcases HER.out with ⟨rfl, hr⟩ | ⟨rfl, hr⟩
          · have d0 : decide ((10 : UInt8) ∉ rest) = true := by simpa using hr
            rw [d0]
            clear hr d0
            go_wp2_with (first
              | (go_at_call 9; ((refine (LV.out _ C5.out).mono ?_); rintro e w6 ⟨rfl, b6⟩; have C6 := Lib.hid (bel_trans C5.out b6); clear b6))
              | fail)
            refine bodyPost_ret (v := .bool true) (by simp [results, Tryd.results4, go_sem]) rfl ⟨rfl, C6.out⟩
          · have d0 : decide ((10 : UInt8) ∉ rest) = false := by simpa using hr
            rw [d0]
            clear hr d0
            go_wp2_with (first
              | (go_at_call 9; ((refine (LV.out _ C5.out).mono ?_); rintro e w6 ⟨rfl, b6⟩; have C6 := Lib.hid (bel_trans C5.out b6); clear b6))
              | fail)
            refine bodyPost_ret (v := .bool true) (by simp [results, Tryd.results4, go_sem]) rfl ⟨rfl, C6.out⟩
theorem forth_any (s : ByteArray) (w : World) (h : GW w) : Calls Tryd.prog 4 #[.string s] w fun e w' => e = .returned (.bool true) ∧ Below w.heap.size w w' := by
  by_cases hs : 2000 < s.size
  · exact forth_long s hs w h
  · rcases parse_any_text (s.size + 1) s 1 [] (by omega) with ⟨ys, g1, g2, g3⟩ | ⟨ys, rest, e, g1, g2, g3, g4, g5⟩
    · exact forth_good s (by omega) ys g1 g2 g3 w h
    · exact forth_bad s (by omega) ys rest e g1 g4 g2 g3 g5 w h
end Go.Proofs.YtocbabckihcdmaaDoor
