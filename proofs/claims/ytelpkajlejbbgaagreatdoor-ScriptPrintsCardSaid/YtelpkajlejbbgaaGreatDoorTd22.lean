/- Send's lines, by definition; an operation's. -/
import Derived.Test.YtelpkajlejbbgaaGreatDoorTd21
set_option linter.unusedVariables false
set_option linter.unusedSimpArgs false
namespace Go.Proofs.YtelpkajlejbbgaaGreatDoor
open Go.RowKit Go.Maps
theorem rline_any {m : M} (h : MFm m) (o : MOk m) (w : World) : Calls Tryz.prog 53 #[m.v] w fun e w' => e = .returned (.tuple #[.string ⟨(lineL (mWords m)).toArray⟩, .bool true]) ∧ Below w.heap.size w w' := by
  obtain ⟨hk, h1, h2, h3, h4, h5⟩ := o
  obtain ⟨k, q, key, too, val, dl⟩ := m
  obtain ⟨hq, hm⟩ := h
  simp only at hk h1 h2 h3 h4 h5 hq hm
  subst hq
  rcases hk with rfl | rfl | rfl | rfl
  · exact rline_1 dl key too val w h1 h2 h3 hm
  · exact rline_2 dl key too val w h1 h2 h3 hm
  · obtain ⟨d, rfl⟩ : ∃ d : Nat, dl = d := ⟨dl.toNat, by omega⟩
    exact rline_3 d key too val w h1 h2 h3 (by omega) hm
  · exact rline_4 dl key too val w h1 h2 h3 hm
theorem line_size {m : M} (o : MOk m) : (lineL (mWords m)).length ≤ 5000000 := by
  have h1 := tok_sz4 o.key
  have h2 := tok_sz4 o.too
  have h3 := tok_sz4 o.val
  have h4 := utoa_size m.dl.toNat (by have := o.d1; omega)
  rw [← ba_len] at h1 h2 h3 h4
  have e1 : wPut.data.toList.length = 3 := rfl
  have e2 : wDel.data.toList.length = 6 := rfl
  have e3 : wAdd.data.toList.length = 3 := rfl
  have e4 : wClr.data.toList.length = 5 := rfl
  unfold mWords
  split
  · rw [line3]; simp only [List.length_append, List.length_cons, List.length_nil]; omega
  split
  · rw [line2]; simp only [List.length_append, List.length_cons, List.length_nil]; omega
  split
  · rw [line3]; simp only [List.length_append, List.length_cons, List.length_nil]; omega
  · rw [line3]; simp only [List.length_append, List.length_cons, List.length_nil]; omega
theorem msL_size : ∀ (ms : List M), (∀ m ∈ ms, MOk m) → (msL ms).length ≤ ms.length * 5000000
  | [], _ => Nat.zero_le _
  | m :: ms, h => by
    have ih := msL_size ms (fun y hy => h y (List.mem_cons_of_mem _ hy))
    have h1 := line_size (h m (by simp))
    show (lineL (mWords m) ++ msL ms).length ≤ _
    rw [List.length_append, List.length_cons, Nat.succ_mul]
    omega
set_option maxHeartbeats 4000000 in
set_option maxRecDepth 100000 in
theorem rop_2 (n : Int) (key too : ByteArray) (A : Option Addr) (m c : Nat) (ms : List M) (w : World) (hn : inR n = true) (hp : opureB 2 n key too 0 = true) (hm : ms.length = m) (hm9 : m ≤ 2048) (hA : EM.Rd w A ms) (hms : ∀ x ∈ ms, MFm x ∧ MOk x) :
    Calls Tryz.prog 29 #[.agg #[.int .u8 2, .string key, .string too, .int .i64 n, .slice A m c]] w fun e w' => e = .returned (.tuple #[.string ⟨(lineL [wSend, itoaB m] ++ msL ms).toArray⟩, .int .i64 0]) ∧ Below w.heap.size w w' := by
  obtain ⟨v, hv⟩ : ∃ v, askF 2 n 1099511627776 1099511627776 1099511627776 key too 0 [] = v := ⟨_, rfl⟩
  have HC : Hid (∀ W, Calls Tryz.prog 33 #[.agg #[.int .u8 2, .string key, .string too, .int .i64 n, .slice none 0 0], cfg 1099511627776 1099511627776 0 0 0 0 0 0 1099511627776] W fun e w' => e = .returned (.int .i64 v) ∧ Below W.heap.size W w') := Lib.hid (fun W => by
    have := rask_any 2 n 1099511627776 1099511627776 0 0 0 0 0 0 1099511627776 key too none 0 0 [] W rfl (.inl rfl)
    rw [hv] at this
    exact this)
  have hv3 : ¬ v = 3 := by rw [← hv]; exact askb_fm hp
  have HNU := Lib.hid (fun W => num_ok hn W)
  have HD := Lib.hid (fun W => digits_any m (by omega) W)
  have HDS := Lib.hid (utoa_size m (by omega))
  have hiu : itoaB (m : Int) = utoaB m := by
    unfold itoaB utoaB
    rw [Lib.itoa_nonneg]
  rw [hiu]
  have HLS : Hid (∀ k, (lineL [wSend, utoaB m] ++ msL (ms.take k)).length ≤ 20000000000) := Lib.hid (fun k => by
    have h1 := msL_take ms k
    have h2 := msL_size ms (fun x hx => (hms x hx).2)
    have h3 := HDS.out
    rw [← ba_len] at h3
    have h4 : ms.length * 5000000 ≤ 2048 * 5000000 := Nat.mul_le_mul_right _ (by omega)
    have e1 : wSend.data.toList.length = 4 := rfl
    rw [line2]
    simp only [List.length_append, List.length_cons, List.length_nil]
    omega)
  have HE : Hid (⟨(lineL [wSend, utoaB m]).toArray⟩ = (⟨#[115, 101, 110, 100, 32]⟩ ++ utoaB m) ++ ⟨#[10]⟩) := Lib.hid (ba_inj (by rw [line2, ba_app, ba_app, ba_list]; simp [wSend]))
  have HM := Lib.hid (And.intro hm hm9)
  have HA := Lib.hid hA
  have HMS := Lib.hid hms
  have hk9 : ¬ (2048 : Int) < (m : Int) := by omega
  have wm6 : IntKind.u64.wrap (m : Int) = (m : Int) := by show (m : Int) % 18446744073709551616 = m; omega
  have wm7 : (m : Int) % 18446744073709551616 = m := by omega
  generalize itoaB n = N at HNU
  clear hn hp hv hm hm9 hA hms hiu
  obtain ⟨W0, hW0⟩ : ∃ W0, W0 = w.alloc (.cells #[.int .u8 2, .string key, .string too, .int .i64 n, .slice A m c] 47) := ⟨_, rfl⟩
  have B0 := Lib.hid (show Below w.heap.size w W0 by rw [hW0]; exact alb w _)
  have Z0 := Lib.hid (show W0.heap[w.heap.size]? = some (.cells #[.int .u8 2, .string key, .string too, .int .i64 n, .slice A m c] 47) by rw [hW0]; exact heap_alloc_new w _)
  obtain ⟨c0, c1, c2, c3, c4⟩ := cells5 Z0.out
  go_enter Tryz.func29, Tryz.ntmps29
  go_upto_region 1 with fail
  rw [← hW0]
  clear hW0
  go_upto_region 5 with (first
    | (go_at_call 28; ((with_reducible refine (HNU.out _).mono ?_); rintro e w1 ⟨rfl, hw⟩; (have hw2 := hw.symm; subst hw2; clear hw)))
    | fail)
  obtain ⟨W1, hW1⟩ : ∃ W1, W1 = W0.alloc (.cells #[.int .u8 2, .string key, .string too, .int .i64 n, .slice none 0 0] 47) := ⟨_, rfl⟩
  have B1 := Lib.hid (show Below w.heap.size w W1 by rw [hW1]; exact bel_alloc B0.out _)
  have Z1 := Lib.hid (show W1.heap[w.heap.size]? = some (.cells #[.int .u8 2, .string key, .string too, .int .i64 n, .slice A m c] 47) by rw [hW1]; exact keep_bel (alb _ _) Z0.out)
  have Y1 := Lib.hid (show W1.heap[W0.heap.size]? = some (.cells #[.int .u8 2, .string key, .string too, .int .i64 n, .slice none 0 0] 47) by rw [hW1]; exact heap_alloc_new W0 _)
  rw [← hW1]
  clear hW1 c0 c1 c2 c3 c4
  obtain ⟨c0, c1, c2, c3, c4⟩ := cells5 Z1.out
  obtain ⟨d0, d1, d2, d3, d4⟩ := cells5 Y1.out
  go_upto_region 17 with (first
    | (go_at_call 33; ((with_reducible refine (HC.out _).mono ?_); rintro e w2 ⟨rfl, b1⟩; have B2 := Lib.hid (bel_trans B1.out b1); have Z2 := Lib.hid (keep_bel b1 Z1.out); obtain ⟨c0, c1, c2, c3, c4⟩ := cells5 Z2.out; clear b1))
    | fail)
  generalize hU : utoaB m = U at HD HDS HLS HE ⊢
  have hcat : ¬ 9223372036854775807 < 5 + U.size := by have := HDS.out; omega
  have hcat2 : ¬ 9223372036854775807 < 5 + U.size + 1 := by have := HDS.out; omega
  go_upto_region 19 with (first
    | (go_at_call 52; ((with_reducible refine (HD.out _).mono ?_); rintro e w3 ⟨rfl, hw⟩; (have hw2 := hw.symm; subst hw2; clear hw)))
    | fail)
  rw [← HE.out]
  clear c0 c1 c2 c3 c4 d0 d1 d2 d3 d4 hcat hcat2
  go_loopw [7, 8] (fun ov iv wr => ∃ k : Nat, k ≤ m ∧ iv = .int .i64 k ∧ Hid (ov = .string ⟨(lineL [wSend, U] ++ msL (ms.take k)).toArray⟩) ∧ Below w2.heap.size w2 wr) (fun _ iv _ => m - (intOf iv).toNat)
  case atStart => exact ⟨0, by omega, rfl, Lib.hid (by show _ = Value.string ⟨(lineL [wSend, U] ++ []).toArray⟩; rw [List.append_nil]), Below.refl _ _⟩
  case round =>
    obtain ⟨k, hk, rfl, HOV, hb⟩ := hrel
    obtain ⟨O, hO⟩ : ∃ O : ByteArray, O = ⟨(lineL [wSend, U] ++ msL (ms.take k)).toArray⟩ := ⟨_, rfl⟩
    rw [← hO] at HOV
    (have hov := HOV.out; subst hov; clear HOV)
    have HB2 := Lib.hid hb
    have HB := Lib.hid (bel_trans B2.out hb)
    clear hb
    obtain ⟨c0, c1, c2, c3, c4⟩ := cells5 (keep_bel HB2.out Z2.out)
    have hNN := HM.out
    by_cases h8 : k < m
    · have hk1 : (k : Int) < (m : Int) := by omega
      have hk0 : (0 : Int) ≤ (k : Int) := by omega
      have WK : IntKind.i64.wrap ((k : Int) + 1) = (k : Int) + 1 := IntWalk.i64_in _ (by omega)
      obtain ⟨x, hx⟩ : ∃ x, ms[k]? = some x := ⟨_, List.getElem?_eq_getElem (by omega)⟩
      obtain ⟨b2, off, rfl, hlt, hc⟩ := (HA.out.later HB.out).get hx
      obtain ⟨hx1, hx2⟩ := HMS.out x (List.mem_of_getElem? hx)
      have HX := Lib.hid (fun W => rline_any hx1 hx2 W)
      have HT := Lib.hid (msL_next hx)
      have HXL := Lib.hid (line_size hx2)
      obtain ⟨S, hS⟩ : ∃ S : ByteArray, S = ⟨(lineL (mWords x)).toArray⟩ := ⟨_, rfl⟩
      rw [← hS] at HX
      have HF : Hid (O ++ S = ⟨(lineL [wSend, U] ++ msL (ms.take (k + 1))).toArray⟩) := Lib.hid (ba_inj (by rw [ba_app, ba_list, HT.out, hO, hS, ba_list, ba_list, List.append_assoc]))
      have hcat : ¬ 9223372036854775807 < O.size + S.size := by
        rw [hO, hS, ba_size, ba_size]
        have h1 := HLS.out k
        have h2 := HXL.out
        omega
      obtain ⟨mk, mq, mkey, mtoo, mval, mdl⟩ := x
      unfold M.v at HX
      simp only at HX
      have g0 : wr.cell? ⟨b2, off + k * 6, none⟩ = some (.int .u8 mk) := hc 0 _ rfl
      have g1 : wr.cell? ⟨b2, off + k * 6 + 1, none⟩ = some (.int .i64 mq) := hc 1 _ rfl
      have g2 : wr.cell? ⟨b2, off + k * 6 + 2, none⟩ = some (.string mkey) := hc 2 _ rfl
      have g3 : wr.cell? ⟨b2, off + k * 6 + 3, none⟩ = some (.string mtoo) := hc 3 _ rfl
      have g4 : wr.cell? ⟨b2, off + k * 6 + 4, none⟩ = some (.string mval) := hc 4 _ rfl
      have g5 : wr.cell? ⟨b2, off + k * 6 + 5, none⟩ = some (.int .u64 mdl) := hc 5 _ rfl
      clear hx hNN hc hO hS HT hx1 hx2
      go_wp2_with (first
        | (go_at_call 53; ((with_reducible refine (HX.out _).mono ?_); rintro e w4 ⟨rfl, b1⟩; have B4 := Lib.hid (HB2.out.trans (b1.mono HB2.out.size)); clear b1))
        | fail)
      exact ⟨⟨k + 1, by omega, by simp, Lib.hid (by rw [← HF.out]), B4.out⟩, by simp [intOf]; omega⟩
    · have hke : k = m := by omega
      subst hke
      have hk1 : ¬ (k : Int) < (k : Int) := by omega
      have HE2 := Lib.hid (show ms.take k = ms from List.take_of_length_le (by omega))
      rw [HE2.out] at hO
      have HO := Lib.hid hO
      clear hNN hO HE2
      go_wp2
      refine bodyPost_ret (v := .tuple #[.string O, .int .i64 0]) (by simp [results, Tryz.results29, go_sem]) rfl ⟨by rw [HO.out], HB.out⟩
theorem qop_any (o : OpV) (A : Option Addr) (c : Nat) (w : World) (h : OFm o) (k : OOk o) (hl : o.ms.length ≤ 2048) (hA : EM.Rd w A o.ms) :
    Calls Tryz.prog 29 #[o.v A c] w fun e w' => e = .returned (.tuple #[.string ⟨(opL o).toArray⟩, .int .i64 0]) ∧ Below w.heap.size w w' := by
  obtain ⟨hk, h1, h2, h3, h4, h5⟩ := k
  obtain ⟨hn, hp, hms⟩ := h
  obtain ⟨k, key, too, n, ms⟩ := o
  simp only at hk h1 h2 h3 h4 h5 hn hp hms hA hl
  have z : k ≠ 2 → ms.length = 0 := fun h2 => by
    unfold opureB at hp
    rcases hk with rfl | rfl | rfl | rfl | rfl | rfl
    all_goals first | exact absurd rfl h2 | (simp at hp; simp [hp])
  rcases hk with rfl | rfl | rfl | rfl | rfl | rfl
  · have z0 := z (by decide)
    obtain rfl := List.eq_nil_of_length_eq_zero z0
    exact rop_1 n key too A c w h1 h2 hn hp
  · exact rop_2 n key too A _ c ms w hn hp rfl hl hA (fun x hx => ⟨hms x hx, h5 x hx⟩)
  · have z0 := z (by decide)
    obtain rfl := List.eq_nil_of_length_eq_zero z0
    exact rop_3 n key too A c w h1 h2 hn hp
  · have z0 := z (by decide)
    obtain rfl := List.eq_nil_of_length_eq_zero z0
    exact rop_4 n key too A c w h1 h2 hn hp
  · have z0 := z (by decide)
    obtain rfl := List.eq_nil_of_length_eq_zero z0
    exact rop_5 n key too A c w h1 h2 hn hp
  · have z0 := z (by decide)
    obtain rfl := List.eq_nil_of_length_eq_zero z0
    exact rop_6 n key too A c w h1 h2 hn hp
end Go.Proofs.YtelpkajlejbbgaaGreatDoor
