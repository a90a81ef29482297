/- Texts of the proof, one behind the other. -/
import Derived.Test.YtdebedeebmmleaaGreatDoorTc30
import Derived.Test.YtdebedeebmmleaaGreatDoorTc21
import Derived.Test.YtdebedeebmmleaaGreatDoorTc24
import Derived.Test.YtdebedeebmmleaaGreatDoorTc26
set_option linter.unusedVariables false
set_option linter.unusedSimpArgs false
namespace Go.Proofs.YtdebedeebmmleaaGreatDoor
open Go.RowKit Go.Maps
theorem qchk_any (k q dl a0 a1 a2 a3 a4 a5 a6 a7 a8 : Int) (key too val : ByteArray) (w : World) :
    Calls Tryz.prog 71 #[.agg #[.int .u8 k, .int .i64 q, .string key, .string too, .string val, .int .u64 dl], .agg #[.int .i64 a0, .int .i64 a1, .int .i64 a2, .int .i64 a3, .int .i64 a4, .int .i64 a5, .int .i64 a6, .int .i64 a7, .int .i64 a8]] w fun e w' => e = .returned (.int .i64 (mF k dl a0 a1 key too val)) ∧ Below w.heap.size w w' := by
  have h : k < 1 ∨ k = 1 ∨ k = 2 ∨ k = 3 ∨ k = 4 ∨ 4 < k := by omega
  rcases h with h | rfl | rfl | rfl | rfl | h
  · exact rmsg_lo k q dl a0 a1 a2 a3 a4 a5 a6 a7 a8 key too val w h
  · exact rmsg_1 q dl a0 a1 a2 a3 a4 a5 a6 a7 a8 key too val w
  · exact rmsg_2 q dl a0 a1 a2 a3 a4 a5 a6 a7 a8 key too val w
  · exact rmsg_3 q dl a0 a1 a2 a3 a4 a5 a6 a7 a8 key too val w
  · exact rmsg_4 q dl a0 a1 a2 a3 a4 a5 a6 a7 a8 key too val w
  · exact rmsg_hi k q dl a0 a1 a2 a3 a4 a5 a6 a7 a8 key too val w h
/-- A message's form doesn't ask its sizes. -/
theorem mf_form {k dl a0 a1 b0 b1 : Int} {key too val : ByteArray} (h : mF k dl a0 a1 key too val = 3) : mF k dl b0 b1 key too val = 3 := by
  unfold mF at h ⊢
  by_cases k1 : k = 1
  · rw [if_pos k1] at h ⊢
    (repeat' split at h)
    all_goals first | omega | (simp_all; done)
  rw [if_neg k1] at h ⊢
  by_cases k2 : k = 2
  · rw [if_pos k2] at h ⊢
    (repeat' split at h)
    all_goals first | omega | (simp_all; done)
  rw [if_neg k2] at h ⊢
  by_cases k3 : k = 3
  · rw [if_pos k3] at h ⊢
    (repeat' split at h)
    all_goals first | omega | (simp_all; done)
  rw [if_neg k3] at h ⊢
  by_cases k4 : k = 4
  · rw [if_pos k4] at h ⊢
    (repeat' split at h)
    all_goals first | omega | (simp_all; done)
  rw [if_neg k4]
theorem line3 (x y z : ByteArray) : lineL [x, y, z] = x.data.toList ++ (32 :: (y.data.toList ++ (32 :: (z.data.toList ++ [10])))) := by
  unfold lineL
  show Lib.join (x.data.toList :: y.data.toList :: z.data.toList :: []) [32] ++ [10] = _
  rw [join_two, join_two, Lib.join_one]
  simp
theorem line4 (x y z u : ByteArray) : lineL [x, y, z, u] = x.data.toList ++ (32 :: (y.data.toList ++ (32 :: (z.data.toList ++ (32 :: (u.data.toList ++ [10])))))) := by
  unfold lineL
  show Lib.join (x.data.toList :: y.data.toList :: z.data.toList :: u.data.toList :: []) [32] ++ [10] = _
  rw [join_two, join_two, join_two, Lib.join_one]
  simp
set_option maxHeartbeats 2000000 in
set_option maxRecDepth 100000 in
theorem qline_1 (q : Int) (dl : Int) (key too val : ByteArray) (w : World) (hq : inT q = true) (hkey : key.size ≤ 900000) (htoo : too.size ≤ 900000) (hval : val.size ≤ 900000) (hm : mF 1 dl 2147483647 2147483647 key too val ≠ 3) :
    Calls Tryz.prog 43 #[.agg #[.int .u8 1, .int .i64 q, .string key, .string too, .string val, .int .u64 dl]] w fun e w' => e = .returned (.tuple #[.string ⟨(lineL [wPut, itoaB q, tokB key, tokB val]).toArray⟩, .bool true]) ∧ Below w.heap.size w w' := by
  have HS := Lib.hid (And.intro hkey (And.intro htoo hval))
  have hm2 : mF 1 dl 0 0 key too val ≠ 3 := fun e => hm (mf_form e)
  obtain ⟨v, hv⟩ : ∃ v, mF 1 dl 0 0 key too val = v := ⟨_, rfl⟩
  have HC := Lib.hid (fun W => by
    have := qchk_any 1 q dl 0 0 0 0 0 0 0 0 0 key too val W
    rw [hv] at this
    exact this)
  have hv3 : (v == 3) = false := beq_eq_false_iff_ne.2 (by rw [← hv]; exact hm2)
  have HT := Lib.hid (fun W => tag_any q W)
  unfold tagT at HT
  rw [if_pos hq] at HT
  have HNS : Hid ((itoaB q).size ≤ 2000000) := Lib.hid (by
    unfold inT at hq
    simp only [Bool.and_eq_true, decide_eq_true_eq] at hq
    exact q_sz hq)
  have HX := Lib.hid (fun W => rtoken_any key (by have := HS.out.1; omega) W)
  have HXS := Lib.hid (tok_sz hkey)
  have HY := Lib.hid (fun W => rtoken_any val (by have := HS.out.2.2; omega) W)
  have HYS := Lib.hid (tok_sz hval)
  obtain ⟨N, hN⟩ : ∃ N, N = itoaB q := ⟨_, rfl⟩
  obtain ⟨X, hX⟩ : ∃ X, X = tokB key := ⟨_, rfl⟩
  obtain ⟨Y, hY⟩ : ∃ Y, Y = tokB val := ⟨_, rfl⟩
  have HE := Lib.hid (fun (K : ByteArray) (hK : K = (N ++ ⟨#[32]⟩) ++ X) => (show (⟨(lineL [wPut, itoaB q, tokB key, tokB val]).toArray⟩ : ByteArray) = ((((⟨#[112, 117, 116, 32]⟩ ++ K) ++ ⟨#[32]⟩) ++ Y) ++ ⟨#[10]⟩) from ba_inj (by rw [hK, ← hN, ← hX, ← hY, line4, ba_app, ba_app, ba_app, ba_app, ba_app, ba_app, ba_list]; simp [wPut])))
  rw [← hN] at HT HNS
  rw [← hX] at HX HXS
  rw [← hY] at HY HYS
  obtain ⟨R, hR⟩ : ∃ R : ByteArray, R = ⟨(lineL [wPut, itoaB q, tokB key, tokB val]).toArray⟩ := ⟨_, rfl⟩
  rw [← hR] at HE ⊢
  clear hkey htoo hval hm hm2 hv hq hN hX hY hR
  obtain ⟨W0, hW0⟩ : ∃ W0, W0 = w.alloc (.cells #[.int .u8 1, .int .i64 q, .string key, .string too, .string val, .int .u64 dl] 73) := ⟨_, rfl⟩
  have B0 := Lib.hid (show Below w.heap.size w W0 by rw [hW0]; exact alb w _)
  have Z0 := Lib.hid (show W0.heap[w.heap.size]? = some (.cells #[.int .u8 1, .int .i64 q, .string key, .string too, .string val, .int .u64 dl] 73) by rw [hW0]; exact heap_alloc_new w _)
  obtain ⟨c0, c1, c2, c3, c4, c5⟩ := cells6 Z0.out
  have l1 : ¬ 9223372036854775807 < N.size + 1 := by have := HNS.out; omega
  have l2 : ¬ 9223372036854775807 < N.size + 1 + X.size := by have := HNS.out; have := HXS.out; omega
  go_enter Tryz.func43, Tryz.ntmps43
  go_upto_region 1 with fail
  rw [← hW0]
  clear hW0
  go_upto_region 5 with (first
    | (go_at_call 70; ((with_reducible refine (HT.out _).mono ?_); rintro e w1 ⟨rfl, b1⟩; have B1 := Lib.hid (bel_trans B0.out b1); have Z1 := Lib.hid (keep_bel b1 Z0.out); obtain ⟨c0, c1, c2, c3, c4, c5⟩ := cells6 Z1.out; clear b1))
    | (go_at_call 71; ((with_reducible refine (HC.out _).mono ?_); rintro e w2 ⟨rfl, b1⟩; have B2 := Lib.hid (bel_trans B1.out b1); have Z2 := Lib.hid (keep_bel b1 Z1.out); obtain ⟨c0, c1, c2, c3, c4, c5⟩ := cells6 Z2.out; clear b1))
    | (go_at_call 42; ((with_reducible refine (HX.out _).mono ?_); rintro e w3 ⟨rfl, b1⟩; have B3 := Lib.hid (bel_trans B2.out b1); have Z3 := Lib.hid (keep_bel b1 Z2.out); obtain ⟨c0, c1, c2, c3, c4, c5⟩ := cells6 Z3.out; clear b1))
    | fail)
  obtain ⟨K, hK⟩ : ∃ K, K = (N ++ ⟨#[32]⟩) ++ X := ⟨_, rfl⟩
  have HK := Lib.hid (HE.out K hK)
  have HKS : Hid (K.size ≤ 4000001) := Lib.hid (by rw [hK, ByteArray.size_append, ByteArray.size_append]; have := HNS.out; have := HXS.out; have e : (⟨#[32]⟩ : ByteArray).size = 1 := rfl; omega)
  rw [← hK]
  clear hK l1 l2
  have l3 : ¬ 9223372036854775807 < 4 + K.size := by have := HKS.out; omega
  have l4 : ¬ 9223372036854775807 < 4 + K.size + 1 := by have := HKS.out; omega
  have l5 : ¬ 9223372036854775807 < 4 + K.size + 1 + Y.size := by have := HKS.out; have := HYS.out; omega
  have l6 : ¬ 9223372036854775807 < 4 + K.size + 1 + Y.size + 1 := by have := HKS.out; have := HYS.out; omega
  go_wp2_with (first
    | (go_at_call 42; ((with_reducible refine (HY.out _).mono ?_); rintro e w4 ⟨rfl, b1⟩; have B4 := Lib.hid (bel_trans B3.out b1); clear b1))
    | fail)
  refine bodyPost_ret (v := .tuple #[.string ((((⟨#[112, 117, 116, 32]⟩ ++ K) ++ ⟨#[32]⟩) ++ Y) ++ ⟨#[10]⟩), .bool true]) (by simp [results, Tryz.results43, go_sem]) rfl ⟨by rw [HK.out], B4.out⟩
set_option maxHeartbeats 2000000 in
set_option maxRecDepth 100000 in
theorem qline_2 (q : Int) (dl : Int) (key too val : ByteArray) (w : World) (hq : inT q = true) (hkey : key.size ≤ 900000) (htoo : too.size ≤ 900000) (hval : val.size ≤ 900000) (hm : mF 2 dl 2147483647 2147483647 key too val ≠ 3) :
    Calls Tryz.prog 43 #[.agg #[.int .u8 2, .int .i64 q, .string key, .string too, .string val, .int .u64 dl]] w fun e w' => e = .returned (.tuple #[.string ⟨(lineL [wDel, itoaB q, tokB key]).toArray⟩, .bool true]) ∧ Below w.heap.size w w' := by
  have HS := Lib.hid (And.intro hkey (And.intro htoo hval))
  have hm2 : mF 2 dl 0 0 key too val ≠ 3 := fun e => hm (mf_form e)
  obtain ⟨v, hv⟩ : ∃ v, mF 2 dl 0 0 key too val = v := ⟨_, rfl⟩
  have HC := Lib.hid (fun W => by
    have := qchk_any 2 q dl 0 0 0 0 0 0 0 0 0 key too val W
    rw [hv] at this
    exact this)
  have hv3 : (v == 3) = false := beq_eq_false_iff_ne.2 (by rw [← hv]; exact hm2)
  have HT := Lib.hid (fun W => tag_any q W)
  unfold tagT at HT
  rw [if_pos hq] at HT
  have HNS : Hid ((itoaB q).size ≤ 2000000) := Lib.hid (by
    unfold inT at hq
    simp only [Bool.and_eq_true, decide_eq_true_eq] at hq
    exact q_sz hq)
  have HX := Lib.hid (fun W => rtoken_any key (by have := HS.out.1; omega) W)
  have HXS := Lib.hid (tok_sz hkey)
  obtain ⟨N, hN⟩ : ∃ N, N = itoaB q := ⟨_, rfl⟩
  obtain ⟨X, hX⟩ : ∃ X, X = tokB key := ⟨_, rfl⟩
  have HE := Lib.hid (fun (K : ByteArray) (hK : K = (N ++ ⟨#[32]⟩) ++ X) => (show (⟨(lineL [wDel, itoaB q, tokB key]).toArray⟩ : ByteArray) = ((⟨#[100, 101, 108, 101, 116, 101, 32]⟩ ++ K) ++ ⟨#[10]⟩) from ba_inj (by rw [hK, ← hN, ← hX, line3, ba_app, ba_app, ba_app, ba_app, ba_list]; simp [wDel])))
  rw [← hN] at HT HNS
  rw [← hX] at HX HXS
  obtain ⟨R, hR⟩ : ∃ R : ByteArray, R = ⟨(lineL [wDel, itoaB q, tokB key]).toArray⟩ := ⟨_, rfl⟩
  rw [← hR] at HE ⊢
  clear hkey htoo hval hm hm2 hv hq hN hX hR
  obtain ⟨W0, hW0⟩ : ∃ W0, W0 = w.alloc (.cells #[.int .u8 2, .int .i64 q, .string key, .string too, .string val, .int .u64 dl] 73) := ⟨_, rfl⟩
  have B0 := Lib.hid (show Below w.heap.size w W0 by rw [hW0]; exact alb w _)
  have Z0 := Lib.hid (show W0.heap[w.heap.size]? = some (.cells #[.int .u8 2, .int .i64 q, .string key, .string too, .string val, .int .u64 dl] 73) by rw [hW0]; exact heap_alloc_new w _)
  obtain ⟨c0, c1, c2, c3, c4, c5⟩ := cells6 Z0.out
  have l1 : ¬ 9223372036854775807 < N.size + 1 := by have := HNS.out; omega
  have l2 : ¬ 9223372036854775807 < N.size + 1 + X.size := by have := HNS.out; have := HXS.out; omega
  go_enter Tryz.func43, Tryz.ntmps43
  go_upto_region 1 with fail
  rw [← hW0]
  clear hW0
  go_upto_region 5 with (first
    | (go_at_call 70; ((with_reducible refine (HT.out _).mono ?_); rintro e w1 ⟨rfl, b1⟩; have B1 := Lib.hid (bel_trans B0.out b1); have Z1 := Lib.hid (keep_bel b1 Z0.out); obtain ⟨c0, c1, c2, c3, c4, c5⟩ := cells6 Z1.out; clear b1))
    | (go_at_call 71; ((with_reducible refine (HC.out _).mono ?_); rintro e w2 ⟨rfl, b1⟩; have B2 := Lib.hid (bel_trans B1.out b1); have Z2 := Lib.hid (keep_bel b1 Z1.out); obtain ⟨c0, c1, c2, c3, c4, c5⟩ := cells6 Z2.out; clear b1))
    | (go_at_call 42; ((with_reducible refine (HX.out _).mono ?_); rintro e w3 ⟨rfl, b1⟩; have B3 := Lib.hid (bel_trans B2.out b1); have Z3 := Lib.hid (keep_bel b1 Z2.out); obtain ⟨c0, c1, c2, c3, c4, c5⟩ := cells6 Z3.out; clear b1))
    | fail)
  obtain ⟨K, hK⟩ : ∃ K, K = (N ++ ⟨#[32]⟩) ++ X := ⟨_, rfl⟩
  have HK := Lib.hid (HE.out K hK)
  have HKS : Hid (K.size ≤ 4000001) := Lib.hid (by rw [hK, ByteArray.size_append, ByteArray.size_append]; have := HNS.out; have := HXS.out; have e : (⟨#[32]⟩ : ByteArray).size = 1 := rfl; omega)
  rw [← hK]
  clear hK l1 l2
  have l3 : ¬ 9223372036854775807 < 7 + K.size := by have := HKS.out; omega
  have l4 : ¬ 9223372036854775807 < 7 + K.size + 1 := by have := HKS.out; omega
  go_wp2
  refine bodyPost_ret (v := .tuple #[.string ((⟨#[100, 101, 108, 101, 116, 101, 32]⟩ ++ K) ++ ⟨#[10]⟩), .bool true]) (by simp [results, Tryz.results43, go_sem]) rfl ⟨by rw [HK.out], B3.out⟩
set_option maxHeartbeats 2000000 in
set_option maxRecDepth 100000 in
theorem qline_3 (q : Int) (d : Nat) (hd : d ≤ 18446744073709551615) (key too val : ByteArray) (w : World) (hq : inT q = true) (hkey : key.size ≤ 900000) (htoo : too.size ≤ 900000) (hval : val.size ≤ 900000) (hm : mF 3 (d : Int) 2147483647 2147483647 key too val ≠ 3) :
    Calls Tryz.prog 43 #[.agg #[.int .u8 3, .int .i64 q, .string key, .string too, .string val, .int .u64 (d : Int)]] w fun e w' => e = .returned (.tuple #[.string ⟨(lineL [wAdd, itoaB q, tokB key, utoaB d]).toArray⟩, .bool true]) ∧ Below w.heap.size w w' := by
  have HS := Lib.hid (And.intro hkey (And.intro htoo hval))
  have hm2 : mF 3 (d : Int) 0 0 key too val ≠ 3 := fun e => hm (mf_form e)
  obtain ⟨v, hv⟩ : ∃ v, mF 3 (d : Int) 0 0 key too val = v := ⟨_, rfl⟩
  have HC := Lib.hid (fun W => by
    have := qchk_any 3 q (d : Int) 0 0 0 0 0 0 0 0 0 key too val W
    rw [hv] at this
    exact this)
  have hv3 : (v == 3) = false := beq_eq_false_iff_ne.2 (by rw [← hv]; exact hm2)
  have HT := Lib.hid (fun W => tag_any q W)
  unfold tagT at HT
  rw [if_pos hq] at HT
  have HNS : Hid ((itoaB q).size ≤ 2000000) := Lib.hid (by
    unfold inT at hq
    simp only [Bool.and_eq_true, decide_eq_true_eq] at hq
    exact q_sz hq)
  have HX := Lib.hid (fun W => rtoken_any key (by have := HS.out.1; omega) W)
  have HXS := Lib.hid (tok_sz hkey)
  have HY := Lib.hid (fun W => delta_any d hd W)
  have HYS := Lib.hid (utoa_sz d hd)
  obtain ⟨N, hN⟩ : ∃ N, N = itoaB q := ⟨_, rfl⟩
  obtain ⟨X, hX⟩ : ∃ X, X = tokB key := ⟨_, rfl⟩
  obtain ⟨Y, hY⟩ : ∃ Y, Y = utoaB d := ⟨_, rfl⟩
  have HE := Lib.hid (fun (K : ByteArray) (hK : K = (N ++ ⟨#[32]⟩) ++ X) => (show (⟨(lineL [wAdd, itoaB q, tokB key, utoaB d]).toArray⟩ : ByteArray) = ((((⟨#[97, 100, 100, 32]⟩ ++ K) ++ ⟨#[32]⟩) ++ Y) ++ ⟨#[10]⟩) from ba_inj (by rw [hK, ← hN, ← hX, ← hY, line4, ba_app, ba_app, ba_app, ba_app, ba_app, ba_app, ba_list]; simp [wAdd])))
  rw [← hN] at HT HNS
  rw [← hX] at HX HXS
  rw [← hY] at HY HYS
  obtain ⟨R, hR⟩ : ∃ R : ByteArray, R = ⟨(lineL [wAdd, itoaB q, tokB key, utoaB d]).toArray⟩ := ⟨_, rfl⟩
  rw [← hR] at HE ⊢
  clear hkey htoo hval hm hm2 hv hq hN hX hY hR
  obtain ⟨W0, hW0⟩ : ∃ W0, W0 = w.alloc (.cells #[.int .u8 3, .int .i64 q, .string key, .string too, .string val, .int .u64 (d : Int)] 73) := ⟨_, rfl⟩
  have B0 := Lib.hid (show Below w.heap.size w W0 by rw [hW0]; exact alb w _)
  have Z0 := Lib.hid (show W0.heap[w.heap.size]? = some (.cells #[.int .u8 3, .int .i64 q, .string key, .string too, .string val, .int .u64 (d : Int)] 73) by rw [hW0]; exact heap_alloc_new w _)
  obtain ⟨c0, c1, c2, c3, c4, c5⟩ := cells6 Z0.out
  have l1 : ¬ 9223372036854775807 < N.size + 1 := by have := HNS.out; omega
  have l2 : ¬ 9223372036854775807 < N.size + 1 + X.size := by have := HNS.out; have := HXS.out; omega
  go_enter Tryz.func43, Tryz.ntmps43
  go_upto_region 1 with fail
  rw [← hW0]
  clear hW0
  go_upto_region 5 with (first
    | (go_at_call 70; ((with_reducible refine (HT.out _).mono ?_); rintro e w1 ⟨rfl, b1⟩; have B1 := Lib.hid (bel_trans B0.out b1); have Z1 := Lib.hid (keep_bel b1 Z0.out); obtain ⟨c0, c1, c2, c3, c4, c5⟩ := cells6 Z1.out; clear b1))
    | (go_at_call 71; ((with_reducible refine (HC.out _).mono ?_); rintro e w2 ⟨rfl, b1⟩; have B2 := Lib.hid (bel_trans B1.out b1); have Z2 := Lib.hid (keep_bel b1 Z1.out); obtain ⟨c0, c1, c2, c3, c4, c5⟩ := cells6 Z2.out; clear b1))
    | (go_at_call 42; ((with_reducible refine (HX.out _).mono ?_); rintro e w3 ⟨rfl, b1⟩; have B3 := Lib.hid (bel_trans B2.out b1); have Z3 := Lib.hid (keep_bel b1 Z2.out); obtain ⟨c0, c1, c2, c3, c4, c5⟩ := cells6 Z3.out; clear b1))
    | fail)
  obtain ⟨K, hK⟩ : ∃ K, K = (N ++ ⟨#[32]⟩) ++ X := ⟨_, rfl⟩
  have HK := Lib.hid (HE.out K hK)
  have HKS : Hid (K.size ≤ 4000001) := Lib.hid (by rw [hK, ByteArray.size_append, ByteArray.size_append]; have := HNS.out; have := HXS.out; have e : (⟨#[32]⟩ : ByteArray).size = 1 := rfl; omega)
  rw [← hK]
  clear hK l1 l2
  have l3 : ¬ 9223372036854775807 < 4 + K.size := by have := HKS.out; omega
  have l4 : ¬ 9223372036854775807 < 4 + K.size + 1 := by have := HKS.out; omega
  have l5 : ¬ 9223372036854775807 < 4 + K.size + 1 + Y.size := by have := HKS.out; have := HYS.out; omega
  have l6 : ¬ 9223372036854775807 < 4 + K.size + 1 + Y.size + 1 := by have := HKS.out; have := HYS.out; omega
  go_wp2_with (first
    | (go_at_call 72; ((with_reducible refine (HY.out _).mono ?_); rintro e w4 ⟨rfl, b1⟩; have B4 := Lib.hid (bel_trans B3.out b1); clear b1))
    | fail)
  refine bodyPost_ret (v := .tuple #[.string ((((⟨#[97, 100, 100, 32]⟩ ++ K) ++ ⟨#[32]⟩) ++ Y) ++ ⟨#[10]⟩), .bool true]) (by simp [results, Tryz.results43, go_sem]) rfl ⟨by rw [HK.out], B4.out⟩
set_option maxHeartbeats 2000000 in
set_option maxRecDepth 100000 in
theorem qline_4 (q : Int) (dl : Int) (key too val : ByteArray) (w : World) (hq : inT q = true) (hkey : key.size ≤ 900000) (htoo : too.size ≤ 900000) (hval : val.size ≤ 900000) (hm : mF 4 dl 2147483647 2147483647 key too val ≠ 3) :
    Calls Tryz.prog 43 #[.agg #[.int .u8 4, .int .i64 q, .string key, .string too, .string val, .int .u64 dl]] w fun e w' => e = .returned (.tuple #[.string ⟨(lineL [wClr, itoaB q, tokB key, tokB too]).toArray⟩, .bool true]) ∧ Below w.heap.size w w' := by
  have HS := Lib.hid (And.intro hkey (And.intro htoo hval))
  have hm2 : mF 4 dl 0 0 key too val ≠ 3 := fun e => hm (mf_form e)
  obtain ⟨v, hv⟩ : ∃ v, mF 4 dl 0 0 key too val = v := ⟨_, rfl⟩
  have HC := Lib.hid (fun W => by
    have := qchk_any 4 q dl 0 0 0 0 0 0 0 0 0 key too val W
    rw [hv] at this
    exact this)
  have hv3 : (v == 3) = false := beq_eq_false_iff_ne.2 (by rw [← hv]; exact hm2)
  have HT := Lib.hid (fun W => tag_any q W)
  unfold tagT at HT
  rw [if_pos hq] at HT
  have HNS : Hid ((itoaB q).size ≤ 2000000) := Lib.hid (by
    unfold inT at hq
    simp only [Bool.and_eq_true, decide_eq_true_eq] at hq
    exact q_sz hq)
  have HX := Lib.hid (fun W => rtoken_any key (by have := HS.out.1; omega) W)
  have HXS := Lib.hid (tok_sz hkey)
  have HY := Lib.hid (fun W => rtoken_any too (by have := HS.out.2.1; omega) W)
  have HYS := Lib.hid (tok_sz htoo)
  obtain ⟨N, hN⟩ : ∃ N, N = itoaB q := ⟨_, rfl⟩
  obtain ⟨X, hX⟩ : ∃ X, X = tokB key := ⟨_, rfl⟩
  obtain ⟨Y, hY⟩ : ∃ Y, Y = tokB too := ⟨_, rfl⟩
  have HE := Lib.hid (fun (K : ByteArray) (hK : K = (N ++ ⟨#[32]⟩) ++ X) => (show (⟨(lineL [wClr, itoaB q, tokB key, tokB too]).toArray⟩ : ByteArray) = ((((⟨#[99, 108, 101, 97, 114, 32]⟩ ++ K) ++ ⟨#[32]⟩) ++ Y) ++ ⟨#[10]⟩) from ba_inj (by rw [hK, ← hN, ← hX, ← hY, line4, ba_app, ba_app, ba_app, ba_app, ba_app, ba_app, ba_list]; simp [wClr])))
  rw [← hN] at HT HNS
  rw [← hX] at HX HXS
  rw [← hY] at HY HYS
  obtain ⟨R, hR⟩ : ∃ R : ByteArray, R = ⟨(lineL [wClr, itoaB q, tokB key, tokB too]).toArray⟩ := ⟨_, rfl⟩
  rw [← hR] at HE ⊢
  clear hkey htoo hval hm hm2 hv hq hN hX hY hR
  obtain ⟨W0, hW0⟩ : ∃ W0, W0 = w.alloc (.cells #[.int .u8 4, .int .i64 q, .string key, .string too, .string val, .int .u64 dl] 73) := ⟨_, rfl⟩
  have B0 := Lib.hid (show Below w.heap.size w W0 by rw [hW0]; exact alb w _)
  have Z0 := Lib.hid (show W0.heap[w.heap.size]? = some (.cells #[.int .u8 4, .int .i64 q, .string key, .string too, .string val, .int .u64 dl] 73) by rw [hW0]; exact heap_alloc_new w _)
  obtain ⟨c0, c1, c2, c3, c4, c5⟩ := cells6 Z0.out
  have l1 : ¬ 9223372036854775807 < N.size + 1 := by have := HNS.out; omega
  have l2 : ¬ 9223372036854775807 < N.size + 1 + X.size := by have := HNS.out; have := HXS.out; omega
  go_enter Tryz.func43, Tryz.ntmps43
  go_upto_region 1 with fail
  rw [← hW0]
  clear hW0
  go_upto_region 5 with (first
    | (go_at_call 70; ((with_reducible refine (HT.out _).mono ?_); rintro e w1 ⟨rfl, b1⟩; have B1 := Lib.hid (bel_trans B0.out b1); have Z1 := Lib.hid (keep_bel b1 Z0.out); obtain ⟨c0, c1, c2, c3, c4, c5⟩ := cells6 Z1.out; clear b1))
    | (go_at_call 71; ((with_reducible refine (HC.out _).mono ?_); rintro e w2 ⟨rfl, b1⟩; have B2 := Lib.hid (bel_trans B1.out b1); have Z2 := Lib.hid (keep_bel b1 Z1.out); obtain ⟨c0, c1, c2, c3, c4, c5⟩ := cells6 Z2.out; clear b1))
    | (go_at_call 42; ((with_reducible refine (HX.out _).mono ?_); rintro e w3 ⟨rfl, b1⟩; have B3 := Lib.hid (bel_trans B2.out b1); have Z3 := Lib.hid (keep_bel b1 Z2.out); obtain ⟨c0, c1, c2, c3, c4, c5⟩ := cells6 Z3.out; clear b1))
    | fail)
  obtain ⟨K, hK⟩ : ∃ K, K = (N ++ ⟨#[32]⟩) ++ X := ⟨_, rfl⟩
  have HK := Lib.hid (HE.out K hK)
  have HKS : Hid (K.size ≤ 4000001) := Lib.hid (by rw [hK, ByteArray.size_append, ByteArray.size_append]; have := HNS.out; have := HXS.out; have e : (⟨#[32]⟩ : ByteArray).size = 1 := rfl; omega)
  rw [← hK]
  clear hK l1 l2
  have l3 : ¬ 9223372036854775807 < 6 + K.size := by have := HKS.out; omega
  have l4 : ¬ 9223372036854775807 < 6 + K.size + 1 := by have := HKS.out; omega
  have l5 : ¬ 9223372036854775807 < 6 + K.size + 1 + Y.size := by have := HKS.out; have := HYS.out; omega
  have l6 : ¬ 9223372036854775807 < 6 + K.size + 1 + Y.size + 1 := by have := HKS.out; have := HYS.out; omega
  go_wp2_with (first
    | (go_at_call 42; ((with_reducible refine (HY.out _).mono ?_); rintro e w4 ⟨rfl, b1⟩; have B4 := Lib.hid (bel_trans B3.out b1); clear b1))
    | fail)
  refine bodyPost_ret (v := .tuple #[.string ((((⟨#[99, 108, 101, 97, 114, 32]⟩ ++ K) ++ ⟨#[32]⟩) ++ Y) ++ ⟨#[10]⟩), .bool true]) (by simp [results, Tryz.results43, go_sem]) rfl ⟨by rw [HK.out], B4.out⟩
/-- A message's line, by the document. -/
def qlT (m : M) : Value := if tmB m = true then .tuple #[.string ⟨(lineL (mWd m)).toArray⟩, .bool true] else .tuple #[.string ⟨#[]⟩, .bool false]
theorem mf_k {k dl a0 a1 : Int} {key too val : ByteArray} (h : mF k dl a0 a1 key too val ≠ 3) : k = 1 ∨ k = 2 ∨ k = 3 ∨ k = 4 := by
  by_cases k1 : k = 1
  · exact .inl k1
  by_cases k2 : k = 2
  · exact .inr (.inl k2)
  by_cases k3 : k = 3
  · exact .inr (.inr (.inl k3))
  by_cases k4 : k = 4
  · exact .inr (.inr (.inr k4))
  unfold mF at h
  rw [if_neg k1, if_neg k2, if_neg k3, if_neg k4] at h
  exact absurd rfl h
set_option maxHeartbeats 2000000 in
set_option maxRecDepth 100000 in
theorem qline_bad1 (m : M) (w : World) (hq : inT m.q = false) : Calls Tryz.prog 43 #[m.v] w fun e w' => e = .returned (.tuple #[.string ⟨#[]⟩, .bool false]) ∧ Below w.heap.size w w' := by
  have HT := Lib.hid (fun W => tag_any m.q W)
  unfold tagT at HT
  rw [if_neg (by simp [hq])] at HT
  unfold M.v
  obtain ⟨W0, hW0⟩ : ∃ W0, W0 = w.alloc (msgO m) := ⟨_, rfl⟩
  have B0 := Lib.hid (show Below w.heap.size w W0 by rw [hW0]; exact alb w _)
  have Z0 := Lib.hid (show W0.heap[w.heap.size]? = some (msgO m) by rw [hW0]; exact heap_alloc_new w _)
  obtain ⟨c0, c1, c2, c3, c4, c5⟩ := cells6 Z0.out
  clear hq
  go_enter Tryz.func43, Tryz.ntmps43
  go_upto_region 1 with fail
  rw [← hW0]
  clear hW0
  go_wp2_with (first
    | (go_at_call 70; ((with_reducible refine (HT.out _).mono ?_); rintro e w1 ⟨rfl, b1⟩; have B1 := Lib.hid (bel_trans B0.out b1); clear b1))
    | fail)
  refine bodyPost_ret (v := .tuple #[.string ⟨#[]⟩, .bool false]) (by simp [results, Tryz.results43, go_sem]) rfl ⟨rfl, B1.out⟩
set_option maxHeartbeats 2000000 in
set_option maxRecDepth 100000 in
theorem qline_bad2 (m : M) (w : World) (hq : inT m.q = true) (hm : mF m.k m.dl 2147483647 2147483647 m.key m.too m.val = 3) : Calls Tryz.prog 43 #[m.v] w fun e w' => e = .returned (.tuple #[.string ⟨#[]⟩, .bool false]) ∧ Below w.heap.size w w' := by
  have HT := Lib.hid (fun W => tag_any m.q W)
  unfold tagT at HT
  rw [if_pos hq] at HT
  have HC := Lib.hid (fun W => by
    have := qchk_any m.k m.q m.dl 0 0 0 0 0 0 0 0 0 m.key m.too m.val W
    rw [mf_form hm] at this
    exact this)
  unfold M.v
  obtain ⟨N, hN⟩ : ∃ N, N = itoaB m.q := ⟨_, rfl⟩
  rw [← hN] at HT
  obtain ⟨W0, hW0⟩ : ∃ W0, W0 = w.alloc (msgO m) := ⟨_, rfl⟩
  have B0 := Lib.hid (show Below w.heap.size w W0 by rw [hW0]; exact alb w _)
  have Z0 := Lib.hid (show W0.heap[w.heap.size]? = some (msgO m) by rw [hW0]; exact heap_alloc_new w _)
  obtain ⟨c0, c1, c2, c3, c4, c5⟩ := cells6 Z0.out
  clear hq hm hN
  go_enter Tryz.func43, Tryz.ntmps43
  go_upto_region 1 with fail
  rw [← hW0]
  clear hW0
  go_wp2_with (first
    | (go_at_call 70; ((with_reducible refine (HT.out _).mono ?_); rintro e w1 ⟨rfl, b1⟩; have B1 := Lib.hid (bel_trans B0.out b1); have Z1 := Lib.hid (keep_bel b1 Z0.out); obtain ⟨c0, c1, c2, c3, c4, c5⟩ := cells6 Z1.out; clear b1))
    | (go_at_call 71; ((with_reducible refine (HC.out _).mono ?_); rintro e w2 ⟨rfl, b1⟩; have B2 := Lib.hid (bel_trans B1.out b1); clear b1))
    | fail)
  refine bodyPost_ret (v := .tuple #[.string ⟨#[]⟩, .bool false]) (by simp [results, Tryz.results43, go_sem]) rfl ⟨rfl, B2.out⟩
theorem qline_any (m : M) (w : World) (hs : MSm m) (hd : 0 ≤ m.dl ∧ m.dl ≤ 18446744073709551615) : Calls Tryz.prog 43 #[m.v] w fun e w' => e = .returned (qlT m) ∧ Below w.heap.size w w' := by
  unfold qlT tmB
  by_cases hq : inT m.q = true
  · by_cases hm : mF m.k m.dl 2147483647 2147483647 m.key m.too m.val = 3
    · rw [if_neg (by simp [hm])]
      exact qline_bad2 m w hq hm
    · have h2 := hq
      unfold inT at h2
      rw [if_pos (by rw [h2]; simp [hm])]
      obtain ⟨h1, h3, h4⟩ := hs
      obtain ⟨k, q, key, too, val, dl⟩ := m
      simp only at hq hm hd h1 h3 h4
      rcases mf_k hm with rfl | rfl | rfl | rfl
      · exact qline_1 q dl key too val w hq h1 h3 h4 hm
      · exact qline_2 q dl key too val w hq h1 h3 h4 hm
      · obtain ⟨d, rfl⟩ : ∃ d : Nat, dl = d := ⟨dl.toNat, by omega⟩
        exact qline_3 q d (by omega) key too val w hq h1 h3 h4 hm
      · exact qline_4 q dl key too val w hq h1 h3 h4 hm
  · have h2 := hq
    unfold inT at h2
    rw [if_neg (by simp only [Bool.not_eq_true] at h2; rw [h2]; simp)]
    exact qline_bad1 m w (by simpa using hq)
end Go.Proofs.YtdebedeebmmleaaGreatDoor
namespace Go.Proofs.YtdebedeebmmleaaGreatDoor
open Go.RowKit Go.Maps
/-- What the document answers of a node. -/
def QNode (i : Nat) (y : NdV) (w : World) (e : Ending) (w' : World) : Prop := (∃ s, e = .returned (.tuple #[.string s, .bool (toldAt (y, i))]) ∧ (toldAt (y, i) = true → s = ⟨(nodeL i y).toArray⟩)) ∧ Below w.heap.size w w'
theorem told_k0 {i : Nat} {y : NdV} (h : y.k = 0) : toldAt (y, i) = decide (y.kids.length + y.piv.length + y.ms.length + y.bl.length = 0) := by
  unfold toldAt nodeB
  simp only
  rw [if_pos h]
  simp [h]
set_option maxHeartbeats 4000000 in
set_option maxRecDepth 100000 in
theorem qnode_0 (i : Nat) (x : NC) (hs : List Hd) (y : NdV) (w : World) (hk : y.k = 0) (hN : NRd w x hs y) : Calls Tryz.prog 26 #[.int .i64 (i : Int), nodeA x] w (QNode i y w) := by
  unfold QNode
  rw [told_k0 hk]
  have HT : Hid ((⟨(nodeL i y).toArray⟩ : ByteArray) = ⟨#[]⟩) := Lib.hid (by unfold nodeL; rw [if_neg (by omega), if_neg (by omega)])
  obtain ⟨W0, hW0⟩ : ∃ W0, W0 = w.alloc (nodeO x) := ⟨_, rfl⟩
  have B0 := Lib.hid (show Below w.heap.size w W0 by rw [hW0]; exact alb w _)
  have Z0 := Lib.hid (show W0.heap[w.heap.size]? = some (nodeO x) by rw [hW0]; exact heap_alloc_new w _)
  obtain ⟨c0, c1, c2, c3, c4⟩ := cells5 Z0.out
  obtain ⟨nq, hnq⟩ : ∃ n, n = y.kids.length := ⟨_, rfl⟩
  obtain ⟨np, hnp⟩ : ∃ n, n = y.piv.length := ⟨_, rfl⟩
  obtain ⟨nm, hnm⟩ : ∃ n, n = y.ms.length := ⟨_, rfl⟩
  obtain ⟨nl, hnl⟩ : ∃ n, n = y.bl.length := ⟨_, rfl⟩
  rw [hN.k, hk] at c0
  rw [hN.p.1, ← hnp] at c1
  rw [hN.q.1, ← hnq] at c2
  rw [hN.m.1, ← hnm] at c3
  rw [hN.b.1, hN.b.2.2.1, ← hnl] at c4
  rw [← hnq, ← hnp, ← hnm, ← hnl]
  obtain ⟨T, hT⟩ : ∃ T : ByteArray, T = ⟨(nodeL i y).toArray⟩ := ⟨_, rfl⟩
  rw [← hT] at HT ⊢
  clear hN hk hnq hnp hnm hnl hT
  by_cases h1 : nq = 0
  · have e1 : ((nq : Int) == 0) = true := by rw [h1]; rfl
    by_cases h2 : np = 0
    · have e2 : ((np : Int) == 0) = true := by rw [h2]; rfl
      by_cases h3 : nm = 0
      · have e3 : ((nm : Int) == 0) = true := by rw [h3]; rfl
        by_cases h4 : nl = 0
        · have e4 : ((nl : Int) == 0) = true := by rw [h4]; rfl
          have HD := Lib.hid (show decide (nq + np + nm + nl = 0) = true by simp; omega)
          clear h1 h2 h3 h4
          go_enter Tryz.func26, Tryz.ntmps26
          go_upto_region 1 with fail
          rw [← hW0]
          clear hW0
          go_wp2_with fail
          go_quiet (fail)
          go_wp2
          rw [HD.out]
          refine bodyPost_ret (v := .tuple #[.string ⟨#[]⟩, .bool true]) (by simp [results, Tryz.results26, go_sem]) rfl ⟨⟨_, rfl, fun _ => HT.out.symm⟩, bel_drewN B0.out _⟩
        · have e4 : ((nl : Int) == 0) = false := beq_eq_false_iff_ne.2 (by omega)
          have HD := Lib.hid (show decide (nq + np + nm + nl = 0) = false by simp; omega)
          clear h1 h2 h3 h4
          go_enter Tryz.func26, Tryz.ntmps26
          go_upto_region 1 with fail
          rw [← hW0]
          clear hW0
          go_wp2_with fail
          go_quiet (fail)
          go_wp2
          rw [HD.out]
          refine bodyPost_ret (v := .tuple #[.string ⟨#[]⟩, .bool false]) (by simp [results, Tryz.results26, go_sem]) rfl ⟨⟨_, rfl, fun h => by cases h⟩, bel_drewN B0.out _⟩
      · have e3 : ((nm : Int) == 0) = false := beq_eq_false_iff_ne.2 (by omega)
        have HD := Lib.hid (show decide (nq + np + nm + nl = 0) = false by simp; omega)
        clear h1 h2 h3
        go_enter Tryz.func26, Tryz.ntmps26
        go_upto_region 1 with fail
        rw [← hW0]
        clear hW0
        go_wp2_with fail
        go_quiet (fail)
        go_wp2
        rw [HD.out]
        refine bodyPost_ret (v := .tuple #[.string ⟨#[]⟩, .bool false]) (by simp [results, Tryz.results26, go_sem]) rfl ⟨⟨_, rfl, fun h => by cases h⟩, bel_drewN B0.out _⟩
    · have e2 : ((np : Int) == 0) = false := beq_eq_false_iff_ne.2 (by omega)
      have HD := Lib.hid (show decide (nq + np + nm + nl = 0) = false by simp; omega)
      clear h1 h2
      go_enter Tryz.func26, Tryz.ntmps26
      go_upto_region 1 with fail
      rw [← hW0]
      clear hW0
      go_wp2_with fail
      go_quiet (fail)
      go_wp2
      rw [HD.out]
      refine bodyPost_ret (v := .tuple #[.string ⟨#[]⟩, .bool false]) (by simp [results, Tryz.results26, go_sem]) rfl ⟨⟨_, rfl, fun h => by cases h⟩, bel_drewN B0.out _⟩
  · have e1 : ((nq : Int) == 0) = false := beq_eq_false_iff_ne.2 (by omega)
    have HD := Lib.hid (show decide (nq + np + nm + nl = 0) = false by simp; omega)
    clear h1
    go_enter Tryz.func26, Tryz.ntmps26
    go_upto_region 1 with fail
    rw [← hW0]
    clear hW0
    go_wp2_with fail
    go_quiet (fail)
    go_wp2
    rw [HD.out]
    refine bodyPost_ret (v := .tuple #[.string ⟨#[]⟩, .bool false]) (by simp [results, Tryz.results26, go_sem]) rfl ⟨⟨_, rfl, fun h => by cases h⟩, bel_drewN B0.out _⟩
theorem told_z {y : NdV} (h : ¬ y.k = 0) : toldAt (y, 0) = false := by
  unfold toldAt
  simp [h]
theorem told_hi {i : Nat} {y : NdV} (h : 2 < y.k) : toldAt (y, i) = false := by
  unfold toldAt nodeB
  simp only
  rw [if_neg (by omega), if_neg (by omega), if_neg (by omega)]
  rfl
set_option maxHeartbeats 4000000 in
set_option maxRecDepth 100000 in
theorem qnode_z (x : NC) (hs : List Hd) (y : NdV) (w : World) (hk : ¬ y.k = 0) (hN : NRd w x hs y) : Calls Tryz.prog 26 #[.int .i64 0, nodeA x] w (QNode 0 y w) := by
  unfold QNode
  rw [told_z hk]
  have NU := Lib.hid (fun W => rnum_any 0 (by omega) (by omega) W)
  unfold numT at NU
  rw [if_pos (by decide)] at NU
  have ek : (x.k == 0) = false := beq_eq_false_iff_ne.2 (by rw [hN.k]; exact hk)
  obtain ⟨W0, hW0⟩ : ∃ W0, W0 = w.alloc (nodeO x) := ⟨_, rfl⟩
  have B0 := Lib.hid (show Below w.heap.size w W0 by rw [hW0]; exact alb w _)
  have Z0 := Lib.hid (show W0.heap[w.heap.size]? = some (nodeO x) by rw [hW0]; exact heap_alloc_new w _)
  obtain ⟨c0, c1, c2, c3, c4⟩ := cells5 Z0.out
  clear hN hk
  go_enter Tryz.func26, Tryz.ntmps26
  go_upto_region 1 with fail
  rw [← hW0]
  clear hW0
  go_wp2_with (first
    | (go_at_call 25; ((with_reducible refine (NU.out _).mono ?_); rintro e w1 ⟨rfl, hw⟩; (have hw2 := hw.symm; subst hw2; clear hw)))
    | fail)
  refine bodyPost_ret (v := .tuple #[.string ⟨#[]⟩, .bool false]) (by simp [results, Tryz.results26, go_sem]) rfl ⟨⟨_, rfl, fun h => by cases h⟩, B0.out⟩
set_option maxHeartbeats 4000000 in
set_option maxRecDepth 100000 in
theorem qnode_hi (i : Nat) (hi : 0 < i ∧ i ≤ 4097) (x : NC) (hs : List Hd) (y : NdV) (w : World) (hk : 2 < y.k) (hN : NRd w x hs y) : Calls Tryz.prog 26 #[.int .i64 (i : Int), nodeA x] w (QNode i y w) := by
  unfold QNode
  rw [told_hi hk]
  have NU := Lib.hid (fun W => rnum_any (i : Int) (by omega) (by omega) W)
  unfold numT at NU
  rw [if_pos (by unfold inR; simp; omega)] at NU
  have ek : (x.k == 0) = false := beq_eq_false_iff_ne.2 (by rw [hN.k]; omega)
  have ek2 : (2 : Int) < x.k := by rw [hN.k]; exact hk
  have ei : ((i : Int) == 0) = false := beq_eq_false_iff_ne.2 (by omega)
  obtain ⟨N, hNN⟩ : ∃ N, N = itoaB (i : Int) := ⟨_, rfl⟩
  rw [← hNN] at NU
  obtain ⟨W0, hW0⟩ : ∃ W0, W0 = w.alloc (nodeO x) := ⟨_, rfl⟩
  have B0 := Lib.hid (show Below w.heap.size w W0 by rw [hW0]; exact alb w _)
  have Z0 := Lib.hid (show W0.heap[w.heap.size]? = some (nodeO x) by rw [hW0]; exact heap_alloc_new w _)
  obtain ⟨c0, c1, c2, c3, c4⟩ := cells5 Z0.out
  clear hN hk hi hNN
  go_enter Tryz.func26, Tryz.ntmps26
  go_upto_region 1 with fail
  rw [← hW0]
  clear hW0
  go_wp2_with (first
    | (go_at_call 25; ((with_reducible refine (NU.out _).mono ?_); rintro e w1 ⟨rfl, hw⟩; (have hw2 := hw.symm; subst hw2; clear hw)))
    | fail)
  refine bodyPost_ret (v := .tuple #[.string ⟨#[]⟩, .bool false]) (by simp [results, Tryz.results26, go_sem]) rfl ⟨⟨_, rfl, fun h => by cases h⟩, B0.out⟩
end Go.Proofs.YtdebedeebmmleaaGreatDoor
