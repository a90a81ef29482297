/- The law MergeCuts: the first things of a row, and those behind them. -/
import Derived.Test.YtpijaphcknoobaaY6
namespace Go.Proofs.Ytpijaphcknoobaa
set_option linter.unusedSimpArgs false
open Go.RowKit Go.Shelf
set_option linter.unusedVariables false

theorem cls_take (xs : List TT) (m : Nat) : cls (xs.take m) = (cls xs).take (m * 2) := by
  induction xs generalizing m with
  | nil => simp [cls]
  | cons x xs ih =>
    cases m with
    | zero => simp [cls]
    | succ m => rw [List.take_succ_cons, cls_cons, cls_cons, show (m + 1) * 2 = m * 2 + 1 + 1 by omega, List.take_succ_cons, List.take_succ_cons, ih]
theorem rdt_take {w : World} {A : Option Addr} {xs : List TT} (h : RdT w A xs) (m : Nat) : RdT w A (xs.take m) := by
  show Rd w w.heap.size A (cls (xs.take m))
  rw [cls_take]
  rcases h with h | ⟨b, off, hA, hlt, hc⟩
  · rw [h]; exact .inl (by simp)
  · refine .inr ⟨b, off, hA, hlt, fun j u hj => hc j u ?_⟩
    rw [List.getElem?_take] at hj
    split at hj
    · exact hj
    · cases hj
theorem three_sum (ys : List TT) (k : Nat) (a b c : Value) : ([(a, ys.take k), (b, []), (c, ys.drop k)].map Prod.snd).flatten = ys := by simp
theorem cut_lo (ys : List TT) (m : Nat) (n : Int) (hm : ys.length = m) : cutT ys 0 (min n.toNat m) = ys.take n.toNat := by
  unfold cutT
  rw [List.drop_zero]
  by_cases h : n.toNat ≤ m
  · rw [show min n.toNat m = n.toNat by omega]
  · rw [show min n.toNat m = m by omega, List.take_of_length_le (by omega), List.take_of_length_le (by omega)]
theorem cut_hi (ys : List TT) (m : Nat) (n : Int) (hm : ys.length = m) : cutT ys (min n.toNat m) m = ys.drop n.toNat := by
  unfold cutT
  rw [List.take_of_length_le (by omega)]
  by_cases h : n.toNat ≤ m
  · rw [show min n.toNat m = n.toNat by omega]
  · rw [show min n.toNat m = m by omega, List.drop_eq_nil_of_le (by omega), List.drop_eq_nil_of_le (by omega)]
set_option maxRecDepth 100000 in
set_option maxHeartbeats 4000000 in
theorem cuts_any (A : Option Addr) (len cap : Nat) (xs : List TT) (n : Int) (hn1 : n ≤ 9223372036854775807) (hn0 : -9223372036854775808 ≤ n) (W : World) (hl : xs.length = len) (hc : len ≤ cap) (hc9 : cap ≤ 9223372036854775807) (hR : RdT W A xs) :
    Calls Try.prog 5 #[.slice A len cap, .int .i64 n] W fun e W' => e = .returned (.bool true) ∧ Below W.heap.size W W' := by
  obtain ⟨m, hm⟩ : ∃ m, m = min len 20 := ⟨_, rfl⟩
  obtain ⟨ys, hys⟩ : ∃ ys, ys = xs.take m := ⟨_, rfl⟩
  have hlen : ys.length = m := by rw [hys, List.length_take]; omega
  have hm20 : m ≤ 20 := by omega
  have hRy : RdT W A ys := by rw [hys]; exact rdt_take hR m
  obtain ⟨K, hK⟩ : ∃ K, K = min n.toNat m := ⟨_, rfl⟩
  have HF := Lib.hid (few_any A len cap W hc hc9)
  rw [← hm] at HF
  have HY : Hid (∀ U, Below W.heap.size W U → RdT U A ys) := Lib.hid (fun U hU => Rd.later hRy hU)
  have HOf : Hid (∀ U, Below W.heap.size W U → Calls Try.prog 21 #[.slice A m cap] U (SeqBack Try.prog 41 U ys)) := Lib.hid (fun U hU => of_any A cap m ys hlen (by omega) U (HY.out U hU))
  have E41 := Lib.hid (enters_of Try.func41 (by kernel_rfl) rfl)
  have E39 := Lib.hid (enters_of Try.func39 (by kernel_rfl) rfl)
  have E42 := Lib.hid (enters_of Try.func42 (by kernel_rfl) rfl)
  have E44 := Lib.hid (enters_of Try.func44 (by kernel_rfl) rfl)
  have HLEN := Lib.hid hlen
  obtain ⟨kz, hkz, hcase⟩ : ∃ kz : Int, kz = (K : Int) ∧ ((n < 0 ∧ ¬ (m : Int) < n ∧ kz = 0) ∨ (¬ n < 0 ∧ ¬ (m : Int) < n ∧ kz = n) ∨ (¬ n < 0 ∧ (m : Int) < n ∧ kz = (m : Int))) := by
    refine ⟨K, rfl, ?_⟩
    omega
  obtain ⟨ta, hta⟩ : ∃ ta, ta = ys.take n.toNat := ⟨_, rfl⟩
  obtain ⟨tb, htb⟩ : ∃ tb, tb = ys.drop n.toNat := ⟨_, rfl⟩
  have HC0 : Hid (∀ U, Below W.heap.size W U → Calls Try.prog 24 #[.slice A m cap, .int .i64 0, .int .i64 kz] U (NewRow U ta)) := Lib.hid (fun U hU => by
    have h := cut_any A m cap 0 K ys U hlen (by omega) (HY.out U hU)
    rw [hK, cut_lo ys m n hlen, ← hK, ← hkz, ← hta] at h
    exact h)
  have HC1 : Hid (∀ U, Below W.heap.size W U → Calls Try.prog 24 #[.slice A m cap, .int .i64 kz, .int .i64 m] U (NewRow U tb)) := Lib.hid (fun U hU => by
    have h := cut_any A m cap K m ys U hlen (by omega) (HY.out U hU)
    rw [hK, cut_hi ys m n hlen, ← hK, ← hkz, ← htb] at h
    exact h)
  have HTK : Hid (∀ lb U, SeqF Try.prog 41 lb enc ys U → Calls Try.prog 20 #[.func (.func 41) #[] lb, .int .i64 n] U (SeqBack Try.prog 39 U ta)) := Lib.hid (fun lb U hs => by
    rw [hta]; exact take_any E41.out (by omega) hs (Below.refl _ _) n hn1)
  have HSK : Hid (∀ lb U, SeqF Try.prog 41 lb enc ys U → Calls Try.prog 22 #[.func (.func 41) #[] lb, .int .i64 n] U (SeqBack Try.prog 42 U tb)) := Lib.hid (fun lb U hs => by
    rw [htb]; exact skip_any E41.out (by omega) hs (Below.refl _ _) n hn1 hn0)
  have HSUM : Hid (∀ a b c : Value, ([(a, ta), (b, []), (c, tb)].map Prod.snd).flatten = ys) := Lib.hid (fun a b c => by rw [hta, htb]; exact three_sum ys n.toNat a b c)
  have TL : Hid (ta.length ≤ 20) := Lib.hid (by rw [hta, List.length_take]; omega)
  have DL : Hid (tb.length ≤ 20) := Lib.hid (by rw [htb, List.length_drop]; omega)
  have E47 : Hid (∀ (lb1 lb2 : Array Value) U, SeqF Try.prog 39 lb1 enc ta U → SeqF Try.prog 42 lb2 enc tb U → Calls Try.prog 23 #[.slice (some ⟨U.heap.size, 0, none⟩) 3 3] (U.alloc (.cells #[.func (.func 39) #[] lb1, .nilFunc, .func (.func 42) #[] lb2] 31)) (SeqBack Try.prog 44 (U.alloc (.cells #[.func (.func 39) #[] lb1, .nilFunc, .func (.func 42) #[] lb2] 31)) ys)) := Lib.hid (fun lb1 lb2 U h1 h2 => by
    have hb : Below U.heap.size U (U.alloc (.cells #[.func (.func 39) #[] lb1, .nilFunc, .func (.func 42) #[] lb2] 31)) := bel_alloc (Below.refl _ _) _
    have h := join_any (some ⟨U.heap.size, 0, none⟩) 3 3 [(.func (.func 39) #[] lb1, ta), (.nilFunc, []), (.func (.func 42) #[] lb2, tb)] rfl (by simp) (U.alloc (.cells #[.func (.func 39) #[] lb1, .nilFunc, .func (.func 42) #[] lb2] 31)) (rd_block (World.alloc_heap_new U _)) (fun r hr => by
      rcases List.mem_cons.1 hr with rfl | hr
      · exact .inr ⟨39, lb1, rfl, E39.out, h1.later hb⟩
      · rcases List.mem_cons.1 hr with rfl | hr
        · exact .inl ⟨rfl, rfl⟩
        · rcases List.mem_cons.1 hr with rfl | hr
          · exact .inr ⟨42, lb2, rfl, E42.out, h2.later hb⟩
          · simp at hr)
    rw [HSUM.out] at h
    exact h)
  clear hR hl hc hm hys hlen hRy hK hkz hta htb
  rcases hcase with ⟨q1, q2, rfl⟩ | ⟨q1, q2, rfl⟩ | ⟨q1, q2, rfl⟩
  all_goals
    go_enter Try.func5, Try.ntmps5
    go_wp2_with fail
    refine (HF.out).mono ?_
    rintro e w1 ⟨rfl, rfl⟩
    clear HF
    go_wp2_with fail
    refine (HOf.out _ (Below.refl _ _)).mono ?_
    rintro e w1 ⟨lb1, rfl, hb1, hs1⟩
    have B1 := Lib.hid hb1
    have T1 := Lib.hid (HTK.out _ _ hs1)
    clear hb1 hs1
    go_wp2_with fail
    refine (T1.out).mono ?_
    rintro e w2 ⟨lb2, rfl, hb2, hs2⟩
    have B2 := Lib.hid (bel_trans B1.out hb2)
    have L2 := Lib.hid (list_any E39.out hs2 (Below.refl _ _) (by have := TL.out; omega))
    clear hb2 hs2 T1
    go_wp2_with fail
    refine (L2.out).mono ?_
    rintro e w3 ⟨A3, c3, rfl, hr3, hb3⟩
    have B3 := Lib.hid (bel_trans B2.out hb3)
    have R3 := Lib.hid hr3
    clear hb3 hr3 L2
    go_wp2_with fail
    refine (HOf.out _ B3.out).mono ?_
    rintro e w4 ⟨lb4, rfl, hb4, hs4⟩
    have C4 := Lib.hid hb4
    have B4 := Lib.hid (bel_trans B3.out hb4)
    have T4 := Lib.hid (HSK.out _ _ hs4)
    clear hb4 hs4
    go_wp2_with fail
    refine (T4.out).mono ?_
    rintro e w5 ⟨lb5, rfl, hb5, hs5⟩
    have C5 := Lib.hid (bel_trans C4.out hb5)
    have B5 := Lib.hid (bel_trans B4.out hb5)
    have L5 := Lib.hid (list_any E42.out hs5 (Below.refl _ _) (by have := DL.out; omega))
    clear hb5 hs5 T4 C4
    go_wp2_with fail
    refine (L5.out).mono ?_
    rintro e w6 ⟨A6, c6, rfl, hr6, hb6⟩
    have C6 := Lib.hid (bel_trans C5.out hb6)
    have B6 := Lib.hid (bel_trans B5.out hb6)
    have R6 := Lib.hid hr6
    clear hb6 hr6 L5 C5
    go_wp2_with fail
    refine (HOf.out _ B6.out).mono ?_
    rintro e w7 ⟨lb7, rfl, hb7, hs7⟩
    have B7 := Lib.hid (bel_trans B6.out hb7)
    have C7 := Lib.hid (bel_trans C6.out hb7)
    have D7 := Lib.hid hb7
    have T7 := Lib.hid (HTK.out _ _ hs7)
    clear hb7 hs7
    go_wp2_with fail
    refine (T7.out).mono ?_
    rintro e w8 ⟨lb8, rfl, hb8, hs8⟩
    have B8 := Lib.hid (bel_trans B7.out hb8)
    have C8 := Lib.hid (bel_trans C7.out hb8)
    have D8 := Lib.hid (bel_trans D7.out hb8)
    have S8 := Lib.hid hs8
    clear hb8 hs8 T7 C7 D7
    go_wp2_with fail
    refine (HOf.out _ B8.out).mono ?_
    rintro e w9 ⟨lb9, rfl, hb9, hs9⟩
    have B9 := Lib.hid (bel_trans B8.out hb9)
    have C9 := Lib.hid (bel_trans C8.out hb9)
    have D9 := Lib.hid (bel_trans D8.out hb9)
    have S9 := Lib.hid (S8.out.later hb9)
    have T9 := Lib.hid (HSK.out _ _ hs9)
    clear hb9 hs9 C8 D8 S8
    go_wp2_with fail
    refine (T9.out).mono ?_
    rintro e w10 ⟨lb10, rfl, hb10, hs10⟩
    have B10 := Lib.hid (bel_trans B9.out hb10)
    have C10 := Lib.hid (bel_trans C9.out hb10)
    have D10 := Lib.hid (bel_trans D9.out hb10)
    have J10 := Lib.hid (E47.out _ _ _ (S9.out.later hb10) hs10)
    clear hb10 hs10 T9 C9 D9 S9
    go_wp2_with fail
    refine (J10.out).mono ?_
    rintro e w11 ⟨lb11, rfl, hb11, hs11⟩
    have hb11' := bel_a hb11
    have B11 := Lib.hid (bel_trans B10.out hb11')
    have C11 := Lib.hid (bel_trans C10.out hb11')
    have D11 := Lib.hid (bel_trans D10.out hb11')
    have L11 := Lib.hid (list_any E44.out hs11 (Below.refl _ _) (by have := HLEN.out; omega))
    clear hb11 hb11' hs11 J10 C10 D10
    go_wp2_with fail
    refine (L11.out).mono ?_
    rintro e w12 ⟨A12, c12, rfl, hr12, hb12⟩
    have B12 := Lib.hid (bel_trans B11.out hb12)
    have C12 := Lib.hid (bel_trans C11.out hb12)
    have D12 := Lib.hid (bel_trans D11.out hb12)
    have R12 := Lib.hid hr12
    have LV := Lib.hid (live_any w12)
    clear hb12 hr12 L11 C11 D11
    go_wp2_with fail
    refine (LV.out).mono ?_
    rintro e w13 ⟨rfl, hb13⟩
    have B13 := Lib.hid (bel_trans B12.out hb13)
    have Q3 := Lib.hid (Rd.later R3.out (bel_trans C12.out hb13))
    have Q6 := Lib.hid (Rd.later R6.out (bel_trans D12.out hb13))
    have Q12 := Lib.hid (Rd.later R12.out hb13)
    clear hb13 LV C12 D12 R3 R6 R12
    go_wp2_with fail
    refine (HC0.out _ B13.out).mono ?_
    rintro e w14 ⟨A14, c14, rfl, hr14, hb14⟩
    have B14 := Lib.hid (bel_trans B13.out hb14)
    have SM := Lib.hid (same_eq A3 A14 ta ta.length ta.length c3 c14 w14 rfl rfl (by have := TL.out; omega) (Rd.later Q3.out hb14) hr14)
    have P6 := Lib.hid (Rd.later Q6.out hb14)
    have P12 := Lib.hid (Rd.later Q12.out hb14)
    clear hb14 hr14 Q3 Q6 Q12
    go_wp2_with fail
    refine (SM.out).mono ?_
    rintro e w15 ⟨rfl, hb15⟩
    have B15 := Lib.hid (bel_trans B14.out hb15)
    have Q6 := Lib.hid (Rd.later P6.out hb15)
    have Q12 := Lib.hid (Rd.later P12.out hb15)
    clear hb15 SM P6 P12
    go_wp2_with fail
    refine (HC1.out _ B15.out).mono ?_
    rintro e w16 ⟨A16, c16, rfl, hr16, hb16⟩
    have B16 := Lib.hid (bel_trans B15.out hb16)
    have SM := Lib.hid (same_eq A6 A16 tb tb.length tb.length c6 c16 w16 rfl rfl (by have := DL.out; omega) (Rd.later Q6.out hb16) hr16)
    have P12 := Lib.hid (Rd.later Q12.out hb16)
    clear hb16 hr16 Q6 Q12
    go_wp2_with fail
    refine (SM.out).mono ?_
    rintro e w17 ⟨rfl, hb17⟩
    have B17 := Lib.hid (bel_trans B16.out hb17)
    have SM := Lib.hid (same_eq A12 A ys ys.length m c12 cap w17 rfl HLEN.out.symm (by have := HLEN.out; omega) (Rd.later P12.out hb17) (HY.out _ B17.out))
    clear hb17 P12
    go_wp2_with fail
    refine (SM.out).mono ?_
    rintro e w18 ⟨rfl, hb18⟩
    have B18 := Lib.hid (bel_trans B17.out hb18)
    clear hb18 SM
    go_wp2
    go_ret
    exact ⟨rfl, B18.out⟩
end Go.Proofs.Ytpijaphcknoobaa
