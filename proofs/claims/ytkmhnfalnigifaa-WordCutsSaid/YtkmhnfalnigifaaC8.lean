/- The law WordBack: its walk. Written by tools/gen_back.py. -/
import Derived.Test.YtkmhnfalnigifaaC7
namespace Go.Proofs.Ytkmhnfalnigifaa
set_option linter.unusedSimpArgs false
open Go.RowKit
set_option linter.unusedVariables false

theorem rd_one (w : World) (s : ByteArray) : Rd (w.alloc (.cells #[.string s] 9)) (w.alloc (.cells #[.string s] 9)).heap.size (some ⟨w.heap.size, 0, none⟩) ([s].map Value.string) :=
  .inr ⟨w.heap.size, 0, rfl, by simp, fun j u hj => by
    match j, hj with
    | 0, hj => simp at hj; subst hj; simp [go_sem]⟩
def GotN (m : Nat) (l : List ByteArray) (r : ByteArray) (w : World) (e : Ending) (w' : World) : Prop :=
  ∃ B d, e = .returned (.tuple #[.slice B m d, .string r, .int .i64 0]) ∧ Rd w' w'.heap.size B (l.map Value.string) ∧ Below w.heap.size w w'
set_option maxRecDepth 100000 in
set_option maxHeartbeats 2000000 in
theorem back_any (n : Int) (A : Option Addr) (len cap : Nat) (l : List ByteArray) (rest : ByteArray) (w : World) (hcap : len ≤ cap) (hm : cap ≤ maxLen) (m : Nat) (hmin : min (len : Int) 30 = (m : Int)) (hm30 : m ≤ 30) (hml : m ≤ len) (hl : l.length = m) (hR : Rd w w.heap.size A (l.map Value.string)) (hA : A = none → len = 0) (hz : ∀ s ∈ l, s.size ≤ maxLen) (hrz : rest.size ≤ maxLen) :
    Calls Try.prog 6 #[.int .i64 n, .slice A len cap, .string rest] w fun e w' => e = .returned (.bool true) ∧ Below w.heap.size w w' := by
  unfold maxLen at hm hz hrz
  have f1 : (m : Int) ≤ (cap : Int) := by omega
  have HL := Lib.hid hl
  have HZ := Lib.hid hz
  have HA := Lib.hid hA
  clear hl hz hA
  go_enter Try.func6, Try.ntmps6
  go_wp2
  go_loopw [7] (fun iv wr => ∃ k : Nat, k ≤ m ∧ iv = .int .i64 k ∧ (∀ j (h : j < l.length), j < k → l[j].size ≤ 300) ∧ wr = w) (fun i _ => m - (intOf i).toNat)
  case atStart => exact ⟨0, by omega, rfl, fun j h hj => by omega, rfl⟩
  case round =>
    obtain ⟨k, hk, rfl, hsm, rfl⟩ := hrel
    by_cases h8 : k = m
    · have hkn : ¬ (k : Int) < (m : Int) := by omega
      have hall : ∀ s ∈ l, s.size ≤ 300 := by
        intro s hs
        obtain ⟨j, hj, rfl⟩ := List.mem_iff_getElem.1 hs
        exact hsm j hj (by have := HL.out; omega)
      clear hsm
      have HALL := Lib.hid hall
      clear hall
      by_cases hr : 1000 < rest.size
      · have hr' : (1000 : Int) < (rest.size : Int) := by omega
        go_wp2_with fail
        refine (live_any _).mono ?_
        rintro e w1 ⟨rfl, hb⟩
        go_wp2_with fail
        go_ret
        exact ⟨rfl, hb⟩
      · have hr' : ¬ (1000 : Int) < (rest.size : Int) := by omega
        have c22 := fun w => num_any n w
        have ns := numF_size n
        obtain ⟨N, hN⟩ : ∃ N, N = numF n := ⟨_, rfl⟩
        rw [← hN] at c22 ns
        have c15 := fun w => takeNum_any (N ++ rest) w
        obtain ⟨⟨q, r, e⟩, hT⟩ : ∃ t, t = tnF (N ++ rest) := ⟨_, rfl⟩
        rw [← hT] at c15
        simp only [tnV] at c15
        have nz : ¬ 9223372036854775807 < N.size + rest.size := by omega
        have h300 : ∀ s ∈ l, (s.size : Int) ≤ 300 := fun s hs => by have := HALL.out s hs; omega
        have c24 := fun w hw => texts_any A m cap l w HL.out (by omega) hw (fun s hs => by have := HALL.out s hs; omega)
        have c25 := fun w hw => rtexts_any A m cap l w HL.out (by omega) hw (fun s hs => by have := HALL.out s hs; omega)
        have cz := cat_size l 300 (fun s hs => HALL.out s hs)
        rw [HL.out] at cz
        have sa := st_all l rest 300 (by omega) h300
        rw [HL.out] at sa
        obtain ⟨T, hTT⟩ : ∃ T : ByteArray, T = ⟨(cat l).toArray⟩ := ⟨_, rfl⟩
        rw [← hTT] at c24 c25 sa
        have tz : T.size = (cat l).length := by rw [hTT]; simp [ByteArray.size]
        have tz2 : ¬ 9223372036854775807 < T.size + rest.size := by
          have : m * (5 + 300) ≤ 30 * 305 := Nat.mul_le_mul (by omega) (Nat.le_refl _)
          omega
        have c19 := fun w => takeTexts_any (T ++ rest) (m : Int) 300 w (by omega)
        have tn : ((m : Int)).toNat = m := by omega
        rw [tn, sa] at c19
        have c19' : ∀ w, Calls Try.prog 19 #[.string (T ++ rest), .int .i64 (m : Int), .int .i64 300] w (GotN m l rest w) := fun w => (c19 w).mono fun e w' ⟨B, d, h1, h2, h3⟩ => ⟨B, d, by rw [h1]; simp only [HL.out], h2, h3⟩
        have c26 := fun w => text_any rest w
        have c25b := fun w B hw => rtexts_any (some ⟨B, 0, none⟩) 1 1 [rest] w rfl (by omega) hw (fun s hs => by simp at hs; subst hs; omega)
        rw [cat_one] at c25b
        obtain ⟨Q, hQ⟩ : ∃ Q, Q = textF rest := ⟨_, rfl⟩
        rw [← hQ] at c26 c25b
        have C22 := Lib.hid c22
        have C15 := Lib.hid c15
        have C24 := Lib.hid c24
        have C25 := Lib.hid c25
        have C19 := Lib.hid c19'
        have C26 := Lib.hid c26
        have C25b := Lib.hid c25b
        have HT := Lib.hid hT
        have HN := Lib.hid hN
        clear c22 c15 c24 c25 c19 c19' c26 c25b hT hTT hQ sa tn cz tz h300 hN
        by_cases hn : 0 ≤ n ∧ n ≤ 2147483647
        · obtain ⟨n0, n1⟩ := hn
          have bk := tnF_back n rest n0 n1
          rw [← HN.out, ← HT.out] at bk
          simp only [Prod.mk.injEq] at bk
          obtain ⟨rfl, rfl, rfl⟩ := bk
          have nl : 1 ≤ N.size := by
            have := HN.out
            rw [this, numF, if_pos ⟨n0, n1⟩, numS_size]
            omega
          have g1 : ¬ (N.size : Int) < 1 := by omega
          have g2 : ¬ (5 : Int) < (N.size : Int) := by omega
          clear HN HT
          go_wp2_with fail
          refine (C22.out _).mono ?_
          rintro e w1 ⟨rfl, H1⟩
          go_wp2_with fail
          refine (C15.out _).mono ?_
          rintro e w2 ⟨rfl, hb⟩
          have H2 := bel_trans H1 hb
          clear hb H1
          go_wp2_with fail
          refine (C24.out _ (hR.later H2)).mono ?_
          rintro e w3 ⟨rfl, hb⟩
          have H3 := bel_trans H2 hb
          clear hb H2
          go_wp2_with fail
          refine (C19.out _).mono ?_
          rintro e w4 ⟨B, d, rfl, RB, hb⟩
          have H4 := bel_trans H3 hb
          clear hb H3
          go_wp2_with fail
          refine (live_any _).mono ?_
          rintro e w5 ⟨rfl, hb⟩
          have H5 := bel_trans H4 hb
          have RB5 := RB.later hb
          clear hb H4 RB
          go_wp2_with fail
          refine (C25.out _ (hR.later H5)).mono ?_
          rintro e w6 ⟨rfl, hb⟩
          have H6 := bel_trans H5 hb
          have RB6 := RB5.later hb
          clear hb H5 RB5
          go_wp2_with fail
          refine (same_yes B A m d cap l _ HL.out (by omega) RB6 (hR.later H6)).mono ?_
          rintro e w7 ⟨rfl, hb⟩
          have H7 := bel_trans H6 hb
          clear hb H6 RB6
          go_wp2_with fail
          refine (C26.out _).mono ?_
          rintro e w8 ⟨rfl, hb⟩
          have H8 := bel_trans H7 hb
          clear hb H7
          go_wp2_with fail
          refine (C25b.out (w8.alloc (.cells #[.string r] 9)) w8.heap.size (rd_one w8 r)).mono ?_
          rintro e w9 ⟨rfl, hb⟩
          have H9 := bel_trans H8 (bel_a hb)
          clear hb H8
          go_wp2_with fail
          go_ret
          exact ⟨by simp, H9⟩
        · by_cases n0 : 0 ≤ n
          · have n1 : ¬ n ≤ 2147483647 := by omega
            clear hn HN HT
            go_wp2_with fail
            refine (C22.out _).mono ?_
            rintro e w1 ⟨rfl, H1⟩
            go_wp2_with fail
            refine (C15.out _).mono ?_
            rintro e w2 ⟨rfl, hb⟩
            have H2 := bel_trans H1 hb
            clear hb H1
            go_wp2_with fail
            refine (C24.out _ (hR.later H2)).mono ?_
            rintro e w3 ⟨rfl, hb⟩
            have H3 := bel_trans H2 hb
            clear hb H2
            go_wp2_with fail
            refine (C19.out _).mono ?_
            rintro e w4 ⟨B, d, rfl, RB, hb⟩
            have H4 := bel_trans H3 hb
            clear hb H3
            go_wp2_with fail
            refine (live_any _).mono ?_
            rintro e w5 ⟨rfl, hb⟩
            have H5 := bel_trans H4 hb
            have RB5 := RB.later hb
            clear hb H4 RB
            go_wp2_with fail
            refine (C25.out _ (hR.later H5)).mono ?_
            rintro e w6 ⟨rfl, hb⟩
            have H6 := bel_trans H5 hb
            have RB6 := RB5.later hb
            clear hb H5 RB5
            go_wp2_with fail
            refine (same_yes B A m d cap l _ HL.out (by omega) RB6 (hR.later H6)).mono ?_
            rintro e w7 ⟨rfl, hb⟩
            have H7 := bel_trans H6 hb
            clear hb H6 RB6
            go_wp2_with fail
            refine (C26.out _).mono ?_
            rintro e w8 ⟨rfl, hb⟩
            have H8 := bel_trans H7 hb
            clear hb H7
            go_wp2_with fail
            refine (C25b.out (w8.alloc (.cells #[.string rest] 9)) w8.heap.size (rd_one w8 rest)).mono ?_
            rintro e w9 ⟨rfl, hb⟩
            have H9 := bel_trans H8 (bel_a hb)
            clear hb H8
            go_wp2_with fail
            go_ret
            exact ⟨by simp, H9⟩
          · clear hn HN HT
            go_wp2_with fail
            refine (C22.out _).mono ?_
            rintro e w1 ⟨rfl, H1⟩
            go_wp2_with fail
            refine (C15.out _).mono ?_
            rintro e w2 ⟨rfl, hb⟩
            have H2 := bel_trans H1 hb
            clear hb H1
            go_wp2_with fail
            refine (C24.out _ (hR.later H2)).mono ?_
            rintro e w3 ⟨rfl, hb⟩
            have H3 := bel_trans H2 hb
            clear hb H2
            go_wp2_with fail
            refine (C19.out _).mono ?_
            rintro e w4 ⟨B, d, rfl, RB, hb⟩
            have H4 := bel_trans H3 hb
            clear hb H3
            go_wp2_with fail
            refine (live_any _).mono ?_
            rintro e w5 ⟨rfl, hb⟩
            have H5 := bel_trans H4 hb
            have RB5 := RB.later hb
            clear hb H4 RB
            go_wp2_with fail
            refine (C25.out _ (hR.later H5)).mono ?_
            rintro e w6 ⟨rfl, hb⟩
            have H6 := bel_trans H5 hb
            have RB6 := RB5.later hb
            clear hb H5 RB5
            go_wp2_with fail
            refine (same_yes B A m d cap l _ HL.out (by omega) RB6 (hR.later H6)).mono ?_
            rintro e w7 ⟨rfl, hb⟩
            have H7 := bel_trans H6 hb
            clear hb H6 RB6
            go_wp2_with fail
            refine (C26.out _).mono ?_
            rintro e w8 ⟨rfl, hb⟩
            have H8 := bel_trans H7 hb
            clear hb H7
            go_wp2_with fail
            refine (C25b.out (w8.alloc (.cells #[.string rest] 9)) w8.heap.size (rd_one w8 rest)).mono ?_
            rintro e w9 ⟨rfl, hb⟩
            have H9 := bel_trans H8 (bel_a hb)
            clear hb H8
            go_wp2_with fail
            go_ret
            exact ⟨by simp, H9⟩
    · have hkn : k < m := by omega
      have hk1 : (k : Int) < (m : Int) := by omega
      have hk0 : (0 : Int) ≤ (k : Int) := by omega
      have hkl : k < l.length := by rw [HL.out]; exact hkn
      have gk : (l.map Value.string)[k]? = some (.string l[k]) := by rw [List.getElem?_map, List.getElem?_eq_getElem hkl]; rfl
      obtain ⟨b, off, rfl, hlt, hc⟩ := hR.get gk
      obtain ⟨x, hx⟩ : ∃ x, x = l[k] := ⟨_, rfl⟩
      rw [← hx] at hc
      have HS := Lib.hid hsm
      have HX := Lib.hid hx
      clear hR gk hx hsm
      by_cases q : 300 < x.size
      · have q' : (300 : Int) < (x.size : Int) := by omega
        go_wp2_with fail
        refine (live_any _).mono ?_
        rintro e w1 ⟨rfl, hb⟩
        go_wp2_with fail
        go_ret
        exact ⟨rfl, hb⟩
      · have q' : ¬ (300 : Int) < (x.size : Int) := by omega
        go_wp2
        refine ⟨⟨k + 1, by omega, by simp, fun j h hj => ?_, trivial⟩, by simp [intOf]; omega⟩
        by_cases z : j = k
        · subst z; rw [← HX.out]; omega
        · exact HS.out j h (by omega)

theorem Rd.take {w : World} {B : Nat} {A : Option Addr} {xs : List Value} (h : Rd w B A xs) (k : Nat) : Rd w B A (xs.take k) := by
  rcases h with rfl | ⟨b, off, hA, hlt, hc⟩
  · exact .inl (by simp)
  · refine .inr ⟨b, off, hA, hlt, fun j u hj => hc j u ?_⟩
    rw [List.getElem?_take] at hj
    split at hj
    · exact hj
    · cases hj
theorem back_walk (n : Int) (A : Option Addr) (len cap : Nat) (l : List ByteArray) (rest : ByteArray) (w : World) (hl : l.length = len) (hR : Rd w w.heap.size A (l.map Value.string)) (hcap : len ≤ cap) (hm : cap ≤ maxLen) (hA : A = none → len = 0) (hz : ∀ s ∈ l, s.size ≤ maxLen) (hrz : rest.size ≤ maxLen) :
    Calls Try.prog 6 #[.int .i64 n, .slice A len cap, .string rest] w fun e w' => e = .returned (.bool true) ∧ Below w.heap.size w w' :=
  back_any n A len cap (l.take (min len 30)) rest w hcap hm (min len 30) (by omega) (by omega) (by omega) (by simp; omega) (by rw [List.map_take]; exact hR.take _) hA (fun s hs => hz s (List.mem_of_mem_take hs)) hrz
end Go.Proofs.Ytkmhnfalnigifaa
