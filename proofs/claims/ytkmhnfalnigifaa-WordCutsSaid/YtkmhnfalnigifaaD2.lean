/- The law WordCuts: its walk. -/
import Derived.Test.YtkmhnfalnigifaaD1
namespace Go.Proofs.Ytkmhnfalnigifaa
set_option linter.unusedSimpArgs false
open Go.RowKit
set_option linter.unusedVariables false

def GotEnd (w : World) (e : Ending) (w' : World) : Prop :=
  ∃ B d, e = .returned (.tuple #[.slice B 0 d, .string ⟨#[]⟩, .int .i64 5]) ∧ Below w.heap.size w w'

set_option maxRecDepth 100000 in
set_option maxHeartbeats 2000000 in
theorem cuts_any (A : Option Addr) (len cap : Nat) (cut : Int) (l : List ByteArray) (w : World) (hcap : len ≤ cap) (hm : cap ≤ maxLen) (m : Nat) (hmin : min (len : Int) 10 = (m : Int)) (hm30 : m ≤ 10) (hml : m ≤ len) (hl : l.length = m) (hR : Rd w w.heap.size A (l.map Value.string)) (hz : ∀ s ∈ l, s.size ≤ maxLen) (u0 : 0 ≤ cut) (u1 : cut ≤ 65535) :
    Calls Try.prog 7 #[.slice A len cap, .int .u16 cut] w fun e w' => e = .returned (.bool true) ∧ Below w.heap.size w w' := by
  unfold maxLen at hm hz
  have f1 : (m : Int) ≤ (cap : Int) := by omega
  have HL := Lib.hid hl
  have HZ := Lib.hid hz
  clear hl hz
  go_enter Try.func7, Try.ntmps7
  go_wp2
  go_loopw [5] (fun iv wr => ∃ k : Nat, k ≤ m ∧ iv = .int .i64 k ∧ (∀ j (h : j < l.length), j < k → l[j].size ≤ 100) ∧ wr = w) (fun i _ => m - (intOf i).toNat)
  case atStart => exact ⟨0, by omega, rfl, fun j h hj => by omega, rfl⟩
  case round =>
    obtain ⟨k, hk, rfl, hsm, rfl⟩ := hrel
    by_cases h8 : k = m
    · have hkn : ¬ (k : Int) < (m : Int) := by omega
      have hall : ∀ s ∈ l, s.size ≤ 100 := by
        intro s hs
        obtain ⟨j, hj, rfl⟩ := List.mem_iff_getElem.1 hs
        exact hsm j hj (by have := HL.out; omega)
      clear hsm
      have HALL := Lib.hid hall
      clear hall
      have c24 := fun w hw => texts_any A m cap l w HL.out (by omega) hw (fun s hs => by have := HALL.out s hs; omega)
      have cz := cat_size l 100 (fun s hs => HALL.out s hs)
      rw [HL.out] at cz
      have cm : m * (5 + 100) ≤ 10 * 105 := Nat.mul_le_mul (by omega) (Nat.le_refl _)
      by_cases hm0 : m = 0
      · have hl0 : l = [] := List.eq_nil_of_length_eq_zero (by rw [HL.out]; exact hm0)
        have e0 : (⟨(cat l).toArray⟩ : ByteArray) = ⟨#[]⟩ := by rw [hl0]; rfl
        rw [e0] at c24
        have C24 := Lib.hid c24
        have HM0 := Lib.hid hm0
        clear c24 e0 hl0 cz cm hm0
        go_wp2_with fail
        refine (C24.out _ hR).mono ?_
        rintro e w1 ⟨rfl, H1⟩
        go_wp2_with fail
        refine (live_any _).mono ?_
        rintro e w2 ⟨rfl, hb⟩
        have H2 := bel_trans H1 hb
        have hm0' : (m : Int) = 0 := by have := HM0.out; omega
        go_wp2_with fail
        go_ret
        exact ⟨by first | rfl | simp, H2⟩
      · have cp := cat_pos l (fun s hs => by have := HALL.out s hs; omega) (fun h => hm0 (by rw [← HL.out, h]; rfl))
        obtain ⟨T, hTT⟩ : ∃ T : ByteArray, T = ⟨(cat l).toArray⟩ := ⟨_, rfl⟩
        rw [← hTT] at c24
        have tz : T.size = (cat l).length := by rw [hTT]; simp [ByteArray.size]
        have t0 : ¬ (T.size : Int) = 0 := by omega
        have tp : 0 < T.size := by omega
        have r0 : 0 ≤ cut % (T.size : Int) := Int.emod_nonneg _ t0
        have r1 : cut % (T.size : Int) < (T.size : Int) := Int.emod_lt_of_pos _ (by omega)
        obtain ⟨j, hj⟩ : ∃ j : Nat, cut % (T.size : Int) = (j : Int) := ⟨(cut % (T.size : Int)).toNat, by omega⟩
        have jl : j < T.size := by omega
        have sc := st_cut l j 100 (by omega) (fun s hs => by have := HALL.out s hs; omega) (by omega)
        rw [← hTT, HL.out] at sc
        have c19 := fun w => takeTexts_any (T.extract 0 j) (m : Int) 100 w (by omega)
        have tn : ((m : Int)).toNat = m := by omega
        rw [tn, sc] at c19
        have c19' : ∀ w, Calls Try.prog 19 #[.string (T.extract 0 j), .int .i64 (m : Int), .int .i64 100] w (GotEnd w) := fun w => (c19 w).mono fun e w' ⟨B, d, h1, h2, h3⟩ => ⟨B, d, h1, h3⟩
        have C24 := Lib.hid c24
        have C19 := Lib.hid c19'
        have j0 : (0 : Int) ≤ (j : Int) := by omega
        have j1 : (j : Int) ≤ (T.size : Int) := by omega
        have j2 : ¬ (T.size : Int) < (j : Int) := by omega
        have tsm : (T.size : Int) ≤ 1050 := by omega
        have md : cut.tmod (T.size : Int) = (j : Int) := by rw [Int.tmod_eq_emod_of_nonneg u0, hj]
        clear c24 c19 c19' sc hTT tz cz cm cp tn r0 r1 hm0
        go_wp2_with fail
        refine (C24.out _ hR).mono ?_
        rintro e w1 ⟨rfl, H1⟩
        go_wp2_with fail
        refine (C19.out _).mono ?_
        rintro e w2 ⟨B, d, rfl, hb⟩
        have H2 := bel_trans H1 hb
        go_wp2_with fail
        refine (live_any _).mono ?_
        rintro e w3 ⟨rfl, hb⟩
        have H3 := bel_trans H2 hb
        go_wp2_with fail
        go_ret
        exact ⟨by first | rfl | simp, H3⟩
    · have hkn : k < m := by omega
      have hk1 : (k : Int) < (m : Int) := by omega
      have hk0 : (0 : Int) ≤ (k : Int) := by omega
      have hkl : k < l.length := by rw [HL.out]; exact hkn
      have gk : (l.map Value.string)[k]? = some (.string l[k]) := by rw [List.getElem?_map, List.getElem?_eq_getElem hkl]; rfl
      obtain ⟨b, off, rfl, hlt, hc⟩ := hR.get gk
      obtain ⟨x, hx⟩ : ∃ x, x = l[k] := ⟨_, rfl⟩
      rw [← hx] at hc
      have HS := Lib.hid hsm
      have HX := Lib.hid hx
      clear hR gk hx hsm
      by_cases q : 100 < x.size
      · have q' : (100 : Int) < (x.size : Int) := by omega
        go_wp2_with fail
        refine (live_any _).mono ?_
        rintro e w1 ⟨rfl, hb⟩
        go_wp2_with fail
        go_ret
        exact ⟨rfl, hb⟩
      · have q' : ¬ (100 : Int) < (x.size : Int) := by omega
        go_wp2
        refine ⟨⟨k + 1, by omega, by simp, fun j h hj => ?_, trivial⟩, by simp [intOf]; omega⟩
        by_cases z : j = k
        · subst z; rw [← HX.out]; omega
        · exact HS.out j h (by omega)
theorem cuts_walk (A : Option Addr) (len cap : Nat) (l : List ByteArray) (cut : Int) (w : World) (hl : l.length = len) (hR : Rd w w.heap.size A (l.map Value.string)) (hcap : len ≤ cap) (hm : cap ≤ maxLen) (hz : ∀ s ∈ l, s.size ≤ maxLen) (u0 : 0 ≤ cut) (u1 : cut ≤ 65535) :
    Calls Try.prog 7 #[.slice A len cap, .int .u16 cut] w fun e w' => e = .returned (.bool true) ∧ Below w.heap.size w w' :=
  cuts_any A len cap cut (l.take (min len 10)) w hcap hm (min len 10) (by omega) (by omega) (by omega) (by simp; omega) (by rw [List.map_take]; exact hR.take _) (fun s hs => hz s (List.mem_of_mem_take hs)) u0 u1
end Go.Proofs.Ytkmhnfalnigifaa
