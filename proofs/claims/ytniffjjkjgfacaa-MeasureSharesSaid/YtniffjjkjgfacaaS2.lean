/- The law MeasureCosts, where what is live is live. -/
import Derived.Test.YtniffjjkjgfacaaS1
namespace Go.Proofs.Ytniffjjkjgfacaa
set_option linter.unusedSimpArgs false
open Go.RowKit Go.Maps
set_option linter.unusedVariables false
set_option maxRecDepth 10000 in
set_option maxHeartbeats 2000000 in
theorem costs_few (A : Option Addr) (n cap : Nat) (xs : List MV) (w : World) (hl : xs.length = n) (hm : n ≤ 80) (hnc : n ≤ cap) (hc2 : cap ≤ maxLen) (hA : EM.Rd w A xs)
    (LV : ∀ W, Calls Try.prog 8 #[] W fun e w' => e = .returned (.bool true) ∧ Below W.heap.size W w') :
    Calls Try.prog 5 #[.slice A n cap] w fun e w' => e = .returned (.bool true) ∧ Below w.heap.size w w' := by
  have k1 : ¬ (80 : Int) < (n : Int) := by omega
  have C := Lib.hid (cost_any A n cap xs w hl (by omega) hA)
  rw [numA, numB, numC] at C
  have RC : Hid (∀ W, Below w.heap.size w W → Calls Try.prog 12 #[.slice A n cap] W fun r w' => r = .returned (.tuple #[.int .i64 (cnt isA xs), .int .i64 (cnt isB xs), .int .i64 (cnt isC xs)]) ∧ W = w') := Lib.hid (fun W hW => rcost_any A n cap xs W hl (by omega) (hA.later hW))
  have BZ : Hid (∀ W, Below w.heap.size w W → Calls Try.prog 13 #[.slice A n cap] W fun e w' => e = .returned (.int .i64 (shr (nall xs) n)) ∧ Below W.heap.size W w') := Lib.hid (fun W hW => busy_any A n cap xs W hl (by omega) (hA.later hW))
  have ja := cnt_take isA xs n
  have jb := cnt_take isB xs n
  have jc := cnt_take isC xs n
  rw [List.take_of_length_le (by omega)] at ja jb jc
  have HLV := Lib.hid LV
  obtain ⟨a, ha⟩ : ∃ a, a = cnt isA xs := ⟨_, rfl⟩
  obtain ⟨b, hb⟩ : ∃ b, b = cnt isB xs := ⟨_, rfl⟩
  obtain ⟨c, hcc⟩ : ∃ c, c = cnt isC xs := ⟨_, rfl⟩
  have HN : Hid (nall xs = a + b + c) := Lib.hid (by rw [ha, hb, hcc]; rfl)
  rw [← ha, ← hb, ← hcc] at C RC
  rw [← ha] at ja; rw [← hb] at jb; rw [← hcc] at jc
  obtain ⟨s, hs⟩ : ∃ s, s = shr (nall xs) n := ⟨_, rfl⟩
  rw [← hs] at BZ
  have RS : Hid (∀ W, Calls Try.prog 7 #[.int .i64 ((a : Int) + (b : Int) + (c : Int)), .int .i64 n] W fun e w' => e = .returned (.int .i64 s) ∧ W = w') := Lib.hid (fun W => by
    rw [hs, HN.out]
    have h := rshare_any (a + b + c) n (by omega) (by omega) W
    rw [Int.natCast_add, Int.natCast_add] at h
    exact h)
  clear ha hb hcc hA hl hs LV
  go_enter Try.func5, Try.ntmps5
  go_wp2_with (first
    | (go_at_call 11; ((with_reducible refine C.out.mono ?_); rintro e w1 ⟨rfl, b1⟩; have B1 := Lib.hid b1; clear b1))
    | (go_at_call 12; ((with_reducible refine (RC.out _ B1.out).mono ?_); rintro e w2 ⟨rfl, rfl⟩))
    | (go_at_call 8; ((with_reducible refine (HLV.out _).mono ?_); rintro e w3 ⟨rfl, b3⟩; have B3 := Lib.hid (bel_trans B1.out b3); clear b3))
    | (go_at_call 13; ((with_reducible refine (BZ.out _ B3.out).mono ?_); rintro e w4 ⟨rfl, b4⟩; have B4 := Lib.hid (bel_trans B3.out b4); clear b4))
    | (go_at_call 7; ((with_reducible refine (RS.out _).mono ?_); rintro e w5 ⟨rfl, rfl⟩))
    | fail)
  go_ret
  exact ⟨rfl, B4.out⟩
set_option maxRecDepth 10000 in
set_option maxHeartbeats 2000000 in
theorem costs_many (A : Option Addr) (n cap : Nat) (xs : List MV) (w : World) (hl : xs.length = 80) (hm : 80 < n) (hnc : n ≤ cap) (hc2 : cap ≤ maxLen) (hA : EM.Rd w A xs)
    (LV : ∀ W, Calls Try.prog 8 #[] W fun e w' => e = .returned (.bool true) ∧ Below W.heap.size W w') :
    Calls Try.prog 5 #[.slice A n cap] w fun e w' => e = .returned (.bool true) ∧ Below w.heap.size w w' := by
  have k1 : (80 : Int) < (n : Int) := by omega
  have C := Lib.hid (cost_any A 80 cap xs w hl (by omega) hA)
  rw [numA, numB, numC] at C
  have RC : Hid (∀ W, Below w.heap.size w W → Calls Try.prog 12 #[.slice A 80 cap] W fun r w' => r = .returned (.tuple #[.int .i64 (cnt isA xs), .int .i64 (cnt isB xs), .int .i64 (cnt isC xs)]) ∧ W = w') := Lib.hid (fun W hW => rcost_any A 80 cap xs W hl (by omega) (hA.later hW))
  have BZ : Hid (∀ W, Below w.heap.size w W → Calls Try.prog 13 #[.slice A 80 cap] W fun e w' => e = .returned (.int .i64 (shr (nall xs) 80)) ∧ Below W.heap.size W w') := Lib.hid (fun W hW => busy_any A 80 cap xs W hl (by omega) (hA.later hW))
  have ja := cnt_take isA xs 80
  have jb := cnt_take isB xs 80
  have jc := cnt_take isC xs 80
  rw [List.take_of_length_le (by omega)] at ja jb jc
  have HLV := Lib.hid LV
  obtain ⟨a, ha⟩ : ∃ a, a = cnt isA xs := ⟨_, rfl⟩
  obtain ⟨b, hb⟩ : ∃ b, b = cnt isB xs := ⟨_, rfl⟩
  obtain ⟨c, hcc⟩ : ∃ c, c = cnt isC xs := ⟨_, rfl⟩
  have HN : Hid (nall xs = a + b + c) := Lib.hid (by rw [ha, hb, hcc]; rfl)
  rw [← ha, ← hb, ← hcc] at C RC
  rw [← ha] at ja; rw [← hb] at jb; rw [← hcc] at jc
  obtain ⟨s, hs⟩ : ∃ s, s = shr (nall xs) 80 := ⟨_, rfl⟩
  rw [← hs] at BZ
  have RS : Hid (∀ W, Calls Try.prog 7 #[.int .i64 ((a : Int) + (b : Int) + (c : Int)), .int .i64 80] W fun e w' => e = .returned (.int .i64 s) ∧ W = w') := Lib.hid (fun W => by
    rw [hs, HN.out]
    have h := rshare_any (a + b + c) 80 (by omega) (by omega) W
    rw [Int.natCast_add, Int.natCast_add] at h
    exact h)
  clear ha hb hcc hA hl hs LV
  go_enter Try.func5, Try.ntmps5
  go_wp2_with (first
    | (go_at_call 11; ((with_reducible refine C.out.mono ?_); rintro e w1 ⟨rfl, b1⟩; have B1 := Lib.hid b1; clear b1))
    | (go_at_call 12; ((with_reducible refine (RC.out _ B1.out).mono ?_); rintro e w2 ⟨rfl, rfl⟩))
    | (go_at_call 8; ((with_reducible refine (HLV.out _).mono ?_); rintro e w3 ⟨rfl, b3⟩; have B3 := Lib.hid (bel_trans B1.out b3); clear b3))
    | (go_at_call 13; ((with_reducible refine (BZ.out _ B3.out).mono ?_); rintro e w4 ⟨rfl, b4⟩; have B4 := Lib.hid (bel_trans B3.out b4); clear b4))
    | (go_at_call 7; ((with_reducible refine (RS.out _).mono ?_); rintro e w5 ⟨rfl, rfl⟩))
    | fail)
  go_ret
  exact ⟨rfl, B4.out⟩
/-- What is live is live. -/
def Live : Prop := ∀ W, Calls Try.prog 8 #[] W fun e w' => e = .returned (.bool true) ∧ Below W.heap.size W w'
theorem costs_law (LV : Live) (A : Option Addr) (n cap : Nat) (xs : List MV) (w : World) (hl : xs.length = n) (hnc : n ≤ cap) (hc2 : cap ≤ maxLen) (hA : EM.Rd w A xs) :
    Calls Try.prog 5 #[.slice A n cap] w fun e w' => e = .returned (.bool true) ∧ Below w.heap.size w w' := by
  by_cases h : n ≤ 80
  · exact costs_few A n cap xs w hl h hnc hc2 hA LV
  · exact costs_many A n cap (xs.take 80) w (by rw [List.length_take]; omega) (by omega) hnc hc2 (hA.take 80) LV
end Go.Proofs.Ytniffjjkjgfacaa
