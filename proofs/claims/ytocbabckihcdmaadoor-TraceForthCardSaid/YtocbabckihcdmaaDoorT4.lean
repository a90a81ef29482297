/- May a move be told? -/
import Derived.Test.YtocbabckihcdmaaDoorT3
namespace Go.Proofs.YtocbabckihcdmaaDoor
set_option linter.unusedSimpArgs false
open Go.RowKit Go.Maps
set_option linter.unusedVariables false
def numB (a m : Int) : Bool := decide (0 ≤ a) && decide (a ≤ m)
theorem num_any (a m : Int) (w : World) : Calls Tryd.prog 36 #[.int .i64 a, .int .i64 m] w fun e w' => e = .returned (.bool (numB a m)) ∧ w' = w := by
  go_enter Tryd.func36, Tryd.ntmps36
  go_wp2
  all_goals
    go_ret
    exact ⟨by (try simp_all [numB]) <;> (try (intros; omega)), rfl⟩
theorem in_any (a m : Int) (w : World) : Calls Tryd.prog 26 #[.int .i64 a, .int .i64 m] w fun e w' => e = .returned (.bool (numB a m)) ∧ w' = w := by
  go_enter Tryd.func26, Tryd.ntmps26
  go_wp2
  all_goals
    go_ret
    exact ⟨by (try simp_all [numB]) <;> (try (intros; omega)), rfl⟩
def wokB (a : Int) : Bool := decide (a < 17)
theorem word_ok {a : Int} (h0 : 0 ≤ a) : (wordF a).toList.isEmpty = !wokB a := by
  obtain ⟨k, rfl⟩ : ∃ k : Nat, a = k := ⟨a.toNat, by omega⟩
  by_cases hk : k < 17
  · have e1 : wokB (k : Int) = true := by unfold wokB; simp; omega
    rw [e1]
    have all : ∀ j, j < 17 → (wordF (j : Nat)).toList.isEmpty = false := by decide +kernel
    exact all k hk
  · have e1 : wokB (k : Int) = false := by unfold wokB; simp; omega
    rw [e1]
    have e2 : wordF (k : Int) = ⟨#[]⟩ := by unfold wordF; rw [Int.toNat_natCast, List.getElem?_eq_none (show wl.length ≤ k by show 17 ≤ k; omega)]; rfl
    rw [e2]; decide +kernel
def toldB (x : MV) : Bool := numB x.s 2147483647 && (wokB x.w && (numB x.n 2147483647 && (numB x.v 1099511627776 && numB x.e 2147483647)))
set_option maxRecDepth 100000 in
set_option maxHeartbeats 4000000 in
theorem told_any (x : MV) (h0 : 0 ≤ x.w) (h1 : x.w ≤ 255) (w : World) (h : GW w) :
    Calls Tryd.prog 20 #[MA x] w fun e w' => e = .returned (.bool (toldB x)) ∧ Below w.heap.size w w' := by
  have GG := Lib.hid (fun W (b : Below w.heap.size w W) => h.later b)
  have WA := Lib.hid (fun W (b : Below w.heap.size w W) => word_any x.w h0 h1 W (h.later b))
  have HW := Lib.hid (word_ok h0)
  have N1 := Lib.hid (fun W => num_any x.s 2147483647 W)
  have N2 := Lib.hid (fun W => num_any x.n 2147483647 W)
  have N3 := Lib.hid (fun W => num_any x.v 1099511627776 W)
  have N4 := Lib.hid (fun W => num_any x.e 2147483647 W)
  have B0 := Lib.hid (alb w (MO x))
  have Z0 := Lib.hid (heap_alloc_new w (MO x))
  obtain ⟨c0, c1, c2, c3, c4⟩ := cells5 Z0.out
  obtain ⟨W0, hW0⟩ : ∃ W0, W0 = w.alloc (MO x) := ⟨_, rfl⟩
  obtain ⟨wd, hwd⟩ : ∃ wd, wordF x.w = wd := ⟨_, rfl⟩
  rw [hwd] at WA HW
  clear hW0 W0 h0 h1 h hwd
  unfold toldB
  cases q5 : numB x.s 2147483647
  · rw [q5] at N1
    clear q5
    try simp only [Bool.false_and, Bool.true_and]
    go_enter Tryd.func20, Tryd.ntmps20
    go_wp2_with (first
          | (go_at_call 36; ((with_reducible refine (N1.out _).mono ?_); rintro e w1 ⟨rfl, rfl⟩))
          | (go_at_call 36; ((with_reducible refine (N2.out _).mono ?_); rintro e w1 ⟨rfl, rfl⟩))
          | (go_at_call 36; ((with_reducible refine (N3.out _).mono ?_); rintro e w1 ⟨rfl, rfl⟩))
          | (go_at_call 36; ((with_reducible refine (N4.out _).mono ?_); rintro e w1 ⟨rfl, rfl⟩))
          | (go_at_call 18; ((with_reducible refine (WA.out _ B0.out).mono ?_); rintro e w1 ⟨rfl, bb⟩; replace B0 := Lib.hid (bel_trans B0.out bb); replace Z0 := Lib.hid (keep_bel bb Z0.out); clear bb c0 c1 c2 c3 c4; obtain ⟨c0, c1, c2, c3, c4⟩ := cells5 Z0.out))
          | fail)
    go_ret
    exact ⟨rfl, B0.out⟩
  · rw [q5] at N1
    clear q5
    try simp only [Bool.false_and, Bool.true_and]
    cases q4 : wokB x.w
    · rw [q4] at HW
      have hw := HW.out
      simp only [Bool.not_true, Bool.not_false] at hw
      clear q4
      try simp only [Bool.false_and, Bool.true_and]
      go_enter Tryd.func20, Tryd.ntmps20
      go_wp2_with (first
            | (go_at_call 36; ((with_reducible refine (N1.out _).mono ?_); rintro e w1 ⟨rfl, rfl⟩))
            | (go_at_call 36; ((with_reducible refine (N2.out _).mono ?_); rintro e w1 ⟨rfl, rfl⟩))
            | (go_at_call 36; ((with_reducible refine (N3.out _).mono ?_); rintro e w1 ⟨rfl, rfl⟩))
            | (go_at_call 36; ((with_reducible refine (N4.out _).mono ?_); rintro e w1 ⟨rfl, rfl⟩))
            | (go_at_call 18; ((with_reducible refine (WA.out _ B0.out).mono ?_); rintro e w1 ⟨rfl, bb⟩; replace B0 := Lib.hid (bel_trans B0.out bb); replace Z0 := Lib.hid (keep_bel bb Z0.out); clear bb c0 c1 c2 c3 c4; obtain ⟨c0, c1, c2, c3, c4⟩ := cells5 Z0.out))
            | fail)
      go_ret
      exact ⟨rfl, B0.out⟩
    · rw [q4] at HW
      have hw := HW.out
      simp only [Bool.not_true, Bool.not_false] at hw
      clear q4
      try simp only [Bool.false_and, Bool.true_and]
      cases q3 : numB x.n 2147483647
      · rw [q3] at N2
        clear q3
        try simp only [Bool.false_and, Bool.true_and]
        go_enter Tryd.func20, Tryd.ntmps20
        go_wp2_with (first
              | (go_at_call 36; ((with_reducible refine (N1.out _).mono ?_); rintro e w1 ⟨rfl, rfl⟩))
              | (go_at_call 36; ((with_reducible refine (N2.out _).mono ?_); rintro e w1 ⟨rfl, rfl⟩))
              | (go_at_call 36; ((with_reducible refine (N3.out _).mono ?_); rintro e w1 ⟨rfl, rfl⟩))
              | (go_at_call 36; ((with_reducible refine (N4.out _).mono ?_); rintro e w1 ⟨rfl, rfl⟩))
              | (go_at_call 18; ((with_reducible refine (WA.out _ B0.out).mono ?_); rintro e w1 ⟨rfl, bb⟩; replace B0 := Lib.hid (bel_trans B0.out bb); replace Z0 := Lib.hid (keep_bel bb Z0.out); clear bb c0 c1 c2 c3 c4; obtain ⟨c0, c1, c2, c3, c4⟩ := cells5 Z0.out))
              | fail)
        go_ret
        exact ⟨rfl, B0.out⟩
      · rw [q3] at N2
        clear q3
        try simp only [Bool.false_and, Bool.true_and]
        cases q2 : numB x.v 1099511627776
        · rw [q2] at N3
          clear q2
          try simp only [Bool.false_and, Bool.true_and]
          go_enter Tryd.func20, Tryd.ntmps20
          go_wp2_with (first
                | (go_at_call 36; ((with_reducible refine (N1.out _).mono ?_); rintro e w1 ⟨rfl, rfl⟩))
                | (go_at_call 36; ((with_reducible refine (N2.out _).mono ?_); rintro e w1 ⟨rfl, rfl⟩))
                | (go_at_call 36; ((with_reducible refine (N3.out _).mono ?_); rintro e w1 ⟨rfl, rfl⟩))
                | (go_at_call 36; ((with_reducible refine (N4.out _).mono ?_); rintro e w1 ⟨rfl, rfl⟩))
                | (go_at_call 18; ((with_reducible refine (WA.out _ B0.out).mono ?_); rintro e w1 ⟨rfl, bb⟩; replace B0 := Lib.hid (bel_trans B0.out bb); replace Z0 := Lib.hid (keep_bel bb Z0.out); clear bb c0 c1 c2 c3 c4; obtain ⟨c0, c1, c2, c3, c4⟩ := cells5 Z0.out))
                | fail)
          go_ret
          exact ⟨rfl, B0.out⟩
        · rw [q2] at N3
          clear q2
          try simp only [Bool.false_and, Bool.true_and]
          cases q1 : numB x.e 2147483647
          · rw [q1] at N4
            clear q1
            try simp only [Bool.false_and, Bool.true_and]
            go_enter Tryd.func20, Tryd.ntmps20
            go_wp2_with (first
                  | (go_at_call 36; ((with_reducible refine (N1.out _).mono ?_); rintro e w1 ⟨rfl, rfl⟩))
                  | (go_at_call 36; ((with_reducible refine (N2.out _).mono ?_); rintro e w1 ⟨rfl, rfl⟩))
                  | (go_at_call 36; ((with_reducible refine (N3.out _).mono ?_); rintro e w1 ⟨rfl, rfl⟩))
                  | (go_at_call 36; ((with_reducible refine (N4.out _).mono ?_); rintro e w1 ⟨rfl, rfl⟩))
                  | (go_at_call 18; ((with_reducible refine (WA.out _ B0.out).mono ?_); rintro e w1 ⟨rfl, bb⟩; replace B0 := Lib.hid (bel_trans B0.out bb); replace Z0 := Lib.hid (keep_bel bb Z0.out); clear bb c0 c1 c2 c3 c4; obtain ⟨c0, c1, c2, c3, c4⟩ := cells5 Z0.out))
                  | fail)
            go_ret
            exact ⟨rfl, B0.out⟩
          · rw [q1] at N4
            clear q1
            try simp only [Bool.false_and, Bool.true_and]
            go_enter Tryd.func20, Tryd.ntmps20
            go_wp2_with (first
                  | (go_at_call 36; ((with_reducible refine (N1.out _).mono ?_); rintro e w1 ⟨rfl, rfl⟩))
                  | (go_at_call 36; ((with_reducible refine (N2.out _).mono ?_); rintro e w1 ⟨rfl, rfl⟩))
                  | (go_at_call 36; ((with_reducible refine (N3.out _).mono ?_); rintro e w1 ⟨rfl, rfl⟩))
                  | (go_at_call 36; ((with_reducible refine (N4.out _).mono ?_); rintro e w1 ⟨rfl, rfl⟩))
                  | (go_at_call 18; ((with_reducible refine (WA.out _ B0.out).mono ?_); rintro e w1 ⟨rfl, bb⟩; replace B0 := Lib.hid (bel_trans B0.out bb); replace Z0 := Lib.hid (keep_bel bb Z0.out); clear bb c0 c1 c2 c3 c4; obtain ⟨c0, c1, c2, c3, c4⟩ := cells5 Z0.out))
                  | fail)
            go_ret
            exact ⟨rfl, B0.out⟩
end Go.Proofs.YtocbabckihcdmaaDoor
