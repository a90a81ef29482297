/- The law WordTakes: its walk. -/
import Derived.Test.YtkmhnfalnigifaaC3
namespace Go.Proofs.Ytkmhnfalnigifaa
set_option linter.unusedSimpArgs false
open Go.RowKit
set_option linter.unusedVariables false

set_option maxRecDepth 100000 in
set_option maxHeartbeats 4000000 in
theorem takes_off (s : ByteArray) (n many most : Int) (w : World) (h : 2000 < s.size ∨ 2000 < many) :
    Calls Try.prog 5 #[.string s, .int .i64 n, .int .i64 many, .int .i64 most] w fun e w' => e = .returned (.bool true) ∧ Below w.heap.size w w' := by
  by_cases h1 : 2000 < s.size
  · have h1' : (2000 : Int) < (s.size : Int) := by omega
    clear h
    go_enter Try.func5, Try.ntmps5
    go_wp2_with fail
    refine (live_any _).mono ?_
    rintro e w1 ⟨rfl, hb⟩
    go_wp2_with fail
    go_ret
    exact ⟨rfl, hb⟩
  · have h1' : ¬ (2000 : Int) < (s.size : Int) := by omega
    have h2 : 2000 < many := by omega
    clear h
    go_enter Try.func5, Try.ntmps5
    go_wp2_with fail
    refine (live_any _).mono ?_
    rintro e w1 ⟨rfl, hb⟩
    go_wp2_with fail
    go_ret
    exact ⟨rfl, hb⟩

set_option maxRecDepth 100000 in
set_option maxHeartbeats 8000000 in
theorem takes_on (s : ByteArray) (n many most : Int) (w : World) (h1 : ¬ 2000 < s.size) (h2 : ¬ 2000 < many) :
    Calls Try.prog 5 #[.string s, .int .i64 n, .int .i64 many, .int .i64 most] w fun e w' => e = .returned (.bool true) ∧ Below w.heap.size w w' := by
  have h1' : ¬ (2000 : Int) < (s.size : Int) := by omega
  obtain ⟨⟨a, r, e⟩, h3⟩ : ∃ t, t = tnF s := ⟨_, rfl⟩
  have c15 := fun w => takeNum_any s w
  have c16 := fun w => rtakeNum_any s w
  rw [← h3] at c15 c16
  simp only [tnV] at c15 c16
  obtain ⟨⟨a2, r2, e2⟩, h4⟩ : ∃ t, t = ttF s most := ⟨_, rfl⟩
  have c17 := fun w => takeText_any s most w
  have c18 := fun w => rtakeText_any s most w
  rw [← h4] at c17 c18
  simp only [ttV] at c17 c18
  obtain ⟨⟨l, r3, e3⟩, h5⟩ : ∃ t, t = st s most many.toNat := ⟨_, rfl⟩
  have c19 := fun w => takeTexts_any s many most w (by omega)
  have c20 := fun w => rtakeTexts_any s many most w (by omega)
  rw [← h5] at c19 c20
  have hl : l.length ≤ 2000 := by
    by_cases z : e3 = 0
    · have := st_len s most many.toNat (by rw [← h5]; exact z)
      rw [← h5] at this
      simp only at this
      omega
    · obtain ⟨k, hk⟩ : ∃ k, k = many.toNat := ⟨_, rfl⟩
      have : ∀ k, (st s most k).2.2 ≠ 0 → (st s most k).1 = [] := by
        intro k
        induction k with
        | zero => intro h; exact absurd rfl h
        | succ k ih =>
          intro h
          unfold st at h ⊢
          by_cases q : (st s most k).2.2 ≠ 0
          · rw [if_pos q]; exact ih q
          · rw [if_neg q] at h ⊢
            by_cases q2 : (ttF (st s most k).2.1 most).2.2 ≠ 0
            · rw [if_pos q2]
            · rw [if_neg q2] at h; exact absurd rfl h
      have q := this many.toNat (by rw [← h5]; exact z)
      rw [← h5] at q
      simp only at q
      rw [q]; simp
  obtain ⟨N, hN⟩ : ∃ N, N = numF n := ⟨_, rfl⟩
  have c22 := fun w => num_any n w
  have c23 := fun w => rnum_any n w
  rw [← hN] at c22 c23
  have C15 := Lib.hid c15
  have C16 := Lib.hid c16
  have C17 := Lib.hid c17
  have C18 := Lib.hid c18
  have C19 := Lib.hid c19
  have C20 := Lib.hid c20
  have C22 := Lib.hid c22
  have C23 := Lib.hid c23
  have HL := Lib.hid hl
  clear c15 c16 c17 c18 c19 c20 c22 c23 h3 h4 h5 hN hl h1
  go_enter Try.func5, Try.ntmps5
  go_wp2_with fail
  refine (C15.out _).mono ?_
  rintro e w1 ⟨rfl, H1⟩
  go_wp2_with fail
  refine (C16.out _).mono ?_
  rintro e w2 ⟨rfl, hb⟩
  have H2 := bel_trans H1 hb
  clear hb H1
  go_wp2_with fail
  refine (C17.out _).mono ?_
  rintro e w3 ⟨rfl, hb⟩
  have H3 := bel_trans H2 hb
  clear hb H2
  go_wp2_with fail
  refine (C18.out _).mono ?_
  rintro e w4 ⟨rfl, hb⟩
  have H4 := bel_trans H3 hb
  clear hb H3
  go_wp2_with fail
  refine (C19.out _).mono ?_
  rintro e w5 ⟨A, c, rfl, RA, hb⟩
  have H5 := bel_trans H4 hb
  clear hb H4
  go_wp2_with fail
  refine (C20.out _).mono ?_
  rintro e w6 ⟨B, d, rfl, RB, hb⟩
  have H6 := bel_trans H5 hb
  have RA6 := RA.later hb
  clear hb H5 RA
  go_wp2_with fail
  refine (live_any _).mono ?_
  rintro e w7 ⟨rfl, hb⟩
  have H7 := bel_trans H6 hb
  have RA7 := RA6.later hb
  have RB7 := RB.later hb
  clear hb H6 RA6 RB
  go_wp2_with fail
  refine (same_yes A B l.length c d l _ rfl (by have := HL.out; omega) RA7 RB7).mono ?_
  rintro e w8 ⟨rfl, hb⟩
  have H8 := bel_trans H7 hb
  clear hb H7 RA7 RB7
  go_wp2_with fail
  refine (C22.out _).mono ?_
  rintro e w9 ⟨rfl, hb⟩
  have H9 := bel_trans H8 hb
  clear hb H8
  go_wp2_with fail
  refine (C23.out _).mono ?_
  rintro e w10 ⟨rfl, hb⟩
  have H10 := bel_trans H9 hb
  clear hb H9
  go_wp2_with fail
  go_ret
  exact ⟨by simp, H10⟩

theorem takes_walk (s : ByteArray) (n many most : Int) (w : World) :
    Calls Try.prog 5 #[.string s, .int .i64 n, .int .i64 many, .int .i64 most] w fun e w' => e = .returned (.bool true) ∧ Below w.heap.size w w' := by
  by_cases h1 : 2000 < s.size
  · exact takes_off s n many most w (.inl h1)
  · by_cases h2 : 2000 < many
    · exact takes_off s n many most w (.inr h2)
    · exact takes_on s n many most w h1 h2
end Go.Proofs.Ytkmhnfalnigifaa
