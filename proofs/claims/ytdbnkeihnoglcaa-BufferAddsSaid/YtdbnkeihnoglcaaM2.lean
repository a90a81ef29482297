/- The document's Span, and Touches on both sides. -/
import Derived.Test.YtdbnkeihnoglcaaM1
namespace Go.Proofs.Ytdbnkeihnoglcaa
set_option linter.unusedSimpArgs false
open Go.RowKit Go.Maps
set_option linter.unusedVariables false
set_option maxHeartbeats 1000000 in
theorem rspan_any (m : MG) (ho : m.Ok) (w : World) :
    Calls Try.prog 31 #[MV m] w fun r w' => r = .returned (SV m) ∧ Below w.heap.size w w' := by
  obtain ⟨o1, _, _⟩ := ho
  have O1 : m.ky.size + 1 ≤ 9223372036854775807 := by omega
  clear o1
  have H0 := Lib.hid (bel_alloc (alb w (MO m)) (rgc emptyS emptyS))
  have z1 := Lib.hid (two_new w (MO m) (rgc emptyS emptyS)).1
  have z2 := Lib.hid (two_new w (MO m) (rgc emptyS emptyS)).2
  obtain ⟨c0, c1, c2, c3, c4, c5⟩ := cells6 z1.out
  go_enter Try.func31, Try.ntmps31
  cases e1 : isPt m.kd with
  | true =>
    go_wp2_with (first
      | (go_at_call 55; ((with_reducible refine (rpt_any m _).mono ?_); rintro e w1 ⟨rfl, b1⟩; obtain ⟨d0, d1, d2, d3, d4, d5⟩ := cells6 (keep_bel b1 z1.out); obtain ⟨f0, f1, f2, f3⟩ := has_two (keep_bel b1 z2.out); have B1 := Lib.hid (bel_trans H0.out b1); clear b1))
      | fail)
    refine bodyPost_ret (v := SV m) (by simp [results, Try.results31, go_sem, f0, f1, spF, spT, e1]) rfl ⟨rfl, ?_⟩
    exact Below.setCell (Below.setCell B1.out (by simp) _) (by simp) _
  | false =>
    cases e2 : m.kd == 4 <;>
    · go_wp2_with (first
        | (go_at_call 55; ((with_reducible refine (rpt_any m _).mono ?_); rintro e w1 ⟨rfl, b1⟩; obtain ⟨d0, d1, d2, d3, d4, d5⟩ := cells6 (keep_bel b1 z1.out); obtain ⟨f0, f1, f2, f3⟩ := has_two (keep_bel b1 z2.out); have B1 := Lib.hid (bel_trans H0.out b1); clear b1))
        | fail)
      refine bodyPost_ret (v := SV m) (by simp [results, Try.results31, go_sem, f0, f1, spF, spT, e1, e2]) rfl ⟨rfl, ?_⟩
      first
        | exact Below.setCell (Below.setCell B1.out (by simp) _) (by simp) _
        | exact B1.out
set_option maxHeartbeats 1000000 in
theorem rtouches_any (m : MG) (s : ByteArray) (w : World) :
    Calls Try.prog 32 #[MV m, .string s] w fun r w' => r = .returned (.bool (touB m s)) ∧ Below w.heap.size w w' := by
  have H0 := Lib.hid (alb w (MO m))
  have z1 := Lib.hid (heap_alloc_new w (MO m))
  obtain ⟨c0, c1, c2, c3, c4, c5⟩ := cells6 z1.out
  go_enter Try.func32, Try.ntmps32
  cases e1 : isPt m.kd with
  | true =>
    go_wp2_with (first
      | (go_at_call 55; ((with_reducible refine (rpt_any m _).mono ?_); rintro e w1 ⟨rfl, b1⟩; obtain ⟨d0, d1, d2, d3, d4, d5⟩ := cells6 (keep_bel b1 z1.out); have B1 := Lib.hid (bel_trans H0.out b1); clear b1))
      | fail)
    all_goals
      go_ret
      refine ⟨?_, B1.out⟩
      simp [touB, e1]
  | false =>
    have hle := bl_le m.ky.toList s.toList
    cases e2 : m.kd == 4
    all_goals
      go_wp2_with (first
        | (go_at_call 55; ((with_reducible refine (rpt_any m _).mono ?_); rintro e w1 ⟨rfl, b1⟩; obtain ⟨d0, d1, d2, d3, d4, d5⟩ := cells6 (keep_bel b1 z1.out); have B1 := Lib.hid (bel_trans H0.out b1); clear b1))
        | fail)
    all_goals
      go_ret
      refine ⟨?_, B1.out⟩
      clear d0 d1 d2 d3 d4 d5 c0 c1 c2 c3 c4 c5 z1 B1 H0
      cases h1 : Op.bytesLess s.toList m.ky.toList <;> simp_all [touB, has, sb, emp, lt]
      try (cases h2 : Op.bytesLess m.ky.toList s.toList <;> simp_all)
set_option maxHeartbeats 1000000 in
theorem touches_any (m : MG) (ho : m.Ok) (s : ByteArray) (w : World) :
    Calls Try.prog 42 #[MV m, .string s] w fun r w' => r = .returned (.bool (touB m s)) ∧ Below w.heap.size w w' := by
  have HO := Lib.hid ho
  clear ho
  have H0 := Lib.hid (alb w (MO m))
  have z1 := Lib.hid (heap_alloc_new w (MO m))
  obtain ⟨c0, c1, c2, c3, c4, c5⟩ := cells6 z1.out
  go_enter Try.func42, Try.ntmps42
  cases e1 : isPt m.kd with
  | true =>
    go_wp2_with (first
      | (go_at_call 34; ((with_reducible refine (isp_any m _).mono ?_); rintro e w1 ⟨rfl, b1⟩; obtain ⟨d0, d1, d2, d3, d4, d5⟩ := cells6 (keep_bel b1 z1.out); have B1 := Lib.hid (bel_trans H0.out b1); clear b1))
      | fail)
    all_goals
      go_ret
      refine ⟨?_, B1.out⟩
      simp [touB, e1]
  | false =>
    cases e2 : m.kd == 4
    all_goals
      go_wp2_with (first
        | (go_at_call 34; ((with_reducible refine (isp_any m _).mono ?_); rintro e w1 ⟨rfl, b1⟩; have Z1 := Lib.hid (keep_bel b1 z1.out); obtain ⟨d0, d1, d2, d3, d4, d5⟩ := cells6 Z1.out; have B1 := Lib.hid (bel_trans H0.out b1); clear b1))
        | (go_at_call 33; ((with_reducible refine (span_any m HO.out _).mono ?_); rintro e w2 ⟨rfl, b2⟩; obtain ⟨g0, g1, g2, g3, g4, g5⟩ := cells6 (keep_bel b2 Z1.out); have B2 := Lib.hid (bel_trans B1.out b2); clear b2))
        | (go_at_call 36; ((with_reducible refine (holds_any _ _ _ _).mono ?_); rintro e w3 ⟨rfl, b3⟩; have B3 := Lib.hid (bel_trans B2.out b3); clear b3))
        | fail)
    · go_ret
      refine ⟨?_, B1.out⟩
      simp [touB, e1, e2]
    · go_ret
      refine ⟨?_, B3.out⟩
      simp [touB, spF, spT, e1, e2]
end Go.Proofs.Ytdbnkeihnoglcaa
