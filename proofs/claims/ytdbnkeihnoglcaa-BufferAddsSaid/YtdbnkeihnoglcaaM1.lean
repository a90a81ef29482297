/- What a message touches: point, Span, Size, Touches, on both sides. -/
import Derived.Test.YtdbnkeihnoglcaaK1
namespace Go.Proofs.Ytdbnkeihnoglcaa
set_option linter.unusedSimpArgs false
open Go.RowKit Go.Maps
set_option linter.unusedVariables false
abbrev zS : ByteArray := ⟨#[0]⟩
def isPt (k : Int) : Bool := k == 1 || k == 2 || k == 3
def spF (m : MG) : ByteArray := if isPt m.kd then m.ky else if m.kd == 4 then m.ky else emptyS
def spT (m : MG) : ByteArray := if isPt m.kd then m.ky ++ zS else if m.kd == 4 then m.to else emptyS
def touB (m : MG) (s : ByteArray) : Bool := if isPt m.kd then m.ky.toList == s.toList else (m.kd == 4 && has m.ky m.to s)
def szN (m : MG) : Int := 16 + (m.ky.size : Int) + m.to.size + m.vl.size
abbrev SV (m : MG) : Value := .agg #[.string (spF m), .string (spT m)]
set_option maxHeartbeats 1000000 in
theorem isp_any (m : MG) (w : World) :
    Calls Try.prog 34 #[MV m] w fun r w' => r = .returned (.bool (isPt m.kd)) ∧ Below w.heap.size w w' := by
  have HB := Lib.hid (alb w (MO m))
  have h2 := (cells6 (heap_alloc_new w (MO m))).1
  go_enter Try.func34, Try.ntmps34
  cases e1 : m.kd == 1 <;> cases e2 : m.kd == 2 <;> cases e3 : m.kd == 3 <;>
  · go_wp2
    all_goals
      go_ret
      refine ⟨?_, HB.out⟩
      simp [isPt, e1, e2, e3]
set_option maxHeartbeats 1000000 in
theorem rpt_any (m : MG) (w : World) :
    Calls Try.prog 55 #[MV m] w fun r w' => r = .returned (.bool (isPt m.kd)) ∧ Below w.heap.size w w' := by
  have HB := Lib.hid (alb w (MO m))
  have h2 := (cells6 (heap_alloc_new w (MO m))).1
  go_enter Try.func55, Try.ntmps55
  by_cases e1 : (1 : Int) ≤ m.kd <;> by_cases e2 : m.kd ≤ 3
  all_goals first
    | (exfalso; omega)
    | go_wp2
  all_goals
      go_ret
      refine ⟨?_, HB.out⟩
      simp only [isPt]
      first
        | rfl
        | (congr 2; rw [Bool.eq_iff_iff]; simp; omega)
        | (simp; omega)
set_option maxHeartbeats 1000000 in
theorem size_any (m : MG) (ho : m.Ok) (w : World) :
    Calls Try.prog 40 #[MV m] w fun r w' => r = .returned (.int .i64 (szN m)) ∧ Below w.heap.size w w' := by
  have HB := Lib.hid (alb w (MO m))
  obtain ⟨_, _, h2, h3, h4, _⟩ := cells6 (heap_alloc_new w (MO m))
  obtain ⟨o1, o2, o3⟩ := ho
  go_enter Try.func40, Try.ntmps40
  go_wp2
  all_goals
    go_ret
    refine ⟨?_, HB.out⟩
    simp only [szN]
    try rfl
set_option maxHeartbeats 1000000 in
theorem rsize_any (m : MG) (ho : m.Ok) (w : World) :
    Calls Try.prog 41 #[MV m] w fun r w' => r = .returned (.int .i64 (szN m)) ∧ Below w.heap.size w w' := by
  have HB := Lib.hid (alb w (MO m))
  obtain ⟨_, _, h2, h3, h4, _⟩ := cells6 (heap_alloc_new w (MO m))
  obtain ⟨o1, o2, o3⟩ := ho
  go_enter Try.func41, Try.ntmps41
  go_wp2
  all_goals
    go_ret
    refine ⟨?_, HB.out⟩
    simp only [szN]
    try rfl
theorem has_two {W : World} {g : Nat} {a b : Value} {t : TypeId} (z : W.heap[g]? = some (.cells #[a, b] t (0, 0))) :
    W.cell? ⟨g, 0, none⟩ = some a ∧ W.cell? ⟨g, 1, none⟩ = some b ∧ W.frozen? ⟨g, 0, none⟩ = false ∧ W.frozen? ⟨g, 1, none⟩ = false := by
  refine ⟨?_, ?_, ?_, ?_⟩ <;> simp [World.cell?, World.frozen?, z]
theorem two_new (w : World) (a b : Obj) : ((w.alloc a).alloc b).heap[w.heap.size]? = some a ∧ ((w.alloc a).alloc b).heap[w.heap.size + 1]? = some b :=
  ⟨keep_bel (alb (w.alloc a) b) (heap_alloc_new w a), by have := heap_alloc_new (w.alloc a) b; simpa using this⟩
set_option maxHeartbeats 1000000 in
theorem span_any (m : MG) (ho : m.Ok) (w : World) :
    Calls Try.prog 33 #[MV m] w fun r w' => r = .returned (SV m) ∧ Below w.heap.size w w' := by
  obtain ⟨o1, _, _⟩ := ho
  have O1 := Lib.hid (show m.ky.size + 1 ≤ 9223372036854775807 by omega)
  clear o1
  have H0 := Lib.hid (bel_alloc (alb w (MO m)) (rgc emptyS emptyS))
  have z1 := Lib.hid (two_new w (MO m) (rgc emptyS emptyS)).1
  have z2 := Lib.hid (two_new w (MO m) (rgc emptyS emptyS)).2
  obtain ⟨c0, c1, c2, c3, c4, c5⟩ := cells6 z1.out
  go_enter Try.func33, Try.ntmps33
  cases e1 : isPt m.kd with
  | true =>
    go_wp2_with (first
      | (go_at_call 34; ((with_reducible refine (isp_any m _).mono ?_); rintro e w1 ⟨rfl, b1⟩; obtain ⟨d0, d1, d2, d3, d4, d5⟩ := cells6 (keep_bel b1 z1.out); have Z2 := Lib.hid (keep_bel b1 z2.out); have B1 := Lib.hid (bel_trans H0.out b1); clear b1))
      | (go_at_call 56; ((with_reducible refine (point_any m.ky _ O1.out).mono ?_); rintro e w2 ⟨rfl, b2⟩; obtain ⟨f0, f1, f2, f3⟩ := has_two (keep_bel b2 Z2.out); have B2 := Lib.hid (bel_trans B1.out b2); clear b2))
      | fail)
    refine bodyPost_ret (v := SV m) (by simp [results, Try.results33, go_sem, f0, f1, spF, spT, e1]) rfl ⟨rfl, ?_⟩
    exact Below.setCell (Below.setCell B2.out (by simp) _) (by simp) _
  | false =>
    cases e2 : m.kd == 4 <;>
    · go_wp2_with (first
        | (go_at_call 34; ((with_reducible refine (isp_any m _).mono ?_); rintro e w1 ⟨rfl, b1⟩; obtain ⟨d0, d1, d2, d3, d4, d5⟩ := cells6 (keep_bel b1 z1.out); obtain ⟨f0, f1, f2, f3⟩ := has_two (keep_bel b1 z2.out); have B1 := Lib.hid (bel_trans H0.out b1); clear b1))
        | fail)
      refine bodyPost_ret (v := SV m) (by simp [results, Try.results33, go_sem, f0, f1, spF, spT, e1, e2]) rfl ⟨rfl, ?_⟩
      first
        | exact Below.setCell (Below.setCell B1.out (by simp) _) (by simp) _
        | exact B1.out
end Go.Proofs.Ytdbnkeihnoglcaa
