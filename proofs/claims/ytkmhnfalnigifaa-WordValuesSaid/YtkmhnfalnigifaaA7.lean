/- The law WordValues: values that are numbers, and what becomes of a value to which a number is added. -/
import Derived.Test.YtkmhnfalnigifaaA6
namespace Go.Proofs.Ytkmhnfalnigifaa
set_option linter.unusedSimpArgs false
open Go.RowKit
set_option linter.unusedVariables false

set_option maxHeartbeats 1000000 in
theorem radd_any (s : ByteArray) (is : Bool) (d : Int) (w : World) (h0 : 0 ≤ d) (h1 : d < 18446744073709551616) :
    Calls Try.prog 14 #[.string s, .bool is, .int .u64 d] w fun e w' => e = .returned (.string (addF s is d)) ∧ Below w.heap.size w w' := by
  cases is
  · have e : addF s false d = put8 d := by simp [addF]
    rw [e]
    clear e
    go_enter Try.func14, Try.ntmps14
    go_wp2_with fail
    refine (rput_any d _ h0 h1).mono ?_
    rintro e w1 ⟨rfl, hb⟩
    go_wp2_with fail
    go_ret
    exact ⟨rfl, hb⟩
  · by_cases h : s.size = 8
    · have e : addF s true d = put8 (IntKind.u64.wrap (tk s 8 + d)) := by simp [addF, h]
      rw [e]
      clear e
      go_enter Try.func14, Try.ntmps14
      go_wp2_with fail
      refine (rtake_yes s _ h).mono ?_
      rintro e w1 ⟨rfl, hb⟩
      go_wp2_with fail
      refine (rput_any (IntKind.u64.wrap (tk s 8 + d)) _ (wrap_lo _) (wrap_hi _)).mono ?_
      rintro e w2 ⟨rfl, hb2⟩
      go_wp2_with fail
      go_ret
      exact ⟨rfl, hb.trans (hb2.mono hb.size)⟩
    · have e : addF s true d = s := by simp [addF, h]
      rw [e]
      clear e
      go_enter Try.func14, Try.ntmps14
      go_wp2_with fail
      refine (rtake_no s _ h).mono ?_
      rintro e w1 ⟨rfl, rfl⟩
      go_wp2_with fail
      go_ret
      exact ⟨rfl, Below.refl _ _⟩

/-- What Take answers: the number, and whether there is one. -/
def takeN (s : ByteArray) : Int := if s.size = 8 then tk s 8 else 0
def takeB (s : ByteArray) : Bool := decide (s.size = 8)
theorem take_any (s : ByteArray) (w : World) :
    Calls Try.prog 8 #[.string s] w fun e w' => e = .returned (.tuple #[.int .u64 (takeN s), .bool (takeB s)]) ∧ Below w.heap.size w w' := by
  by_cases h : s.size = 8
  · simpa [takeN, takeB, h] using take_yes s w h
  · refine (take_no s w h).mono ?_
    rintro e w1 ⟨rfl, rfl⟩
    exact ⟨by simp [takeN, takeB, h], Below.refl _ _⟩
theorem rtake_any (s : ByteArray) (w : World) :
    Calls Try.prog 9 #[.string s] w fun e w' => e = .returned (.tuple #[.int .u64 (takeN s), .bool (takeB s)]) ∧ Below w.heap.size w w' := by
  by_cases h : s.size = 8
  · simpa [takeN, takeB, h] using rtake_yes s w h
  · refine (rtake_no s w h).mono ?_
    rintro e w1 ⟨rfl, rfl⟩
    exact ⟨by simp [takeN, takeB, h], Below.refl _ _⟩

set_option maxHeartbeats 2000000 in
theorem values_walk (s : ByteArray) (is : Bool) (n : Int) (w : World) (h0 : 0 ≤ n) (h1 : n < 18446744073709551616) :
    Calls Try.prog 3 #[.string s, .bool is, .int .u64 n] w fun e w' => e = .returned (.bool true) ∧ Below w.heap.size w w' := by
  go_enter Try.func3, Try.ntmps3
  go_wp2_with fail
  refine (take_any s _).mono ?_
  rintro e w1 ⟨rfl, H1⟩
  go_wp2_with fail
  refine (rtake_any s _).mono ?_
  rintro e w2 ⟨rfl, hb2⟩
  have H2 : Below w.heap.size w w2 := H1.trans (hb2.mono H1.size)
  clear H1 hb2
  go_wp2_with fail
  refine (live_any _).mono ?_
  rintro e w3 ⟨rfl, hb3⟩
  have H3 : Below w.heap.size w w3 := H2.trans (hb3.mono H2.size)
  clear H2 hb3
  go_wp2_with fail
  refine (put_any n _ h0 h1).mono ?_
  rintro e w4 ⟨rfl, hb4⟩
  have H4 : Below w.heap.size w w4 := H3.trans (hb4.mono H3.size)
  clear H3 hb4
  go_wp2_with fail
  refine (rput_any n _ h0 h1).mono ?_
  rintro e w5 ⟨rfl, hb5⟩
  have H5 : Below w.heap.size w w5 := H4.trans (hb5.mono H4.size)
  clear H4 hb5
  go_wp2_with fail
  refine (add_any s is n _ h0 h1).mono ?_
  rintro e w6 ⟨rfl, hb6⟩
  have H6 : Below w.heap.size w w6 := H5.trans (hb6.mono H5.size)
  clear H5 hb6
  go_wp2_with fail
  refine (radd_any s is n _ h0 h1).mono ?_
  rintro e w7 ⟨rfl, hb7⟩
  have H7 : Below w.heap.size w w7 := H6.trans (hb7.mono H6.size)
  clear H6 hb7
  go_wp2_with fail
  go_ret
  exact ⟨by simp, H7⟩
end Go.Proofs.Ytkmhnfalnigifaa
