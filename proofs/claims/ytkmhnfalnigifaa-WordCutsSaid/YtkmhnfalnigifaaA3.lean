/- The word functions: to add a number, and what must be whatever is asked. -/
import Derived.Test.YtkmhnfalnigifaaA2
namespace Go.Proofs.Ytkmhnfalnigifaa
set_option linter.unusedSimpArgs false
open Go.RowKit
set_option linter.unusedVariables false

theorem wrap_lo (n : Int) : 0 ≤ IntKind.u64.wrap n := by rw [IntKind.wrap_u64]; omega
theorem wrap_hi (n : Int) : IntKind.u64.wrap n < 18446744073709551616 := by rw [IntKind.wrap_u64]; omega

/-- What becomes of a value to which a number is added. -/
def addF (s : ByteArray) (is : Bool) (d : Int) : ByteArray :=
  if is then (if s.size = 8 then put8 (IntKind.u64.wrap (tk s 8 + d)) else s) else put8 d

set_option maxHeartbeats 1000000 in
theorem add_any (s : ByteArray) (is : Bool) (d : Int) (w : World) (h0 : 0 ≤ d) (h1 : d < 18446744073709551616) :
    Calls Try.prog 13 #[.string s, .bool is, .int .u64 d] w fun e w' => e = .returned (.string (addF s is d)) ∧ Below w.heap.size w w' := by
  cases is
  · have e : addF s false d = put8 d := by simp [addF]
    rw [e]
    clear e
    go_enter Try.func13, Try.ntmps13
    go_wp2_with fail
    refine (put_any d _ h0 h1).mono ?_
    rintro e w1 ⟨rfl, hb⟩
    go_wp2_with fail
    go_ret
    exact ⟨rfl, hb⟩
  · by_cases h : s.size = 8
    · have e : addF s true d = put8 (IntKind.u64.wrap (tk s 8 + d)) := by simp [addF, h]
      rw [e]
      clear e
      go_enter Try.func13, Try.ntmps13
      go_wp2_with fail
      refine (take_yes s _ h).mono ?_
      rintro e w1 ⟨rfl, hb⟩
      go_wp2_with fail
      refine (put_any (IntKind.u64.wrap (tk s 8 + d)) _ (wrap_lo _) (wrap_hi _)).mono ?_
      rintro e w2 ⟨rfl, hb2⟩
      go_wp2_with fail
      go_ret
      exact ⟨rfl, hb.trans (hb2.mono hb.size)⟩
    · have e : addF s true d = s := by simp [addF, h]
      rw [e]
      clear e
      go_enter Try.func13, Try.ntmps13
      go_wp2_with fail
      refine (take_no s _ h).mono ?_
      rintro e w1 ⟨rfl, rfl⟩
      go_wp2_with fail
      go_ret
      exact ⟨rfl, Below.refl _ _⟩

end Go.Proofs.Ytkmhnfalnigifaa
