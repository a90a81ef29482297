/- The law WordAdds: to add one number and then another one is to add both together. -/
import Derived.Test.YtkmhnfalnigifaaA4
namespace Go.Proofs.Ytkmhnfalnigifaa
set_option linter.unusedSimpArgs false
open Go.RowKit
set_option linter.unusedVariables false

theorem add_add (s : ByteArray) (is : Bool) (a b : Int) (h0 : 0 ≤ a) (h1 : a < 18446744073709551616) :
    addF (addF s is a) true b = addF s is (IntKind.u64.wrap (a + b)) := by
  cases is
  · simp only [addF, if_pos, put_size]
    simp [put_size, tk_put a h0 h1]
  · by_cases h : s.size = 8
    · have e := tk_put (IntKind.u64.wrap (tk s 8 + a)) (wrap_lo _) (wrap_hi _)
      simp only [addF, h, if_true, put_size, e]
      congr 1
      simp only [IntKind.wrap_u64]
      omega
    · simp [addF, h]

set_option maxHeartbeats 2000000 in
theorem adds_walk (s : ByteArray) (is : Bool) (a b : Int) (w : World) (h0 : 0 ≤ a) (h1 : a < 18446744073709551616) (h2 : 0 ≤ b) (h3 : b < 18446744073709551616) :
    Calls Try.prog 4 #[.string s, .bool is, .int .u64 a, .int .u64 b] w fun e w' => e = .returned (.bool true) ∧ Below w.heap.size w w' := by
  go_enter Try.func4, Try.ntmps4
  go_wp2_with fail
  refine (live_any _).mono ?_
  rintro e w1 ⟨rfl, H1⟩
  go_wp2_with fail
  refine (add_any s is a _ h0 h1).mono ?_
  rintro e w2 ⟨rfl, hb2⟩
  have H2 : Below w.heap.size w w2 := H1.trans (hb2.mono H1.size)
  clear H1 hb2
  go_wp2_with fail
  refine (add_any (addF s is a) true b _ h2 h3).mono ?_
  rintro e w3 ⟨rfl, hb3⟩
  have H3 : Below w.heap.size w w3 := H2.trans (hb3.mono H2.size)
  clear H2 hb3
  go_wp2_with fail
  refine (add_any s is (IntKind.u64.wrap (a + b)) _ (wrap_lo _) (wrap_hi _)).mono ?_
  rintro e w4 ⟨rfl, hb4⟩
  have H4 : Below w.heap.size w w4 := H3.trans (hb4.mono H3.size)
  clear H3 hb4
  have E := add_add s is a b h0 h1
  rw [E]
  go_wp2_with fail
  go_ret
  exact ⟨by simp, H4⟩
end Go.Proofs.Ytkmhnfalnigifaa
