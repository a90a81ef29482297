/- The document's Took. -/
import Derived.Test.YtdbcaiggliiacaaQ3
namespace Go.Proofs.Ytdbcaiggliiacaa
set_option linter.unusedSimpArgs false
open Go.RowKit Go.Maps
set_option linter.unusedVariables false
theorem rtook_none {w : World} {A : Option Addr} {xs : List RC} (h : EQ.Rd w A xs) (q cap : Nat) (hq : xs.length = q) (hq2 : q ≤ 1000000) (k : Int) (hk : lk xs k = none) (B : Option Addr) (n c : Nat) (most : Int) :
    Calls Try.prog 25 #[.slice A q cap, .int .i64 k, .slice B n c, .int .i64 most] w fun e w' => e = .returned (.tuple #[.slice A q cap, .bool false, .int .i64 11]) ∧ Below w.heap.size w w' := by
  have IS := Lib.hid (is_none h hk q cap hq hq2)
  clear h hk hq
  go_enter Try.func25, Try.ntmps25
  go_wp2_with (first
    | (go_at_call 26; ((with_reducible refine IS.out.mono ?_); rintro e w1 ⟨rfl, rfl⟩))
    | fail)
  exact bodyPost_ret (v := .tuple #[.slice A q cap, .bool false, .int .i64 11]) (by simp [results, Try.results25, go_sem]) rfl ⟨rfl, Below.refl _ _⟩
abbrev RB (f t : ByteArray) (e : Bool) : Obj := .cells #[.string f, .string t, .bool e, .bool false] 67
set_option maxHeartbeats 1000000 in
/-- A chunk is refused ahead of the look at its keys. -/
theorem rtook_early {w : World} {A : Option Addr} {xs : List RC} (h : EQ.Rd w A xs) (q cap : Nat) (hq : xs.length = q) (hq2 : q ≤ 1000000) (p : Nat) (f t : ByteArray) (e : Bool) (hk : lk xs ((p : Int) + 1) = some (f, t, e)) (B : Option Addr) (n c : Nat) (most : Int) (z : Int)
    (hz : (e = true ∧ 0 < n ∧ z = 15) ∨ ((e = false ∨ n = 0) ∧ most < 1 ∧ z = 2) ∨ ((e = false ∨ n = 0) ∧ ¬ most < 1 ∧ most < (n : Int) ∧ z = 4)) :
    Calls Try.prog 25 #[.slice A q cap, .int .i64 ((p : Int) + 1), .slice B n c, .int .i64 most] w fun r w' => r = .returned (.tuple #[.slice A q cap, .bool false, .int .i64 z]) ∧ Below w.heap.size w w' := by
  have IS := Lib.hid (is_some h hk q cap hq hq2)
  obtain ⟨p', hp', hp, hx⟩ := lk_in hk
  obtain rfl : p' = p := by omega
  obtain ⟨b, off, rfl, hlt, c0, c1, c2, c3⟩ := eq_at h hx
  simp only at c0 c1 c2 c3
  have i0 : (0 : Int) ≤ (p' : Int) := by omega
  have i1 : (p' : Int) < (q : Int) := by omega
  have i4 : (p' : Int) + 1 - 1 = (p' : Int) := by omega
  have HB := Lib.hid (alb w (RB f t e))
  clear h hk hx hq hp hp'
  rcases hz with ⟨rfl, h1, rfl⟩ | ⟨h0, h1, rfl⟩ | ⟨h0, h1, h2, rfl⟩
  · have j1 : (0 : Int) < (n : Int) := by omega
    go_enter Try.func25, Try.ntmps25
    go_wp2_with (first
      | (go_at_call 26; ((with_reducible refine IS.out.mono ?_); rintro e w1 ⟨rfl, rfl⟩))
      | fail)
    exact bodyPost_ret (v := .tuple #[.slice (some ⟨b, off, none⟩) q cap, .bool false, .int .i64 15]) (by simp [results, Try.results25, go_sem]) rfl ⟨rfl, HB.out⟩
  · rcases h0 with rfl | rfl
    all_goals
      try cases e
      all_goals
        go_enter Try.func25, Try.ntmps25
        go_wp2_with (first
          | (go_at_call 26; ((with_reducible refine IS.out.mono ?_); rintro e w1 ⟨rfl, rfl⟩))
          | fail)
        exact bodyPost_ret (v := .tuple #[.slice (some ⟨b, off, none⟩) q cap, .bool false, .int .i64 2]) (by simp [results, Try.results25, go_sem]) rfl ⟨rfl, HB.out⟩
  · rcases h0 with rfl | rfl
    all_goals
      try (exfalso; omega)
      try cases e
      all_goals
        go_enter Try.func25, Try.ntmps25
        go_wp2_with (first
          | (go_at_call 26; ((with_reducible refine IS.out.mono ?_); rintro e w1 ⟨rfl, rfl⟩))
          | fail)
        exact bodyPost_ret (v := .tuple #[.slice (some ⟨b, off, none⟩) q cap, .bool false, .int .i64 4]) (by simp [results, Try.results25, go_sem]) rfl ⟨rfl, HB.out⟩
end Go.Proofs.Ytdbcaiggliiacaa
