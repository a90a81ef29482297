/- The program's book: may it be asked? Who enters, who leaves. -/
import Derived.Test.YtlffigkjhhcohaaP2
namespace Go.Proofs.Ytlffigkjhhcohaa
set_option linter.unusedSimpArgs false
open Go.RowKit Go.Maps
set_option linter.unusedVariables false

def mayP (ss : Int) (S : Int → Option Int) (who : Int) (f : Bool) : Int := if who < 1 then 2 else if ss < who then 2 else if (S who).isSome = f then 0 else 15
set_option maxHeartbeats 1000000 in
theorem may_any {w : World} {lo N M : Nat} {A1 A2 : Option Addr} {k1 k2 m : Nat} {ss now : Int} {S : Int → Option Int} {wl sl : List Int} (who : Int) (f : Bool) (hx : (Lit.int .i64 who).wf = true) (h : PB w lo N M A1 A2 k1 k2 m ss now S wl sl) :
    Calls Try.prog 29 #[.pointer (some ⟨N, 0, none⟩), .int .i64 who, .bool f] w fun e w' => e = .returned (.int .i64 (mayP ss S who f)) ∧ Below w.heap.size w w' := by
  have c0 := h.c0
  have P := Lib.hid (fun V (hb : Below w.heap.size w V) => pin_any who hx (h.later hb))
  clear h
  unfold mayP
  by_cases h1 : who < 1
  · rw [if_pos h1]
    go_enter Try.func29, Try.ntmps29
    go_wp2
    all_goals
      go_ret
      exact ⟨rfl, by first | exact Below.refl _ _ | exact bel_drewN (Below.refl _ _) _⟩
  · rw [if_neg h1]
    by_cases h2 : ss < who
    · rw [if_pos h2]
      go_enter Try.func29, Try.ntmps29
      go_wp2
      all_goals
        go_ret
        exact ⟨rfl, by first | exact Below.refl _ _ | exact bel_drewN (Below.refl _ _) _⟩
    · rw [if_neg h2]
      obtain ⟨r, hr⟩ : ∃ r, r = (S who).isSome := ⟨_, rfl⟩
      rw [← hr] at P ⊢
      clear hr
      by_cases h3 : r = f
      · rw [if_pos h3]
        subst h3
        cases r
        all_goals
          go_enter Try.func29, Try.ntmps29
          go_wp2_with (go_at_call 19; refine (P.out _ (by first | exact Below.refl _ _ | exact bel_drewN (Below.refl _ _) _)).mono ?_; rintro e w1 ⟨rfl, hb⟩)
          go_ret
          exact ⟨rfl, by first | exact hb | exact bel_dr hb⟩
      · rw [if_neg h3]
        cases r <;> cases f
        · exact absurd rfl h3
        · go_enter Try.func29, Try.ntmps29
          go_wp2_with (go_at_call 19; refine (P.out _ (by first | exact Below.refl _ _ | exact bel_drewN (Below.refl _ _) _)).mono ?_; rintro e w1 ⟨rfl, hb⟩)
          go_ret
          exact ⟨rfl, by first | exact hb | exact bel_dr hb⟩
        · go_enter Try.func29, Try.ntmps29
          go_wp2_with (go_at_call 19; refine (P.out _ (by first | exact Below.refl _ _ | exact bel_drewN (Below.refl _ _) _)).mono ?_; rintro e w1 ⟨rfl, hb⟩)
          go_ret
          exact ⟨rfl, by first | exact hb | exact bel_dr hb⟩
        · exact absurd rfl h3
end Go.Proofs.Ytlffigkjhhcohaa
