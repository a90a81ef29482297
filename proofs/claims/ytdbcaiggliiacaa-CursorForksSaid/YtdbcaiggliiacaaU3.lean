/- The law CursorPlays. -/
import Derived.Test.YtdbcaiggliiacaaU2
import Derived.Test.YtdbcaiggliiacaaE1
namespace Go.Proofs.Ytdbcaiggliiacaa
set_option linter.unusedSimpArgs false
open Go.RowKit Go.Maps
set_option linter.unusedVariables false
/-- Between rounds: both tables say the same. -/
structure PI (w : World) (N M k m : Nat) (A : Option Addr) (q cap : Nat) (xs : List RC) (wr : World) : Prop where
  st : ST wr N M m A q cap xs
  hm : m ≤ k
  hq : q ≤ k
  bel : Below w.heap.size w wr
  nlo : w.heap.size ≤ N
  mlo : w.heap.size ≤ M
theorem PI.later {w : World} {N M k m : Nat} {A : Option Addr} {q cap : Nat} {xs : List RC} {wr w' : World} (h : PI w N M k m A q cap xs wr) (hb : Below wr.heap.size wr w') : PI w N M k m A q cap xs w' := ⟨h.st.later hb, h.hm, h.hq, bel_trans h.bel hb, h.nlo, h.mlo⟩
theorem PI.next {w : World} {N M k m : Nat} {A : Option Addr} {q cap : Nat} {xs : List RC} {wr w' : World} (h : PI w N M k m A q cap xs wr) {A' : Option Addr} {q' cap' m' : Nat} {xs' : List RC} (s : ST w' N M m' A' q' cap' xs') (hc : Chg (fun g => g = N ∨ g = M) wr w') (hm : m' ≤ m + 1) (hq : q' ≤ q + 1) : PI w N M (k + 1) m' A' q' cap' xs' w' :=
  ⟨s, by have := h.hm; omega, by have := h.hq; omega, h.bel.trans (hc.below (fun g e => by have := h.nlo; have := h.mlo; omega) h.bel.size), h.nlo, h.mlo⟩
set_option maxRecDepth 10000 in
set_option maxHeartbeats 4000000 in
theorem plays_law (A : Option Addr) (n c : Nat) (f : Nat → DD) (w : World) (hD : Deeds w A n f) :
    Calls Try.prog 3 #[.slice A n c] w fun e w' => e = .returned (.bool true) ∧ Below w.heap.size w w' := by
  have HD := Lib.hid hD
  clear hD
  go_enter Try.func3, Try.ntmps3
  go_wp2_with (first
    | (go_at_call 7; ((with_reducible refine (new_any _).mono ?_); rintro e w1 ⟨N, M, rfl, p1, hN, hM, b1⟩; have P1 := Lib.hid p1; have GN := Lib.hid hN; have GM := Lib.hid hM; have B1 := Lib.hid b1; clear p1 hN hM b1))
    | fail)
  have R0 : Hid (PI w N M 0 0 none 0 0 [] w1) := Lib.hid ⟨⟨P1.out.congr (fun k => by simp [lk]), .inl rfl, rfl, by simp⟩, by omega, by omega, B1.out, GN.out, GM.out⟩
  clear P1 GN GM B1
  go_loopw [4, 5] (fun xv iv wr => ∃ (k m : Nat) (A' : Option Addr) (q cap : Nat) (xs : List RC), iv = .int .i64 k ∧ xv = .slice A' q cap ∧ k ≤ 60 ∧ PI w N M k m A' q cap xs wr) (fun _ i _ => 60 - (intOf i).toNat)
  case atStart => exact ⟨0, 0, none, 0, 0, [], rfl, rfl, by omega, R0.out⟩
  case round =>
    obtain ⟨k, m, A', q, cap, xs, rfl, rfl, hk, hR⟩ := hrel
    have RI := Lib.hid hR
    clear hR
    by_cases h8 : k < n ∧ k < 60
    · obtain ⟨h1, h2⟩ := h8
      have i0 : (0 : Int) ≤ (k : Int) := by omega
      have i1 : (k : Int) < (n : Int) := by omega
      have i2 : (k : Int) < 60 := by omega
      obtain ⟨bb, off, rfl, hlt, d0, d1, d2, d3, d4, d5, hwf, hcm⟩ := HD.out.at_ RI.out.bel h1
      have hcw := HD.out.came h1
      generalize f k = t at *
      obtain ⟨td, tn, tm, tf, tt, tB, tl, tc, tx⟩ := t
      simp only at d0 d1 d2 d3 d4 d5 hcm hcw hwf
      have SC := Lib.hid (step_any RI.out.st (by have := RI.out.hm; omega) (by have := RI.out.hq; omega) td tn tm hwf tf tt tB tl tc tx hcm (fun hl a e hb => by
        obtain ⟨x, hx⟩ : ∃ x, tx[0]? = some x := ⟨_, List.getElem?_eq_getElem hl⟩
        obtain ⟨b9, o9, e9, hlt9, _⟩ := rdt_get hcw.2.2.2.2.1 hx
        rw [e9] at e; cases e
        have := RI.out.mlo
        simp only at hb hlt9
        omega))
      clear hwf hcm hcw
      go_wp2_with (first
        | (go_at_call 8; ((with_reducible refine SC.out.mono ?_); rintro e w2 ⟨A2, q2, c2, xs2, m2, rfl, s2, ch2, hm2, hq2⟩; have R2 := Lib.hid (RI.out.next s2 ch2 hm2 hq2); clear s2 ch2 hm2 hq2))
        | (go_at_call 9; ((with_reducible refine (alike_any R2.out.st.pt R2.out.st.rd R2.out.st.len (by have := R2.out.hq; omega)).mono ?_); rintro e w3 ⟨rfl, b3⟩; have R3 := Lib.hid (R2.out.later b3); clear b3))
        | fail)
      exact ⟨⟨k + 1, m2, A2, q2, c2, xs2, by simp, rfl, by omega, R3.out⟩, by simp [intOf]; omega⟩
    · have j : ¬ ((k : Int) < (n : Int) ∧ (k : Int) < 60) := by omega
      have j' : ¬ (k : Int) < (n : Int) ∨ ((k : Int) < (n : Int) ∧ ¬ (k : Int) < 60) := by omega
      have BR := Lib.hid RI.out.bel
      clear RI R0 j
      rcases j' with j' | ⟨j', j''⟩
      all_goals
        go_wp2_with (first
          | (go_at_call 10; ((with_reducible refine (live_any _).mono ?_); rintro e w3 ⟨rfl, b3⟩; have B3 := Lib.hid (bel_trans BR.out b3); clear b3))
          | fail)
        go_ret
        exact ⟨rfl, B3.out⟩
end Go.Proofs.Ytdbcaiggliiacaa
