/- The law CursorForks. -/
import Derived.Test.YtdbcaiggliiacaaV2
import Derived.Test.YtdbcaiggliiacaaU3
namespace Go.Proofs.Ytdbcaiggliiacaa
set_option linter.unusedSimpArgs false
open Go.RowKit Go.Maps
set_option linter.unusedVariables false
theorem eq_lt {w : World} {A : Option Addr} {xs : List RC} (h : EQ.Rd w A xs) (h0 : 0 < xs.length) {a : Addr} (e : A = some a) : a.block < w.heap.size := by
  obtain ⟨x, hx⟩ : ∃ x, xs[0]? = some x := ⟨_, List.getElem?_eq_getElem h0⟩
  obtain ⟨b, off, e2, hlt, _⟩ := eq_at h hx
  rw [e2] at e; cases e; exact hlt
/-- A table, and its fork. -/
structure BI (w : World) (N M m : Nat) (A : Option Addr) (q cap : Nat) (xs : List RC) (N2 M2 k m2 : Nat) (A2 : Option Addr) (q2 cap2 : Nat) (xs2 : List RC) (wr : World) : Prop where
  one : ST wr N M m A q cap xs
  two : PI w N2 M2 k m2 A2 q2 cap2 xs2 wr
  far : (N ≠ N2 ∧ N ≠ M2) ∧ M ≠ N2 ∧ M ≠ M2
  off : 0 < xs.length → ∀ a, A = some a → a.block ≠ N2 ∧ a.block ≠ M2
theorem BI.next {w : World} {N M m : Nat} {A : Option Addr} {q cap : Nat} {xs : List RC} {N2 M2 k m2 : Nat} {A2 : Option Addr} {q2 cap2 : Nat} {xs2 : List RC} {wr w' : World} (h : BI w N M m A q cap xs N2 M2 k m2 A2 q2 cap2 xs2 wr) {A' : Option Addr} {q' cap' m' : Nat} {xs' : List RC} (s : ST w' N2 M2 m' A' q' cap' xs') (hc : Chg (fun g => g = N2 ∨ g = M2) wr w') (hm : m' ≤ m2 + 1) (hq : q' ≤ q2 + 1) : BI w N M m A q cap xs N2 M2 (k + 1) m' A' q' cap' xs' w' :=
  ⟨h.one.chg hc (by have := h.far; omega) (by have := h.far; omega) (fun h0 a e hd => by have := h.off h0 a e; omega), h.two.next s hc hm hq, h.far, h.off⟩
theorem BI.made {w : World} {N M k m : Nat} {A : Option Addr} {q cap : Nat} {xs : List RC} {wr w' : World} (h : PI w N M k m A q cap xs wr) {N2 M2 m2 : Nat} (hp : PT w' N2 M2 m2 (opn xs) (q : Int) (lk xs)) (hm : m2 ≤ opn xs) (h1 : wr.heap.size ≤ N2) (h2 : wr.heap.size ≤ M2) (hb : Below wr.heap.size wr w') : BI w N M m A q cap xs N2 M2 k m2 A q cap xs w' := by
  have hlt := h.st.pt.lt
  have hoff : 0 < xs.length → ∀ a, A = some a → a.block ≠ N2 ∧ a.block ≠ M2 := fun h0 a e => by
    have := eq_lt h.st.rd h0 e
    omega
  have hon := opn_le xs
  have hlen := h.st.len
  have hqk := h.hq
  have hsz := h.bel.size
  exact ⟨h.st.later hb, ⟨⟨hp, h.st.rd.later hb, h.st.len, hoff⟩, by omega, h.hq, bel_trans h.bel hb, by omega, by omega⟩, by omega, hoff⟩
theorem BI.later {w : World} {N M m : Nat} {A : Option Addr} {q cap : Nat} {xs : List RC} {N2 M2 k m2 : Nat} {A2 : Option Addr} {q2 cap2 : Nat} {xs2 : List RC} {wr w' : World} (h : BI w N M m A q cap xs N2 M2 k m2 A2 q2 cap2 xs2 wr) (hb : Below wr.heap.size wr w') : BI w N M m A q cap xs N2 M2 k m2 A2 q2 cap2 xs2 w' :=
  ⟨h.one.later hb, h.two.later hb, h.far, h.off⟩
theorem PI.fork {w : World} {N M k m : Nat} {A : Option Addr} {q cap : Nat} {xs : List RC} {wr : World} (h : PI w N M k m A q cap xs wr) (hk : k ≤ 1000) :
    Calls Try.prog 20 #[.pointer (some ⟨N, 0, none⟩)] wr fun e w' => ∃ N2 M2 m2, e = .returned (.pointer (some ⟨N2, 0, none⟩)) ∧ BI w N M m A q cap xs N2 M2 k m2 A q cap xs w' := by
  have hon := opn_le xs
  have hlen := h.st.len
  have hqk := h.hq
  refine (fork_any h.st.pt (ents_lists xs) (by omega) (fun x hx => ?_)).mono ?_
  · obtain ⟨p, e, h1, h2, _⟩ := ents_at hx
    exact wf_small (by omega) (by omega)
  · rintro e w' ⟨N2, M2, m2, rfl, hp, hm, h1, h2, hb⟩
    exact ⟨N2, M2, m2, rfl, BI.made h hp hm h1 h2 hb⟩
theorem PI.step {w : World} {N M k m : Nat} {A : Option Addr} {q cap : Nat} {xs : List RC} {wr : World} (h : PI w N M k m A q cap xs wr) (hk : k ≤ 1000) {B : Option Addr} {n : Nat} {f : Nat → DD} (hD : Deeds w B n f) {i : Nat} (hi : i < n) :
    Calls Try.prog 8 #[.pointer (some ⟨N, 0, none⟩), .slice A q cap, DV (f i).d (f i).n (f i).m (f i).f (f i).t (f i).B (f i).len (f i).cap] wr (StepP wr N M m q) := by
  obtain ⟨bb, off, rfl, hlt, d0, d1, d2, d3, d4, d5, hwf, hcm⟩ := hD.at_ h.bel hi
  have hcw := hD.came hi
  exact step_any h.st (by have := h.hm; omega) (by have := h.hq; omega) _ _ _ hwf _ _ _ _ _ _ hcm (fun hl a e hb => by
    obtain ⟨x, hx⟩ : ∃ x, (f i).l[0]? = some x := ⟨_, List.getElem?_eq_getElem hl⟩
    obtain ⟨b9, o9, e9, hlt9, _⟩ := rdt_get hcw.2.2.2.2.1 hx
    rw [e9] at e; cases e
    have := h.mlo
    simp only at hb hlt9
    omega)
theorem ST.alike {w : World} {N M m : Nat} {A : Option Addr} {q cap : Nat} {xs : List RC} (h : ST w N M m A q cap xs) (hq : q ≤ 1000) {W : World} (hW : Below w.heap.size w W) :
    Calls Try.prog 9 #[.pointer (some ⟨N, 0, none⟩), .slice A q cap] W fun e w' => e = .returned (.bool true) ∧ Below W.heap.size W w' :=
  alike_any (h.later hW).pt (h.later hW).rd h.len hq
abbrev KB : Obj := .cells #[.string ⟨#[]⟩, .string ⟨#[]⟩] 29
set_option maxRecDepth 10000 in
set_option maxHeartbeats 8000000 in
theorem forks_law (A : Option Addr) (n c : Nat) (f : Nat → DD) (B : Option Addr) (n2 c2 : Nat) (f2 : Nat → DD) (w : World) (hD : Deeds w A n f) (hE : Deeds w B n2 f2) :
    Calls Try.prog 6 #[.slice A n c, .slice B n2 c2] w fun e w' => e = .returned (.bool true) ∧ Below w.heap.size w w' := by
  have HD := Lib.hid hD
  have HE := Lib.hid hE
  clear hD hE
  go_enter Try.func6, Try.ntmps6
  go_wp2_with (first
    | (go_at_call 7; ((with_reducible refine (new_any _).mono ?_); rintro e w1 ⟨N, M, rfl, p1, hN, hM, b1⟩; have P1 := Lib.hid p1; have GN := Lib.hid hN; have GM := Lib.hid hM; have B1 := Lib.hid b1; clear p1 hN hM b1))
    | fail)
  have R0 : Hid (PI w N M 0 0 none 0 0 [] w1) := Lib.hid ⟨⟨P1.out.congr (fun k => by simp [lk]), .inl rfl, rfl, by simp⟩, by omega, by omega, B1.out, GN.out, GM.out⟩
  clear P1 GN GM B1
  go_loopw [6, 7] (fun xv iv wr => ∃ (k m : Nat) (A' : Option Addr) (q cap : Nat) (xs : List RC), iv = .int .i64 k ∧ xv = .slice A' q cap ∧ k ≤ 60 ∧ PI w N M k m A' q cap xs wr) (fun _ i _ => 60 - (intOf i).toNat)
  case atStart => exact ⟨0, 0, none, 0, 0, [], rfl, rfl, by omega, R0.out⟩
  case round =>
    obtain ⟨k, m, A', q, cap, xs, rfl, rfl, hk, hR⟩ := hrel
    have RI := Lib.hid hR
    clear hR
    by_cases h8 : k < n ∧ k < 60
    · obtain ⟨h1, h2⟩ := h8
      have i0 : (0 : Int) ≤ (k : Int) := by omega
      have i1 : (k : Int) < (n : Int) := by omega
      have i2 : (k : Int) < 60 := by omega
      have SC := Lib.hid (RI.out.step (by omega) HD.out h1)
      obtain ⟨bb, off, rfl, hlt, d0, d1, d2, d3, d4, d5, hwf, hcm⟩ := HD.out.at_ RI.out.bel h1
      generalize f k = t at *
      obtain ⟨td, tn, tm, tf, tt, tB, tl, tc, tx⟩ := t
      simp only at d0 d1 d2 d3 d4 d5 SC
      clear hwf hcm
      go_wp2_with (first
        | (go_at_call 8; ((with_reducible refine SC.out.mono ?_); rintro e w2 ⟨A2, q2, c2, xs2, m2, rfl, s2, ch2, hm2, hq2⟩; have R2 := Lib.hid (RI.out.next s2 ch2 hm2 hq2); clear s2 ch2 hm2 hq2))
        | fail)
      exact ⟨⟨k + 1, m2, A2, q2, _, xs2, by simp, rfl, by omega, R2.out⟩, by simp [intOf]; omega⟩
    · have j : ¬ ((k : Int) < (n : Int) ∧ (k : Int) < 60) := by omega
      have j' : ¬ (k : Int) < (n : Int) ∨ ((k : Int) < (n : Int) ∧ ¬ (k : Int) < 60) := by omega
      have FK := Lib.hid (RI.out.fork (by omega))
      have HQ1 : Hid (q ≤ 1000) := Lib.hid (by have := RI.out.hq; omega)
      clear RI R0 j
      rcases j' with j' | ⟨j', j''⟩
      all_goals
        go_wp2_with (first
          | (go_at_call 20; ((with_reducible refine FK.out.mono ?_); rintro e w3 ⟨N2, M2, m2, rfl, p3⟩; have P3 := Lib.hid p3; clear p3))
          | fail)
        clear FK
        go_loopw [9, 10] (fun yv iv wx => ∃ (k2 m' : Nat) (A2 : Option Addr) (q2 cap2 : Nat) (xs2 : List RC), iv = .int .i64 k2 ∧ yv = .slice A2 q2 cap2 ∧ k2 ≤ 60 ∧ BI w N M m A' q cap xs N2 M2 (k + k2) m' A2 q2 cap2 xs2 wx) (fun _ i _ => 60 - (intOf i).toNat)
        case atStart => exact ⟨0, m2, A', q, cap, xs, rfl, rfl, by omega, P3.out⟩
        case round =>
          obtain ⟨k2, m', A2, q2, cap2, xs2, rfl, rfl, hk2, hR⟩ := hrel
          have RI := Lib.hid hR
          clear hR P3
          by_cases h8 : k2 < n2 ∧ k2 < 60
          · obtain ⟨h1, h2⟩ := h8
            have i0 : (0 : Int) ≤ (k2 : Int) := by omega
            have i1 : (k2 : Int) < (n2 : Int) := by omega
            have i2 : (k2 : Int) < 60 := by omega
            have SC := Lib.hid (RI.out.two.step (by omega) HE.out h1)
            obtain ⟨bb, off, rfl, hlt, d0, d1, d2, d3, d4, d5, hwf, hcm⟩ := HE.out.at_ RI.out.two.bel h1
            generalize f2 k2 = t at *
            obtain ⟨td, tn, tm, tf, tt, tB, tl, tc, tx⟩ := t
            simp only at d0 d1 d2 d3 d4 d5 SC
            clear hwf hcm
            go_wp2_with (first
              | (go_at_call 8; ((with_reducible refine SC.out.mono ?_); rintro e w5 ⟨A5, q5, c5, xs5, m5, rfl, s5, ch5, hm5, hq5⟩; have R5 := Lib.hid (RI.out.next s5 ch5 hm5 hq5); clear s5 ch5 hm5 hq5))
              | fail)
            exact ⟨⟨k2 + 1, m5, A5, q5, _, xs5, by simp, rfl, by omega, R5.out⟩, by simp [intOf]; omega⟩
          · have jj : ¬ (k2 : Int) < (n2 : Int) ∨ ((k2 : Int) < (n2 : Int) ∧ ¬ (k2 : Int) < 60) := by omega
            have hq1 : q ≤ 1000 := HQ1.out
            have BW := Lib.hid RI.out.two.bel
            have BB := Lib.hid (Below.refl wr.heap.size wr)
            have AL1 : Hid (∀ W, Below wr.heap.size wr W → Calls Try.prog 9 #[.pointer (some ⟨N, 0, none⟩), .slice A' q cap] W fun e w' => e = .returned (.bool true) ∧ Below W.heap.size W w') := Lib.hid (fun W hW => RI.out.one.alike hq1 hW)
            have AL2 : Hid (∀ W, Below wr.heap.size wr W → Calls Try.prog 9 #[.pointer (some ⟨N2, 0, none⟩), .slice A2 q2 cap2] W fun e w' => e = .returned (.bool true) ∧ Below W.heap.size W w') := Lib.hid (fun W hW => RI.out.two.st.alike (by have := RI.out.two.hq; omega) hW)
            clear RI
            rcases jj with jj | ⟨jj, jj2⟩
            all_goals
              go_wp2_with (first
                | (go_at_call 11; ((with_reducible refine (open_nil _ _ _).mono ?_); rintro e w5 ⟨rfl, b5⟩; have BB := Lib.hid (bel_trans BB.out b5); clear b5))
                | (go_at_call 16; ((with_reducible refine (left_nil _ _).mono ?_); rintro e w6 ⟨rfl, b6⟩; have BB := Lib.hid (bel_alloc (bel_trans BB.out b6) KB); clear b6))
                | (go_at_call 13; ((with_reducible refine (took_nil _ _ _ _ _ _).mono ?_); rintro e w7 ⟨rfl, b7⟩; have BB := Lib.hid (bel_trans BB.out b7); clear b7))
                | (go_at_call 10; ((with_reducible refine (live_any _).mono ?_); rintro e w8 ⟨rfl, b8⟩; have BB := Lib.hid (bel_trans BB.out b8); clear b8))
                | (go_at_call 9; ((with_reducible refine (AL1.out _ BB.out).mono ?_); rintro e w9 ⟨rfl, b9⟩; have BB := Lib.hid (bel_trans BB.out b9); clear b9))
                | (go_at_call 9; ((with_reducible refine (AL2.out _ BB.out).mono ?_); rintro e w9 ⟨rfl, b9⟩; have BB := Lib.hid (bel_trans BB.out b9); clear b9))
                | (go_at_call 21; ((with_reducible refine (close_nil _ _).mono ?_); rintro e wa ⟨rfl, ba⟩; have BB := Lib.hid (bel_trans BB.out ba); clear ba))
                | (go_at_call 22; ((with_reducible refine (len_nil _).mono ?_); rintro e wb ⟨rfl, rfl⟩))
                | (go_at_call 20; ((with_reducible refine (fork_nil _).mono ?_); rintro e wc ⟨rfl, bc⟩; have BB := Lib.hid (bel_trans BB.out bc); clear bc))
                | fail)
              go_ret
              exact ⟨rfl, bel_trans BW.out BB.out⟩
end Go.Proofs.Ytdbcaiggliiacaa
