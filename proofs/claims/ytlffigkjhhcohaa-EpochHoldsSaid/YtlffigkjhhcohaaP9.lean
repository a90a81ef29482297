/- What must be whatever is asked. -/
import Derived.Test.YtlffigkjhhcohaaP8
namespace Go.Proofs.Ytlffigkjhhcohaa
set_option linter.unusedSimpArgs false
open Go.RowKit Go.Maps
set_option linter.unusedVariables false

theorem PB.low {w : World} {lo N M : Nat} {A1 A2 : Option Addr} {k1 k2 m : Nat} {ss now : Int} {S : Int → Option Int} {wl sl : List Int} (h : PB w lo N M A1 A2 k1 k2 m ss now S wl sl) : ∀ g, FB N M A1 A2 k1 k2 g → lo ≤ g := by
  rintro g (e | e | e | e)
  · rw [e]; exact h.hN.1
  · rw [e]; exact h.hM.1
  · exact (h.r1.fp_lt e).1
  · exact (h.r2.fp_lt e).1
/-- Behind a deed nothing old has turned. -/
theorem PB.step {u w w' : World} {N M : Nat} {A1 A2 : Option Addr} {k1 k2 m : Nat} {ss now : Int} {S : Int → Option Int} {wl sl : List Int} (h : PB w u.heap.size N M A1 A2 k1 k2 m ss now S wl sl) (hb : Below u.heap.size u w) (hc : Chg (FB N M A1 A2 k1 k2) w w') : Below u.heap.size u w' :=
  hb.trans (hc.below h.low hb.size)
def L0 : Int → Option Int := fun _ => none
def L1 : Int → Option Int := entS L0 1 0
def L2 : Int → Option Int := entS L1 2 1
def L3' : Int → Option Int := leaS L2 1
theorem least1 : LeastP L2 1 0 := by
  intro G
  refine ⟨fun h => ⟨by omega, fun x v hv => ?_⟩, fun h => h.2 1 0 rfl⟩
  simp only [L2, L1, L0, entS] at hv
  split at hv
  · cases hv; omega
  · split at hv
    · cases hv; omega
    · cases hv
theorem least2 : LeastP L3' 1 1 := by
  intro G
  refine ⟨fun h => ⟨h, fun x v hv => ?_⟩, fun h => h.1⟩
  simp only [L3', leaS, L2, L1, L0, entS] at hv
  split at hv
  · cases hv
  · split at hv
    · cases hv; omega
    · cases hv
theorem ready1 : ReadyN [0] 0 0 := ⟨by simp, fun j hj h => by omega, fun h => by simp⟩
theorem ready2 : ReadyN [0] 1 1 := by
  refine ⟨by simp, fun j hj h => ?_, fun h => by simp at h⟩
  have e : j = 0 := by omega
  subst e
  simp
theorem may1 : mayP 2 L0 1 false = 0 := by simp [mayP, L0]
theorem may2 : mayP 2 L1 2 false = 0 := by simp [mayP, L1, L0, entS]
theorem may3 : mayP 2 L2 1 true = 0 := by simp [mayP, L2, L1, L0, entS]
theorem live1 (w : World) : Calls Try.prog 7 #[.int .i64 2] w fun e w' => ∃ N M, e = .returned (.tuple #[.pointer (some ⟨N, 0, none⟩), .int .i64 0]) ∧ PB w' w.heap.size N M none none 0 0 0 2 0 L0 [] [] ∧ Below w.heap.size w w' := pnew_yes w 2 (by omega) (by omega)
section
variable {w : World} {lo N M : Nat}
theorem live2 (h : PB w lo N M none none 0 0 0 2 0 L0 [] []) : Calls Try.prog 12 #[.pointer (some ⟨N, 0, none⟩), .int .i64 1] w (PPost w lo N M none none 0 0 1 2 0 L1 [] [] 0) := penter_yes 1 may1 rfl rfl (by omega) h
def RPost (w : World) (lo N M : Nat) (e : Ending) (w' : World) : Prop := ∃ A1 A2 k1 k2, e = .returned (.int .i64 0) ∧ PB w' lo N M A1 A2 k1 k2 1 2 1 L1 [7] [0] ∧ Chg (FB N M none none 0 0) w w'
theorem live3 (h : PB w lo N M none none 0 0 1 2 0 L1 [] []) (hs : lo ≤ w.heap.size) : Calls Try.prog 14 #[.pointer (some ⟨N, 0, none⟩), .int .i64 7] w (RPost w lo N M) :=
  (pretire_any 7 rfl (by omega) (by simp) hs h).mono fun e w' ⟨A1, A2, k1, k2, h1, h2, h3, _, _⟩ => ⟨A1, A2, k1, k2, h1, h2, h3⟩
theorem live4 {A1 A2 : Option Addr} {k1 k2 : Nat} (h : PB w lo N M A1 A2 k1 k2 1 2 1 L1 [7] [0]) : Calls Try.prog 12 #[.pointer (some ⟨N, 0, none⟩), .int .i64 2] w (PPost w lo N M A1 A2 k1 k2 2 2 1 L2 [7] [0] 0) := penter_yes 2 may2 rfl rfl (by omega) h
def YPost (w : World) (lo N M : Nat) (B1 B2 : Option Addr) (j1 j2 : Nat) (S : Int → Option Int) (l wl sl : List Int) (e : Ending) (w' : World) : Prop := ∃ A c A1 A2 k1 k2, e = .returned (.slice A l.length c) ∧ Row w' w.heap.size A l c ∧ PB w' lo N M A1 A2 k1 k2 2 2 1 S wl sl ∧ Chg (FB N M B1 B2 j1 j2) w w'
theorem live5 {A1 A2 : Option Addr} {k1 k2 : Nat} (h : PB w lo N M A1 A2 k1 k2 2 2 1 L2 [7] [0]) (hs : lo ≤ w.heap.size) : Calls Try.prog 16 #[.pointer (some ⟨N, 0, none⟩)] w (YPost w lo N M A1 A2 k1 k2 L2 [] [7] [0]) :=
  (pready_any 0 least1 0 ready1 (by simp) hs h).mono fun e w' ⟨A, c, A1, A2, k1, k2, h1, h2, h3, h4, _, _⟩ => ⟨A, c, A1, A2, k1, k2, h1, h2, h3, h4⟩
theorem live6 {A1 A2 : Option Addr} {k1 k2 : Nat} (h : PB w lo N M A1 A2 k1 k2 2 2 1 L2 [7] [0]) : Calls Try.prog 20 #[.pointer (some ⟨N, 0, none⟩), .int .i64 1] w (PPost w lo N M A1 A2 k1 k2 2 2 1 L3' [7] [0] 0) := pleave_yes 1 may3 rfl h
theorem live7 {A1 A2 : Option Addr} {k1 k2 : Nat} (h : PB w lo N M A1 A2 k1 k2 2 2 1 L3' [7] [0]) (hs : lo ≤ w.heap.size) : Calls Try.prog 16 #[.pointer (some ⟨N, 0, none⟩)] w (YPost w lo N M A1 A2 k1 k2 L3' [7] [] []) :=
  (pready_any 1 least2 1 ready2 (by simp) hs h).mono fun e w' ⟨A, c, A1, A2, k1, k2, h1, h2, h3, h4, _, _⟩ => ⟨A, c, A1, A2, k1, k2, h1, h2, h3, h4⟩
end
set_option maxHeartbeats 2000000 in
theorem live_any (w : World) : Calls Try.prog 8 #[] w fun e w' => e = .returned (.bool true) ∧ Below w.heap.size w w' := by
  go_enter Try.func8, Try.ntmps8
  go_wp2_with (first
    | (go_at_call 7; ((with_reducible refine (live1 _).mono ?_); rintro e w1 ⟨N, M, rfl, p1, b1⟩; have P1 := Lib.hid p1; have B1 := Lib.hid b1; clear p1 b1))
    | (go_at_call 12; ((with_reducible refine (live2 P1.out).mono ?_); rintro e w2 ⟨rfl, p2, b2⟩; have P2 := Lib.hid p2; have B2 := Lib.hid (P1.out.step B1.out b2); clear p2 b2))
    | (go_at_call 14; ((with_reducible refine (live3 P2.out B2.out.size).mono ?_); rintro e w3 ⟨A1, A2, k1, k2, rfl, p3, b3⟩; have P3 := Lib.hid p3; have B3 := Lib.hid (P2.out.step B2.out b3); clear p3 b3))
    | (go_at_call 12; ((with_reducible refine (live4 P3.out).mono ?_); rintro e w4 ⟨rfl, p4, b4⟩; have P4 := Lib.hid p4; have B4 := Lib.hid (P3.out.step B3.out b4); clear p4 b4))
    | (go_at_call 16; ((with_reducible refine (live5 P4.out B4.out.size).mono ?_); rintro e w5 ⟨Ax, cx, A3, A4, k3, k4, rfl, rx, p5, b5⟩; have P5 := Lib.hid p5; have B5 := Lib.hid (P4.out.step B4.out b5); clear rx p5 b5))
    | (go_at_call 20; ((with_reducible refine (live6 P5.out).mono ?_); rintro e w6 ⟨rfl, p6, b6⟩; have P6 := Lib.hid p6; have B6 := Lib.hid (P5.out.step B5.out b6); clear p6 b6))
    | (go_at_call 16; ((with_reducible refine (live7 P6.out B6.out.size).mono ?_); rintro e w7 ⟨Ay, cy, A5, A6, k5, k6, rfl, ry, p7, b7⟩; have P7 := Lib.hid p7; have B7 := Lib.hid (P6.out.step B6.out b7); obtain ⟨yb, yo, rfl, _, fy⟩ := rdi_get ry.rd (k := 0) (by decide); have fy' : w7.cell? ⟨yb, yo, none⟩ = some (.int .i64 7) := fy; clear p7 b7 ry fy))
    | (go_at_call 24; ((with_reducible refine (now_any P7.out).mono ?_); rintro e w8 ⟨rfl, b8⟩; have P8 := Lib.hid (P7.out.later b8); have B8 : Hid (Below w.heap.size w w8) := Lib.hid (B7.out.trans (b8.mono B7.out.size)); clear b8))
    | (go_at_call 21; ((with_reducible refine (waits_any P8.out (by simp)).mono ?_); rintro e w9 ⟨Az, cz, rfl, rz, b9⟩; have B9 : Hid (Below w.heap.size w w9) := Lib.hid (B8.out.trans (b9.mono B8.out.size)); clear rz b9))
    | fail)
  go_ret
  exact ⟨rfl, B9.out⟩
end Go.Proofs.Ytlffigkjhhcohaa
