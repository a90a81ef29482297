/- PivotSplits: one more pivot: where it does not part the range. -/
import Derived.Test.YtngldfheneegcaaR2
namespace Go.Proofs.Ytngldfheneegcaa
set_option linter.unusedSimpArgs false
open Go.RowKit
set_option linter.unusedVariables false

set_option maxRecDepth 10000 in
set_option maxHeartbeats 4000000 in
theorem splits_few (A : Option Addr) (n c : Nat) (l : List ByteArray) (f t s : ByteArray) (w : World) (hl : l.length = n) (hc : n ≤ c) (hm : c ≤ maxLen) (hA : A = none → n = 0) (hr : RdS w A l)
    (hno : ∀ q, q = l.take 30 → rightB q f t = false ∨ (rightB q f t = true ∧ risesB (ins q (prt q s) s) = false) ∨ (rightB q f t = true ∧ risesB (ins q (prt q s) s) = true ∧ rightB (ins q (prt q s) s) f t = false)) :
    Calls Try.prog 5 #[.slice A n c, .agg #[.string f, .string t], .string s] w fun e w' => e = .returned (.bool true) ∧ Below w.heap.size w w' := by
  have B0 : Hid (Below w.heap.size w (w.alloc (rgc f t))) := Lib.hid (by go_grown)
  obtain ⟨b0, b1⟩ := rgcell (w := w) f t
  obtain ⟨q, hq⟩ : ∃ q, q = l.take 30 := ⟨_, rfl⟩
  have hno := hno q hq
  obtain ⟨m, hmq⟩ : ∃ m, q.length = m := ⟨_, rfl⟩
  have hmn : m = min n 30 := by rw [← hmq, hq, List.length_take, hl, Nat.min_comm]
  have hm30 : m ≤ 30 := by omega
  have hmc : m ≤ c := by omega
  have hm63 : c ≤ 9223372036854775807 := by unfold maxLen at hm; omega
  have hAm : A = none → m = 0 := fun e => by have := hA e; omega
  have hrq : RdS w A q := by rw [hq]; exact rd_take hr 30
  have FW : Hid (∀ W, Calls Try.prog 6 #[.slice A n c] W fun e w' => e = .returned (.slice A m c) ∧ Below W.heap.size W w') := Lib.hid (fun W => by rw [hmn]; exact few_any A n c W hc hm63)
  have RR := Lib.hid (fun W (hb : Below w.heap.size w W) => rright_all A q m c f t W hmq (by omega) (Rd.later hrq hb))
  have PA := Lib.hid (fun W (hb : Below w.heap.size w W) => part_any A q m c s W hmq (by omega) (Rd.later hrq hb))
  have hd := prt_le q s
  rw [hmq] at hd
  have hil : (ins q (prt q s) s).length = m + 1 := by rw [ins_length s (by omega), hmq]
  have PN : Hid (risesB (ins q (prt q s) s) = false → ∀ W (hb : Below w.heap.size w W), Calls Try.prog 19 #[.slice A m c, .int .i64 (prt q s : Nat), .string s] W fun e w' => e = .returned (.tuple #[.slice none 0 0, .bool false]) ∧ Below W.heap.size W w') := Lib.hid (fun h W hb => put_no A q m c (prt q s) s W hmq (by omega) hmc hm63 hd hAm (Rd.later hrq hb) h)
  have PY : Hid (risesB (ins q (prt q s) s) = true → ∀ W (hb : Below w.heap.size w W), Calls Try.prog 19 #[.slice A m c, .int .i64 (prt q s : Nat), .string s] W (PutPost W (ins q (prt q s) s))) := Lib.hid (fun h W hb => put_yes A q m c (prt q s) s W hmq (by omega) hmc hm63 hd hAm (Rd.later hrq hb) h)
  clear hr hl hc hm hq hmq hmn hrq hA hAm hmc hm63
  rcases hno with h | ⟨h, h2⟩ | ⟨h, h2, h3⟩
  · rw [h] at RR
    clear h PN PY
    go_enter Try.func5, Try.ntmps5
    go_wp2_with (first
      | (go_at_call 6; ((with_reducible refine (FW.out _).mono ?_); rintro e w1 ⟨rfl, e1⟩; have B1 := Lib.hid (B0.out.trans (e1.mono B0.out.size)); have c0 := bel_later e1 b0; have c1 := bel_later e1 b1; clear e1))
      | (go_at_call 15; ((with_reducible refine (RR.out _ B1.out).mono ?_); rintro e w2 ⟨rfl, e2⟩; have B2 := Lib.hid (B1.out.trans (e2.mono B1.out.size)); clear e2))
      | (go_at_call 12; ((with_reducible refine (live_any _).mono ?_); rintro e w3 ⟨rfl, e3⟩; have B3 := Lib.hid (B2.out.trans (e3.mono B2.out.size)); clear e3))
      | fail)
    exact bodyPost_ret (v := .bool true) (by simp [results, Try.results5, go_sem]) rfl ⟨rfl, B3.out⟩
  · rw [h] at RR
    have PN := Lib.hid (PN.out h2)
    clear h h2 PY
    generalize prt q s = d at PA PN hd hil
    go_enter Try.func5, Try.ntmps5
    go_wp2_with (first
      | (go_at_call 6; ((with_reducible refine (FW.out _).mono ?_); rintro e w1 ⟨rfl, e1⟩; have B1 := Lib.hid (B0.out.trans (e1.mono B0.out.size)); have c0 := bel_later e1 b0; have c1 := bel_later e1 b1; clear e1))
      | (go_at_call 15; ((with_reducible refine (RR.out _ B1.out).mono ?_); rintro e w2 ⟨rfl, e2⟩; have B2 := Lib.hid (B1.out.trans (e2.mono B1.out.size)); have c2 := bel_later e2 c0; have c3 := bel_later e2 c1; clear e2))
      | (go_at_call 17; ((with_reducible refine (PA.out _ B2.out).mono ?_); rintro e w3 ⟨rfl, e3⟩; have B3 := Lib.hid (B2.out.trans (e3.mono B2.out.size)); have c4 := bel_later e3 c2; have c5 := bel_later e3 c3; clear e3))
      | (go_at_call 19; ((with_reducible refine (PN.out _ B3.out).mono ?_); rintro e w4 ⟨rfl, e4⟩; have B4 := Lib.hid (B3.out.trans (e4.mono B3.out.size)); have c6 := bel_later e4 c4; have c7 := bel_later e4 c5; clear e4))
      | (go_at_call 12; ((with_reducible refine (live_any _).mono ?_); rintro e w5 ⟨rfl, e5⟩; have B5 := Lib.hid (B4.out.trans (e5.mono B4.out.size)); clear e5))
      | fail)
    exact bodyPost_ret (v := .bool true) (by simp [results, Try.results5, go_sem]) rfl ⟨rfl, B5.out⟩
  · rw [h] at RR
    have PY := Lib.hid (PY.out h2)
    have RX : Hid (∀ W AX cX, RdS W AX (ins q (prt q s) s) → Calls Try.prog 15 #[.slice AX (m + 1) cX, .agg #[.string f, .string t]] W fun e w' => e = .returned (.bool false) ∧ Below W.heap.size W w') := Lib.hid (fun W AX cX hx => by have := rright_all AX (ins q (prt q s) s) (m + 1) cX f t W hil (by omega) hx; rwa [h3] at this)
    clear h h2 h3 PN
    have HI := Lib.hid hil
    generalize prt q s = d at PA PY hd HI RX
    clear hil
    have m0 : (0 : Int) ≤ (m : Int) := by omega
    have m1 : ((m : Int) + 1 == 0) = false := by rw [beq_eq_false_iff_ne]; omega
    go_enter Try.func5, Try.ntmps5
    go_wp2_with (first
      | (go_at_call 6; ((with_reducible refine (FW.out _).mono ?_); rintro e w1 ⟨rfl, e1⟩; have B1 := Lib.hid (B0.out.trans (e1.mono B0.out.size)); have c0 := bel_later e1 b0; have c1 := bel_later e1 b1; clear e1))
      | (go_at_call 15; ((with_reducible refine (RR.out _ B1.out).mono ?_); rintro e w2 ⟨rfl, e2⟩; have B2 := Lib.hid (B1.out.trans (e2.mono B1.out.size)); have c2 := bel_later e2 c0; have c3 := bel_later e2 c1; clear e2))
      | (go_at_call 17; ((with_reducible refine (PA.out _ B2.out).mono ?_); rintro e w3 ⟨rfl, e3⟩; have B3 := Lib.hid (B2.out.trans (e3.mono B2.out.size)); have c4 := bel_later e3 c2; have c5 := bel_later e3 c3; clear e3))
      | (go_at_call 19; ((with_reducible refine (PY.out _ B3.out).mono ?_); rintro e w4 ⟨AX, cX, rfl, rx, e4, _⟩; rw [HI.out]; have B4 := Lib.hid (B3.out.trans (e4.mono B3.out.size)); have RX4 := Lib.hid (RX.out w4 AX cX rx); have c6 := bel_later e4 c4; have c7 := bel_later e4 c5; clear e4 rx))
      | (go_at_call 15; ((with_reducible refine RX4.out.mono ?_); rintro e w5 ⟨rfl, e5⟩; have B5 := Lib.hid (B4.out.trans (e5.mono B4.out.size)); clear e5))
      | (go_at_call 12; ((with_reducible refine (live_any _).mono ?_); rintro e w6 ⟨rfl, e6⟩; have B6 := Lib.hid (B5.out.trans (e6.mono B5.out.size)); clear e6))
      | fail)
    exact bodyPost_ret (v := .bool true) (by simp [results, Try.results5, go_sem]) rfl ⟨rfl, B6.out⟩
end Go.Proofs.Ytngldfheneegcaa
