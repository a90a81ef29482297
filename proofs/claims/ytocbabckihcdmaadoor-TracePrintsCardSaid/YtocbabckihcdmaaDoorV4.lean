/- Moves as lines: the law's walk. -/
import Derived.Test.YtocbabckihcdmaaDoorV3
import Derived.Test.YtocbabckihcdmaaDoorU0
namespace Go.Proofs.YtocbabckihcdmaaDoor
set_option linter.unusedSimpArgs false
open Go.RowKit Go.Maps
set_option linter.unusedVariables false
theorem allok_take {xs : List MV} (h : AllOk xs) (n : Nat) : AllOk (xs.take n) := fun x hx => h x (List.mem_of_mem_take hx)
theorem printF_cases (xs : List MV) : printF xs = (⟨#[]⟩, 3) ∨ (printF xs = (⟨(textL xs).toArray⟩, 0) ∧ ∀ x ∈ xs, toldB x = true) := by
  by_cases h : xs.all toldB = true
  · right; exact ⟨by unfold printF; rw [if_pos h], List.all_eq_true.1 h⟩
  · left; unfold printF; rw [if_neg h]
theorem parse_back {xs : List MV} (h : ∀ x ∈ xs, toldB x = true) (ho : AllOk xs) : parseF ⟨(textL xs).toArray⟩ = (xs, 0, 0) := by
  unfold parseF
  rw [parse_text xs _ 1 [] (fun x hx => ⟨h x hx, (ho x hx).w0⟩) ?_]
  · rfl
  · rw [ba_size]
    have gen : ∀ ys : List MV, ys.length ≤ (textL ys).length := by
      intro ys
      induction ys with
      | nil => exact Nat.le_refl _
      | cons y ys ih =>
        have e : textL (y :: ys) = bodyL y ++ (10 :: textL ys) := by simp [textL, lineL]
        rw [e, List.length_append, List.length_cons, List.length_cons]; omega
    have := gen xs
    omega
theorem text_all {xs : List MV} (h : AllOk xs) (hn : xs.length ≤ 60) : (⟨(textL xs).toArray⟩ : ByteArray).size ≤ 100000 := by
  rw [ba_size]
  have := text_len h xs.length
  rw [List.take_length] at this
  omega
set_option maxRecDepth 100000 in
set_option maxHeartbeats 1000000 in
theorem prints_any (A : Option Addr) (n cap : Nat) (xs : List MV) (w : World) (hl : xs.length = n) (hn : n ≤ cap) (hm : cap ≤ maxLen) (hA : EM.Rd w A xs) (ho : AllOk xs) (h : GW w) :
    Calls Tryd.prog 3 #[.slice A n cap] w fun e w' => e = .returned (.bool true) ∧ Below w.heap.size w w' := by
  have FEW := Lib.hid (few_any A n cap w hn hm)
  obtain ⟨m, hm60⟩ : ∃ m, min n 60 = m := ⟨_, rfl⟩
  rw [hm60] at FEW
  have hm9 : m ≤ 60 := by omega
  obtain ⟨ys, hys⟩ : ∃ ys, xs.take m = ys := ⟨_, rfl⟩
  have hl9 : ys.length = m := by rw [← hys, List.length_take]; omega
  have hoy : AllOk ys := by rw [← hys]; exact allok_take ho m
  have HM := Lib.hid hm9
  have HL := Lib.hid hl9
  have HO := Lib.hid hoy
  have HA := Lib.hid (fun W (b : Below w.heap.size w W) => (by rw [← hys]; exact (hA.later b).take m : EM.Rd W A ys))
  have HG := Lib.hid (fun W (b : Below w.heap.size w W) => h.later b)
  have PC := Lib.hid (printF_cases ys)
  have P1 := Lib.hid (print_any A m cap ys w hl9 (by omega) (HA.out _ (Below.refl _ _)) hoy h)
  have P2 := Lib.hid (fun W (b : Below w.heap.size w W) => print_ref A m cap ys W hl9 (by omega) (HA.out _ b) hoy)
  have LV := Lib.hid (fun W (b : Below w.heap.size w W) => live_any W (HG.out _ b))
  clear hm60 hys hl hn hm hA h hm9 hl9 ho hoy
  rcases PC.out with e | ⟨e, ht⟩
  · rw [e] at P1 P2
    clear e PC
    go_enter Tryd.func3, Tryd.ntmps3
    go_wp2_with (first
      | (go_at_call 6; ((refine FEW.out.mono ?_); rintro e w1 ⟨rfl, rfl⟩))
      | (go_at_call 7; ((refine P1.out.mono ?_); rintro e w2 ⟨rfl, b2⟩; have C2 := Lib.hid b2; clear b2))
      | (go_at_call 8; ((refine (P2.out _ C2.out).mono ?_); rintro e w3 ⟨rfl, b3⟩; have C3 := Lib.hid (bel_trans C2.out b3); clear b3))
      | (go_at_call 9; ((refine (LV.out _ C3.out).mono ?_); rintro e w4 ⟨rfl, b4⟩; have C4 := Lib.hid (bel_trans C3.out b4); clear b4))
      | fail)
    refine bodyPost_ret (v := .bool true) (by simp [results, Tryd.results3, go_sem]) rfl ⟨rfl, C4.out⟩
  · rw [e] at P1 P2
    have PB := Lib.hid (parse_back ht HO.out)
    have TL := Lib.hid (text_all HO.out (by rw [HL.out]; exact HM.out))
    obtain ⟨tx, htx⟩ : ∃ tx : ByteArray, ⟨(textL ys).toArray⟩ = tx := ⟨_, rfl⟩
    rw [htx] at P1 P2 PB TL
    have PA : Hid (∀ W, Below w.heap.size w W → Calls Tryd.prog 10 #[.string tx] W fun e w' => ∃ A c, e = .returned (.tuple #[.slice A m c, .int .i64 0, .int .i64 0]) ∧ EM.Rd w' A ys ∧ Below W.heap.size W w') := Lib.hid (fun W b => by
      refine (parse_any tx TL.out W (HG.out _ b)).mono fun e w' ⟨A, c, h1, h2, h3⟩ => ⟨A, c, ?_, ?_, h3⟩
      · rw [h1, PB.out, HL.out]
      · rw [PB.out] at h2; exact h2)
    clear e PC ht htx PB TL
    go_enter Tryd.func3, Tryd.ntmps3
    go_wp2_with (first
      | (go_at_call 6; ((refine FEW.out.mono ?_); rintro e w1 ⟨rfl, rfl⟩))
      | (go_at_call 7; ((refine P1.out.mono ?_); rintro e w2 ⟨rfl, b2⟩; have C2 := Lib.hid b2; clear b2))
      | (go_at_call 8; ((refine (P2.out _ C2.out).mono ?_); rintro e w3 ⟨rfl, b3⟩; have C3 := Lib.hid (bel_trans C2.out b3); clear b3))
      | (go_at_call 10; ((refine (PA.out _ C3.out).mono ?_); rintro e w4 ⟨A4, c4, rfl, r4, b4⟩; have C4 := Lib.hid (bel_trans C3.out b4); have R4 := Lib.hid r4; clear r4 b4))
      | (go_at_call 9; ((refine (LV.out _ C4.out).mono ?_); rintro e w5 ⟨rfl, b5⟩; have C5 := Lib.hid (bel_trans C4.out b5); have R5 := Lib.hid (R4.out.later b5); have A5 := Lib.hid (HA.out _ C5.out); clear b5))
      | (go_at_call 11; ((with_reducible refine (same_m A4 A m c4 cap ys _ HL.out (by have := HM.out; omega) R5.out A5.out).mono ?_); rintro e w6 ⟨rfl, b6⟩; have C6 := Lib.hid (bel_trans C5.out b6); clear b6))
      | fail)
    refine bodyPost_ret (v := .bool true) (by simp [results, Tryd.results3, go_sem]) rfl ⟨rfl, C6.out⟩
end Go.Proofs.YtocbabckihcdmaaDoor
