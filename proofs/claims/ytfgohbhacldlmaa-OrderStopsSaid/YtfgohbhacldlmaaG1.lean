/- Maps of texts: what must be whatever is asked. -/
import Derived.Test.YtfgohbhacldlmaaT8
namespace Go.Proofs.Ytfgohbhacldlmaa
set_option linter.unusedSimpArgs false
open Go.RowKit
set_option linter.unusedVariables false

abbrev bS : ByteArray := ⟨#[98]⟩
abbrev aS : ByteArray := ⟨#[97]⟩
theorem lv1 : putL ltS bS (1 : Int) [] = [(bS, 1)] := by simp [putL, below, above]
theorem lv2 : putL ltS aS (2 : Int) [(bS, 1)] = [(aS, 2), (bS, 1)] := by simp [putL, below, above, ltS, ByteArray.toList_eq, Op.bytesLess]
theorem lv3 : putL ltS bS (3 : Int) [(aS, 2), (bS, 1)] = [(aS, 2), (bS, 3)] := by simp [putL, below, above, ltS, ByteArray.toList_eq, Op.bytesLess]
theorem at1 : (atk ltS bS ([] : List (ByteArray × Int))).isEmpty = true := rfl
theorem at2 : (atk ltS aS [(bS, (1 : Int))]).isEmpty = true := by simp [atk, ltS, ByteArray.toList_eq, Op.bytesLess]
theorem at3 : (atk ltS bS [(aS, (2 : Int)), (bS, 1)]).isEmpty = false := by simp [atk, ltS, ByteArray.toList_eq, Op.bytesLess]
theorem pl1 : plc bS [(aS, (2 : Int)), (bS, 3)] = 1 := by simp [plc, below, ltS, ByteArray.toList_eq, Op.bytesLess]
theorem srt1 : Srt ltS [(bS, (1 : Int))] := by simp [Srt]
theorem srt2 : Srt ltS [(aS, (2 : Int)), (bS, 1)] := by simp [Srt, ltS, ByteArray.toList_eq, Op.bytesLess]
theorem srt3 : Srt ltS [(aS, (2 : Int)), (bS, 3)] := by simp [Srt, ltS, ByteArray.toList_eq, Op.bytesLess]
theorem grow_below {w w1 w2 : World} {N : Nat} (h : Below w.heap.size w w1) (hg : w1.grownBy w2 (some N)) (hN : w.heap.size ≤ N) : Below w.heap.size w w2 := h.grown hg h.size (fun k e => by cases e; exact hN)
set_option maxHeartbeats 2000000 in
set_option maxRecDepth 100000 in
theorem live_any (w : World) : Calls Try.prog 12 #[] w fun e w' => e = .returned (.bool true) ∧ Below w.heap.size w w' := by
  have P1 := Lib.hid (fun W h => put_any w.heap.size [] bS 1 W h List.Pairwise.nil (by decide))
  have P2 := Lib.hid (fun W h => put_any w.heap.size [(bS, 1)] aS 2 W h srt1 (by decide))
  have P3 := Lib.hid (fun W h => put_any w.heap.size [(aS, 2), (bS, 1)] bS 3 W h srt2 (by decide))
  rw [lv1, at1] at P1
  rw [lv2, at2] at P2
  rw [lv3, at3] at P3
  have A1 : Hid (∀ W, MapIs W w.heap.size [(aS, 2), (bS, 3)] → Calls Try.prog 16 #[.pointer (some ⟨w.heap.size, 0, none⟩), .int .i64 1] W fun e w' => e = .returned (.tuple #[.string bS, .int .i64 3, .bool true]) ∧ Below W.heap.size W w') := Lib.hid (fun W h => at_in w.heap.size [(aS, 2), (bS, 3)] 1 (bS, 3) W h rfl (by decide))
  have LL : Hid (([(aS, (2 : Int)), (bS, 3)].length : Int) = 2) := Lib.hid rfl
  have L1 := Lib.hid (fun W h => len_any w.heap.size [(aS, 2), (bS, 3)] W h)
  rw [LL.out] at L1
  have Q1 := Lib.hid (fun W h => place_any w.heap.size [(aS, 2), (bS, 3)] bS W h srt3 (by decide))
  rw [pl1, show (((1 : Nat) : Int)) = 1 from rfl] at Q1
  go_enter Try.func12, Try.ntmps12
  go_wp2_with (first
    | (go_at_call 9; (with_reducible refine (new_any w).mono ?_); rintro e w1 ⟨rfl, m1, b1, z1⟩; have M1 := Lib.hid m1; have B1 := Lib.hid b1; clear m1 b1 z1)
    | (go_at_call 27; (with_reducible refine (P1.out _ M1.out).mono ?_); rintro e w2 ⟨rfl, m2, g2⟩; have M2 := Lib.hid m2; have B2 := Lib.hid (grow_below B1.out g2 (Nat.le_refl _)); clear m2 g2)
    | (go_at_call 27; (with_reducible refine (P2.out _ M2.out).mono ?_); rintro e w3 ⟨rfl, m3, g3⟩; have M3 := Lib.hid m3; have B3 := Lib.hid (grow_below B2.out g3 (Nat.le_refl _)); clear m3 g3)
    | (go_at_call 27; (with_reducible refine (P3.out _ M3.out).mono ?_); rintro e w4 ⟨rfl, m4, g4⟩; have M4 := Lib.hid m4; have B4 := Lib.hid (grow_below B3.out g4 (Nat.le_refl _)); clear m4 g4)
    | (go_at_call 16; (with_reducible refine (A1.out _ M4.out).mono ?_); rintro e w5 ⟨rfl, b5⟩; have M5 := Lib.hid (M4.out.later b5); have B5 := Lib.hid (bel_trans B4.out b5); clear b5)
    | (go_at_call 11; (with_reducible refine (L1.out _ M5.out).mono ?_); rintro e w6 ⟨rfl, rfl⟩)
    | (go_at_call 17; (with_reducible refine (Q1.out _ M5.out).mono ?_); rintro e w7 ⟨rfl, b7⟩; have B7 := Lib.hid (bel_trans B5.out b7); clear b7)
    | fail)
  exact bodyPost_ret (v := .bool true) (by simp [results, Try.results12, go_sem]) rfl ⟨rfl, B7.out⟩
end Go.Proofs.Ytfgohbhacldlmaa
