/- What must be whatever is asked. -/
import Derived.Test.YtifikngmddfahaaA4
namespace Go.Proofs.Ytifikngmddfahaa
set_option linter.unusedSimpArgs false
open Go.RowKit
set_option linter.unusedVariables false

abbrev op0 : Value := .agg #[.int .u8 1, .string ⟨#[]⟩, .string ⟨#[]⟩, .int .i64 0, .slice none 0 0]

set_option maxRecDepth 100000 in
set_option maxHeartbeats 2000000 in
theorem pure0 (w : World) : Calls Try.prog 15 #[op0] w fun e w' => e = .returned (.bool true) ∧ Below w.heap.size w w' := by
  go_enter Try.func15, Try.ntmps15
  go_wp2_with fail
  go_quiet (fail)
  go_wp2
  go_ret
  exact ⟨rfl, bel_drewN ((Below.refl _ _).alloc (Nat.le_refl _) _) _⟩

set_option maxHeartbeats 2000000 in
theorem right0 (m : Int) (w : World) : Calls Try.prog 16 #[.string ⟨#[]⟩, .int .i64 m] w fun e w' => e = .returned (.bool false) ∧ w = w' := by
  go_enter Try.func16, Try.ntmps16
  go_wp2
  go_ret
  exact ⟨rfl, rfl⟩

set_option maxRecDepth 100000 in
set_option maxHeartbeats 2000000 in
theorem ask0 (k v f b l bl n bu ch : Int) (w : World) : Calls Try.prog 9 #[op0, cfg k v f b l bl n bu ch] w fun e w' => e = .returned (.int .i64 6) ∧ Below w.heap.size w w' := by
  go_enter Try.func9, Try.ntmps9
  go_wp2_with fail
  refine (pure0 _).mono ?_
  rintro e w1 ⟨rfl, hb⟩
  have hb2 : Below w.heap.size w w1 := ((Below.refl _ _).alloc (Nat.le_refl _) _).trans ((bel_a hb).mono (by simp))
  have g0 : w1.cell? ⟨w.heap.size, 0, none⟩ = some (.int .u8 1) := bel_later hb (by simp [go_sem])
  have g1 : w1.cell? ⟨w.heap.size, 1, none⟩ = some (.string ⟨#[]⟩) := bel_later hb (by simp [go_sem])
  have g2 : w1.cell? ⟨w.heap.size + 1, 0, none⟩ = some (.int .i64 k) := bel_later hb (by simp [go_sem])
  go_wp2_with fail
  refine (right0 _ _).mono ?_
  rintro e w2 ⟨rfl, rfl⟩
  go_wp2
  go_ret
  exact ⟨rfl, hb2⟩

theorem live_need : needF 4 10 = 17 := by decide
theorem live_alone : aloneF 3 = 5 := by decide
theorem live_check : checkF 1 8 4 0 4 2 2 0 1 = 0 := by decide
theorem live_check0 : checkF 0 0 0 0 0 0 0 0 0 = 2 := by decide

def Box9 (w : World) (N : Nat) (k v f b l bl n bu ch : Int) : Prop :=
  w.cell? ⟨N, 0, none⟩ = some (.int .i64 k) ∧ w.cell? ⟨N, 1, none⟩ = some (.int .i64 v) ∧ w.cell? ⟨N, 2, none⟩ = some (.int .i64 f) ∧ w.cell? ⟨N, 3, none⟩ = some (.int .i64 b) ∧ w.cell? ⟨N, 4, none⟩ = some (.int .i64 l) ∧ w.cell? ⟨N, 5, none⟩ = some (.int .i64 bl) ∧ w.cell? ⟨N, 6, none⟩ = some (.int .i64 n) ∧ w.cell? ⟨N, 7, none⟩ = some (.int .i64 bu) ∧ w.cell? ⟨N, 8, none⟩ = some (.int .i64 ch)
theorem Box9.keep {w w' : World} {N : Nat} {k v f b l bl n bu ch : Int} (h : Box9 w N k v f b l bl n bu ch) (hb : Below w.heap.size w w') : Box9 w' N k v f b l bl n bu ch :=
  let ⟨h0, h1, h2, h3, h4, h5, h6, h7, h8⟩ := h
  ⟨bel_later hb h0, bel_later hb h1, bel_later hb h2, bel_later hb h3, bel_later hb h4, bel_later hb h5, bel_later hb h6, bel_later hb h7, bel_later hb h8⟩
theorem Box9.new (w : World) (k v f b l bl n bu ch : Int) : Box9 (w.alloc (.cells #[.int .i64 k, .int .i64 v, .int .i64 f, .int .i64 b, .int .i64 l, .int .i64 bl, .int .i64 n, .int .i64 bu, .int .i64 ch] 23)) w.heap.size k v f b l bl n bu ch := by
  refine ⟨?_, ?_, ?_, ?_, ?_, ?_, ?_, ?_, ?_⟩ <;> simp [go_sem]

set_option maxRecDepth 100000 in
set_option maxHeartbeats 4000000 in
theorem live_any (w : World) : Calls Try.prog 6 #[] w fun e w' => e = .returned (.bool true) ∧ Below w.heap.size w w' := by
  have c1 := fun w => need_any 1 8 4 0 4 2 2 0 1 10 w
  rw [live_need] at c1
  have c2 := fun w => alone_any 1 8 4 0 4 2 2 0 1 3 w
  rw [live_alone] at c2
  have c3 := fun w => check_any 1 8 4 0 4 2 2 0 1 w
  rw [live_check] at c3
  have c4 := fun w => check_any 0 0 0 0 0 0 0 0 0 w
  rw [live_check0] at c4
  have C1 := Lib.hid c1
  have C2 := Lib.hid c2
  have C3 := Lib.hid c3
  have C4 := Lib.hid c4
  clear c1 c2 c3 c4
  have B0 := Box9.new w 1 8 4 0 4 2 2 0 1
  have HB0 := Lib.hid B0
  clear B0
  go_enter Try.func6, Try.ntmps6
  go_wp2_with fail
  refine (C1.out _).mono ?_
  rintro e w1 ⟨rfl, hb⟩
  have B1 := HB0.out.keep hb
  have H1 := bel_a hb
  obtain ⟨g0, g1, g2, g3, g4, g5, g6, g7, g8⟩ := B1
  clear hb
  go_wp2_with fail
  refine (C2.out _).mono ?_
  rintro e w2 ⟨rfl, hb⟩
  have B2 : Box9 w2 w.heap.size 1 8 4 0 4 2 2 0 1 := Box9.keep ⟨g0, g1, g2, g3, g4, g5, g6, g7, g8⟩ hb
  have H2 := bel_trans H1 hb
  clear g0 g1 g2 g3 g4 g5 g6 g7 g8 hb H1
  obtain ⟨g0, g1, g2, g3, g4, g5, g6, g7, g8⟩ := B2
  go_wp2_with fail
  refine (C3.out _).mono ?_
  rintro e w3 ⟨rfl, hb⟩
  have B3 : Box9 w3 w.heap.size 1 8 4 0 4 2 2 0 1 := Box9.keep ⟨g0, g1, g2, g3, g4, g5, g6, g7, g8⟩ hb
  have H3 := bel_trans H2 hb
  clear g0 g1 g2 g3 g4 g5 g6 g7 g8 hb H2
  obtain ⟨g0, g1, g2, g3, g4, g5, g6, g7, g8⟩ := B3
  go_wp2_with fail
  refine (C4.out _).mono ?_
  rintro e w4 ⟨rfl, hb⟩
  have B4 : Box9 w4 w.heap.size 1 8 4 0 4 2 2 0 1 := Box9.keep ⟨g0, g1, g2, g3, g4, g5, g6, g7, g8⟩ hb
  have H4 := bel_trans H3 hb
  clear g0 g1 g2 g3 g4 g5 g6 g7 g8 hb H3
  obtain ⟨g0, g1, g2, g3, g4, g5, g6, g7, g8⟩ := B4
  go_wp2_with fail
  refine (ask0 _ _ _ _ _ _ _ _ _ _).mono ?_
  rintro e w5 ⟨rfl, hb⟩
  have H5 := bel_trans H4 hb
  go_wp2_with fail
  go_ret
  exact ⟨rfl, H5⟩
end Go.Proofs.Ytifikngmddfahaa
