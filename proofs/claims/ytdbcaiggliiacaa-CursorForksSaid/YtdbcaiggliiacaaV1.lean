/- Cursors of no table. -/
import Derived.Test.YtdbcaiggliiacaaU2
namespace Go.Proofs.Ytdbcaiggliiacaa
set_option linter.unusedSimpArgs false
open Go.RowKit Go.Maps
set_option linter.unusedVariables false
set_option maxRecDepth 10000 in
theorem find_nil (x : Int) (w : World) :
    Calls Try.prog 30 #[.pointer none, .int .i64 x] w fun r w' => r = .returned (.tuple #[.agg #[.string ⟨#[]⟩, .string ⟨#[]⟩, .bool false], .int .i64 1]) ∧ Below w.heap.size w w' := by
  have HB := Lib.hid (alb w Z73)
  go_enter Try.func30, Try.ntmps30
  go_wp2
  exact bodyPost_ret (v := .tuple #[.agg #[.string ⟨#[]⟩, .string ⟨#[]⟩, .bool false], .int .i64 1]) (by simp [results, Try.results30, go_sem]) rfl ⟨rfl, by go_grown⟩
set_option maxHeartbeats 1000000 in
theorem left_nil (x : Int) (w : World) :
    Calls Try.prog 16 #[.pointer none, .int .i64 x] w fun r w' => r = .returned (.tuple #[.agg #[.string ⟨#[]⟩, .string ⟨#[]⟩], .bool false, .int .i64 1]) ∧ Below w.heap.size w w' := by
  have F := Lib.hid (find_nil x (w.alloc (.cells #[.string ⟨#[]⟩, .string ⟨#[]⟩] 29)))
  have HA := Lib.hid (alb w (.cells #[.string ⟨#[]⟩, .string ⟨#[]⟩] 29))
  go_enter Try.func16, Try.ntmps16
  go_wp2_with (first
    | (go_at_call 30; ((with_reducible refine F.out.mono ?_); rintro e w1 ⟨rfl, b1⟩; have BB := Lib.hid b1; have B1 := Lib.hid (bel_trans HA.out b1); clear b1))
    | fail)
  have z0 : (w1.alloc (.cells #[.string ⟨#[]⟩, .string ⟨#[]⟩, .bool false] 73)).heap[w.heap.size]? = some (.cells #[.string ⟨#[]⟩, .string ⟨#[]⟩] 29 (0, 0)) := keep_bel (alb w1 _) (keep_bel BB.out (heap_alloc_new w _))
  have z1 := heap_alloc_new w1 (.cells #[.string ⟨#[]⟩, .string ⟨#[]⟩, .bool false] 73)
  have hB := bel_alloc B1.out (.cells #[.string ⟨#[]⟩, .string ⟨#[]⟩, .bool false] 73)
  have hne : w.heap.size ≠ w1.heap.size := by have := BB.out.size; simp at this; omega
  obtain ⟨g, hg⟩ : ∃ g, g = w1.heap.size := ⟨_, rfl⟩
  rw [← hg] at z1 hne ⊢
  obtain ⟨W, hW⟩ : ∃ W, W = w1.alloc (.cells #[.string ⟨#[]⟩, .string ⟨#[]⟩, .bool false] 73) := ⟨_, rfl⟩
  rw [← hW] at z0 z1 hB ⊢
  clear hW hg
  have g0 : W.cell? ⟨w.heap.size, 0, none⟩ = some (.string ⟨#[]⟩) := by simp [World.cell?, z0]
  have g1 : W.cell? ⟨w.heap.size, 1, none⟩ = some (.string ⟨#[]⟩) := by simp [World.cell?, z0]
  have f0 : W.frozen? ⟨w.heap.size, 0, none⟩ = false := by simp [World.frozen?, z0]
  have f1 : W.frozen? ⟨w.heap.size, 1, none⟩ = false := by simp [World.frozen?, z0]
  have e0 : W.cell? ⟨g, 0, none⟩ = some (.string ⟨#[]⟩) := by simp [World.cell?, z1]
  have e1 : W.cell? ⟨g, 1, none⟩ = some (.string ⟨#[]⟩) := by simp [World.cell?, z1]
  have e2 : W.cell? ⟨g, 2, none⟩ = some (.bool false) := by simp [World.cell?, z1]
  obtain ⟨q0, q1, ch⟩ := box2_set z0 (.string ⟨#[]⟩) (.string ⟨#[]⟩)
  have HB := Lib.hid (hB.trans (ch.below (fun x e => by omega) hB.size))
  clear z0 z1 hB BB B1 F ch
  go_region_law (fail)
  all_goals
    go_wp2
    exact bodyPost_ret (v := .tuple #[.agg #[.string ⟨#[]⟩, .string ⟨#[]⟩], .bool false, .int .i64 1]) (by simp [results, Try.results16, go_sem, q0, q1]) rfl ⟨rfl, (by first | exact HB.out | exact bel_trans HB.out (drew_bel _))⟩
set_option maxRecDepth 10000 in
theorem took_nil (x : Int) (A : Option Addr) (n c : Nat) (most : Int) (w : World) :
    Calls Try.prog 13 #[.pointer none, .int .i64 x, .slice A n c, .int .i64 most] w fun e w' => e = .returned (.tuple #[.bool false, .int .i64 1]) ∧ Below w.heap.size w w' := by
  have F := Lib.hid (find_nil x w)
  go_enter Try.func13, Try.ntmps13
  go_wp2_with (first
    | (go_at_call 30; ((with_reducible refine F.out.mono ?_); rintro r w1 ⟨rfl, b1⟩; have B1 := Lib.hid (bel_alloc b1 Z73); clear b1))
    | fail)
  exact bodyPost_ret (v := .tuple #[.bool false, .int .i64 1]) (by simp [results, Try.results13, go_sem]) rfl ⟨rfl, B1.out⟩
set_option maxRecDepth 10000 in
theorem close_nil (x : Int) (w : World) :
    Calls Try.prog 21 #[.pointer none, .int .i64 x] w fun e w' => e = .returned (.int .i64 1) ∧ Below w.heap.size w w' := by
  have F := Lib.hid (find_nil x w)
  go_enter Try.func21, Try.ntmps21
  go_wp2_with (first
    | (go_at_call 30; ((with_reducible refine F.out.mono ?_); rintro r w1 ⟨rfl, b1⟩; have B1 := Lib.hid (bel_alloc b1 Z73); clear b1))
    | fail)
  go_ret
  exact ⟨rfl, B1.out⟩
theorem len_nil (w : World) : Calls Try.prog 22 #[.pointer none] w fun e w' => e = .returned (.int .i64 0) ∧ w = w' := by
  go_enter Try.func22, Try.ntmps22
  go_wp2
  go_ret
  exact ⟨rfl, rfl⟩
theorem fork_nil (w : World) : Calls Try.prog 20 #[.pointer none] w fun e w' => e = .returned (.pointer none) ∧ Below w.heap.size w w' := by
  have HB := Lib.hid (alb w (.cells #[.pointer none] 23))
  go_enter Try.func20, Try.ntmps20
  go_wp2
  go_ret
  exact ⟨rfl, HB.out⟩
theorem open_nil (a b : ByteArray) (w : World) : Calls Try.prog 11 #[.pointer none, .agg #[.string a, .string b]] w fun e w' => e = .returned (.tuple #[.int .i64 0, .int .i64 1]) ∧ Below w.heap.size w w' := by
  have HB := Lib.hid (alb w (.cells #[.string a, .string b] 29))
  go_enter Try.func11, Try.ntmps11
  go_wp2
  exact bodyPost_ret (v := .tuple #[.int .i64 0, .int .i64 1]) (by simp [results, Try.results11, go_sem]) rfl ⟨rfl, by go_grown⟩
end Go.Proofs.Ytdbcaiggliiacaa
