/- The document's check of an operation. -/
import Derived.Test.YtnchpfmpjpnciaaC2
namespace Go.Proofs.Ytnchpfmpjpnciaa
set_option linter.unusedSimpArgs false
open Go.RowKit Go.Maps Go.Shelf
set_option linter.unusedVariables false
section
variable (c2 c3 c4 c5 c6 c7 c8 : Int) (w : World)
set_option maxHeartbeats 4000000 in
set_option maxRecDepth 4000 in
theorem ask_open (B : Option Addr) (c : Nat) : Calls Try.prog 32 #[.agg #[.int .u8 4, .string ⟨#[]⟩, .string ⟨#[]⟩, .int .i64 0, .slice B 0 c], .agg #[.int .i64 4, .int .i64 16, .int .i64 c2, .int .i64 c3, .int .i64 c4, .int .i64 c5, .int .i64 c6, .int .i64 c7, .int .i64 c8]] w fun e w' => e = .returned (.int .i64 0) ∧ Below w.heap.size w w' := by
  have RO : Hid (((w.alloc (.cells #[.int .u8 4, .string ⟨#[]⟩, .string ⟨#[]⟩, .int .i64 0, .slice B 0 c] 42)).alloc (.cells #[.int .i64 4, .int .i64 16, .int .i64 c2, .int .i64 c3, .int .i64 c4, .int .i64 c5, .int .i64 c6, .int .i64 c7, .int .i64 c8] 49)).heap[w.heap.size]? = some (.cells #[.int .u8 4, .string ⟨#[]⟩, .string ⟨#[]⟩, .int .i64 0, .slice B 0 c] 42 (0, 0))) := Lib.hid (keep_bel (alb _ _) (heap_alloc_new w _))
  have RC : Hid (((w.alloc (.cells #[.int .u8 4, .string ⟨#[]⟩, .string ⟨#[]⟩, .int .i64 0, .slice B 0 c] 42)).alloc (.cells #[.int .i64 4, .int .i64 16, .int .i64 c2, .int .i64 c3, .int .i64 c4, .int .i64 c5, .int .i64 c6, .int .i64 c7, .int .i64 c8] 49)).heap[w.heap.size + 1]? = some (.cells #[.int .i64 4, .int .i64 16, .int .i64 c2, .int .i64 c3, .int .i64 c4, .int .i64 c5, .int .i64 c6, .int .i64 c7, .int .i64 c8] 49 (0, 0))) := Lib.hid (by have h := heap_alloc_new (w.alloc (.cells #[.int .u8 4, .string ⟨#[]⟩, .string ⟨#[]⟩, .int .i64 0, .slice B 0 c] 42)) (.cells #[.int .i64 4, .int .i64 16, .int .i64 c2, .int .i64 c3, .int .i64 c4, .int .i64 c5, .int .i64 c6, .int .i64 c7, .int .i64 c8] 49); rw [World.size_alloc] at h; exact h)
  have HBV : Hid (Below w.heap.size w ((w.alloc (.cells #[.int .u8 4, .string ⟨#[]⟩, .string ⟨#[]⟩, .int .i64 0, .slice B 0 c] 42)).alloc (.cells #[.int .i64 4, .int .i64 16, .int .i64 c2, .int .i64 c3, .int .i64 c4, .int .i64 c5, .int .i64 c6, .int .i64 c7, .int .i64 c8] 49))) := Lib.hid (by go_grown)
  have ZR := Lib.hid (zero_open ((w.alloc (.cells #[.int .u8 4, .string ⟨#[]⟩, .string ⟨#[]⟩, .int .i64 0, .slice B 0 c] 42)).alloc (.cells #[.int .i64 4, .int .i64 16, .int .i64 c2, .int .i64 c3, .int .i64 c4, .int .i64 c5, .int .i64 c6, .int .i64 c7, .int .i64 c8] 49)) B c)
  go_enter Try.func32, Try.ntmps32
  go_wp2_with (first
    | (go_at_call 39; ((with_reducible refine ZR.out.mono ?_); rintro e w1 ⟨rfl, b1⟩; have HB0 := Lib.hid b1; have R1 := keep_bel b1 RO.out; have R2 := keep_bel b1 RC.out; have f0 : w1.cell? ⟨w.heap.size, 0, none⟩ = some (.int .u8 4) := (cell_of_row _ _ 0 _ 42 (0, 0) R1).trans rfl; have f1 : w1.cell? ⟨w.heap.size, 1, none⟩ = some (.string ⟨#[]⟩) := (cell_of_row _ _ 1 _ 42 (0, 0) R1).trans rfl; have f2 : w1.cell? ⟨w.heap.size, 2, none⟩ = some (.string ⟨#[]⟩) := (cell_of_row _ _ 2 _ 42 (0, 0) R1).trans rfl; have f3 : w1.cell? ⟨w.heap.size, 3, none⟩ = some (.int .i64 0) := (cell_of_row _ _ 3 _ 42 (0, 0) R1).trans rfl; have f4 : w1.cell? ⟨w.heap.size, 4, none⟩ = some (.slice B 0 c) := (cell_of_row _ _ 4 _ 42 (0, 0) R1).trans rfl; have e0 : w1.cell? ⟨w.heap.size + 1, 0, none⟩ = some (.int .i64 4) := (cell_of_row _ _ 0 _ 49 (0, 0) R2).trans rfl; have e1 : w1.cell? ⟨w.heap.size + 1, 1, none⟩ = some (.int .i64 16) := (cell_of_row _ _ 1 _ 49 (0, 0) R2).trans rfl; have e2 : w1.cell? ⟨w.heap.size + 1, 2, none⟩ = some (.int .i64 c2) := (cell_of_row _ _ 2 _ 49 (0, 0) R2).trans rfl; have e3 : w1.cell? ⟨w.heap.size + 1, 3, none⟩ = some (.int .i64 c3) := (cell_of_row _ _ 3 _ 49 (0, 0) R2).trans rfl; have e4 : w1.cell? ⟨w.heap.size + 1, 4, none⟩ = some (.int .i64 c4) := (cell_of_row _ _ 4 _ 49 (0, 0) R2).trans rfl; have e5 : w1.cell? ⟨w.heap.size + 1, 5, none⟩ = some (.int .i64 c5) := (cell_of_row _ _ 5 _ 49 (0, 0) R2).trans rfl; have e6 : w1.cell? ⟨w.heap.size + 1, 6, none⟩ = some (.int .i64 c6) := (cell_of_row _ _ 6 _ 49 (0, 0) R2).trans rfl; have e7 : w1.cell? ⟨w.heap.size + 1, 7, none⟩ = some (.int .i64 c7) := (cell_of_row _ _ 7 _ 49 (0, 0) R2).trans rfl; have e8 : w1.cell? ⟨w.heap.size + 1, 8, none⟩ = some (.int .i64 c8) := (cell_of_row _ _ 8 _ 49 (0, 0) R2).trans rfl; clear b1 R1 R2))
    | fail)
  go_loopw [5] (fun iv wr => ∃ k : Nat, k ≤ 0 ∧ iv = .int .i64 k ∧ Below ((w.alloc (.cells #[.int .u8 4, .string ⟨#[]⟩, .string ⟨#[]⟩, .int .i64 0, .slice B 0 c] 42)).alloc (.cells #[.int .i64 4, .int .i64 16, .int .i64 c2, .int .i64 c3, .int .i64 c4, .int .i64 c5, .int .i64 c6, .int .i64 c7, .int .i64 c8] 49)).heap.size ((w.alloc (.cells #[.int .u8 4, .string ⟨#[]⟩, .string ⟨#[]⟩, .int .i64 0, .slice B 0 c] 42)).alloc (.cells #[.int .i64 4, .int .i64 16, .int .i64 c2, .int .i64 c3, .int .i64 c4, .int .i64 c5, .int .i64 c6, .int .i64 c7, .int .i64 c8] 49)) wr) (fun i _ => 0 - (intOf i).toNat)
  case atStart => exact ⟨0, by omega, rfl, HB0.out⟩
  case round =>
    obtain ⟨k, hk, rfl, hb1⟩ := hrel
    have HB1 := Lib.hid hb1
    clear f0 f1 f2 f3 f4 e0 e1 e2 e3 e4 e5 e6 e7 e8
    have R1 := keep_bel hb1 RO.out
    have R2 := keep_bel hb1 RC.out
    have f0 : wr.cell? ⟨w.heap.size, 0, none⟩ = some (.int .u8 4) := (cell_of_row _ _ 0 _ 42 (0, 0) R1).trans rfl
    have f1 : wr.cell? ⟨w.heap.size, 1, none⟩ = some (.string ⟨#[]⟩) := (cell_of_row _ _ 1 _ 42 (0, 0) R1).trans rfl
    have f2 : wr.cell? ⟨w.heap.size, 2, none⟩ = some (.string ⟨#[]⟩) := (cell_of_row _ _ 2 _ 42 (0, 0) R1).trans rfl
    have f3 : wr.cell? ⟨w.heap.size, 3, none⟩ = some (.int .i64 0) := (cell_of_row _ _ 3 _ 42 (0, 0) R1).trans rfl
    have f4 : wr.cell? ⟨w.heap.size, 4, none⟩ = some (.slice B 0 c) := (cell_of_row _ _ 4 _ 42 (0, 0) R1).trans rfl
    have e0 : wr.cell? ⟨w.heap.size + 1, 0, none⟩ = some (.int .i64 4) := (cell_of_row _ _ 0 _ 49 (0, 0) R2).trans rfl
    have e1 : wr.cell? ⟨w.heap.size + 1, 1, none⟩ = some (.int .i64 16) := (cell_of_row _ _ 1 _ 49 (0, 0) R2).trans rfl
    have e2 : wr.cell? ⟨w.heap.size + 1, 2, none⟩ = some (.int .i64 c2) := (cell_of_row _ _ 2 _ 49 (0, 0) R2).trans rfl
    have e3 : wr.cell? ⟨w.heap.size + 1, 3, none⟩ = some (.int .i64 c3) := (cell_of_row _ _ 3 _ 49 (0, 0) R2).trans rfl
    have e4 : wr.cell? ⟨w.heap.size + 1, 4, none⟩ = some (.int .i64 c4) := (cell_of_row _ _ 4 _ 49 (0, 0) R2).trans rfl
    have e5 : wr.cell? ⟨w.heap.size + 1, 5, none⟩ = some (.int .i64 c5) := (cell_of_row _ _ 5 _ 49 (0, 0) R2).trans rfl
    have e6 : wr.cell? ⟨w.heap.size + 1, 6, none⟩ = some (.int .i64 c6) := (cell_of_row _ _ 6 _ 49 (0, 0) R2).trans rfl
    have e7 : wr.cell? ⟨w.heap.size + 1, 7, none⟩ = some (.int .i64 c7) := (cell_of_row _ _ 7 _ 49 (0, 0) R2).trans rfl
    have e8 : wr.cell? ⟨w.heap.size + 1, 8, none⟩ = some (.int .i64 c8) := (cell_of_row _ _ 8 _ 49 (0, 0) R2).trans rfl
    clear R1 R2 hb1
    by_cases h8 : k < 0
    · 
      omega
    · have hk1 : ¬ (k : Int) < (0 : Int) := by omega
      clear hk h8
      go_wp2_with fail
      clear hk1
      go_loopw [6, 7] (fun iv _ wr => ∃ k : Nat, k ≤ 0 ∧ iv = .int .i64 k ∧ Below ((w.alloc (.cells #[.int .u8 4, .string ⟨#[]⟩, .string ⟨#[]⟩, .int .i64 0, .slice B 0 c] 42)).alloc (.cells #[.int .i64 4, .int .i64 16, .int .i64 c2, .int .i64 c3, .int .i64 c4, .int .i64 c5, .int .i64 c6, .int .i64 c7, .int .i64 c8] 49)).heap.size ((w.alloc (.cells #[.int .u8 4, .string ⟨#[]⟩, .string ⟨#[]⟩, .int .i64 0, .slice B 0 c] 42)).alloc (.cells #[.int .i64 4, .int .i64 16, .int .i64 c2, .int .i64 c3, .int .i64 c4, .int .i64 c5, .int .i64 c6, .int .i64 c7, .int .i64 c8] 49)) wr) (fun i _ _ => 0 - (intOf i).toNat)
      case atStart => exact ⟨0, by omega, rfl, HB1.out⟩
      case round =>
        clear HB1
        clear f0 f1 f2 f3 f4 e0 e1 e2 e3 e4 e5 e6 e7 e8
        obtain ⟨k2, hk, rfl, hb2⟩ := hrel
        have HB2 := Lib.hid hb2
        have R1 := keep_bel hb2 RO.out
        have R2 := keep_bel hb2 RC.out
        have f0 : wr.cell? ⟨w.heap.size, 0, none⟩ = some (.int .u8 4) := (cell_of_row _ _ 0 _ 42 (0, 0) R1).trans rfl
        have f1 : wr.cell? ⟨w.heap.size, 1, none⟩ = some (.string ⟨#[]⟩) := (cell_of_row _ _ 1 _ 42 (0, 0) R1).trans rfl
        have f2 : wr.cell? ⟨w.heap.size, 2, none⟩ = some (.string ⟨#[]⟩) := (cell_of_row _ _ 2 _ 42 (0, 0) R1).trans rfl
        have f3 : wr.cell? ⟨w.heap.size, 3, none⟩ = some (.int .i64 0) := (cell_of_row _ _ 3 _ 42 (0, 0) R1).trans rfl
        have f4 : wr.cell? ⟨w.heap.size, 4, none⟩ = some (.slice B 0 c) := (cell_of_row _ _ 4 _ 42 (0, 0) R1).trans rfl
        have e0 : wr.cell? ⟨w.heap.size + 1, 0, none⟩ = some (.int .i64 4) := (cell_of_row _ _ 0 _ 49 (0, 0) R2).trans rfl
        have e1 : wr.cell? ⟨w.heap.size + 1, 1, none⟩ = some (.int .i64 16) := (cell_of_row _ _ 1 _ 49 (0, 0) R2).trans rfl
        have e2 : wr.cell? ⟨w.heap.size + 1, 2, none⟩ = some (.int .i64 c2) := (cell_of_row _ _ 2 _ 49 (0, 0) R2).trans rfl
        have e3 : wr.cell? ⟨w.heap.size + 1, 3, none⟩ = some (.int .i64 c3) := (cell_of_row _ _ 3 _ 49 (0, 0) R2).trans rfl
        have e4 : wr.cell? ⟨w.heap.size + 1, 4, none⟩ = some (.int .i64 c4) := (cell_of_row _ _ 4 _ 49 (0, 0) R2).trans rfl
        have e5 : wr.cell? ⟨w.heap.size + 1, 5, none⟩ = some (.int .i64 c5) := (cell_of_row _ _ 5 _ 49 (0, 0) R2).trans rfl
        have e6 : wr.cell? ⟨w.heap.size + 1, 6, none⟩ = some (.int .i64 c6) := (cell_of_row _ _ 6 _ 49 (0, 0) R2).trans rfl
        have e7 : wr.cell? ⟨w.heap.size + 1, 7, none⟩ = some (.int .i64 c7) := (cell_of_row _ _ 7 _ 49 (0, 0) R2).trans rfl
        have e8 : wr.cell? ⟨w.heap.size + 1, 8, none⟩ = some (.int .i64 c8) := (cell_of_row _ _ 8 _ 49 (0, 0) R2).trans rfl
        clear R1 R2 hb2
        by_cases h8 : k2 < 0
        · 
          omega
        · have hk1 : ¬ (k2 : Int) < (0 : Int) := by omega
          clear hk h8
          go_wp2_with fail
          go_ret
          exact ⟨rfl, HBV.out.trans (HB2.out.mono HBV.out.size)⟩
set_option maxHeartbeats 4000000 in
set_option maxRecDepth 4000 in
theorem ask_next (B : Option Addr) (c : Nat) : Calls Try.prog 32 #[.agg #[.int .u8 5, .string ⟨#[]⟩, .string ⟨#[]⟩, .int .i64 1, .slice B 0 c], .agg #[.int .i64 4, .int .i64 16, .int .i64 c2, .int .i64 c3, .int .i64 c4, .int .i64 c5, .int .i64 c6, .int .i64 c7, .int .i64 c8]] w fun e w' => e = .returned (.int .i64 0) ∧ Below w.heap.size w w' := by
  have RO : Hid (((w.alloc (.cells #[.int .u8 5, .string ⟨#[]⟩, .string ⟨#[]⟩, .int .i64 1, .slice B 0 c] 42)).alloc (.cells #[.int .i64 4, .int .i64 16, .int .i64 c2, .int .i64 c3, .int .i64 c4, .int .i64 c5, .int .i64 c6, .int .i64 c7, .int .i64 c8] 49)).heap[w.heap.size]? = some (.cells #[.int .u8 5, .string ⟨#[]⟩, .string ⟨#[]⟩, .int .i64 1, .slice B 0 c] 42 (0, 0))) := Lib.hid (keep_bel (alb _ _) (heap_alloc_new w _))
  have RC : Hid (((w.alloc (.cells #[.int .u8 5, .string ⟨#[]⟩, .string ⟨#[]⟩, .int .i64 1, .slice B 0 c] 42)).alloc (.cells #[.int .i64 4, .int .i64 16, .int .i64 c2, .int .i64 c3, .int .i64 c4, .int .i64 c5, .int .i64 c6, .int .i64 c7, .int .i64 c8] 49)).heap[w.heap.size + 1]? = some (.cells #[.int .i64 4, .int .i64 16, .int .i64 c2, .int .i64 c3, .int .i64 c4, .int .i64 c5, .int .i64 c6, .int .i64 c7, .int .i64 c8] 49 (0, 0))) := Lib.hid (by have h := heap_alloc_new (w.alloc (.cells #[.int .u8 5, .string ⟨#[]⟩, .string ⟨#[]⟩, .int .i64 1, .slice B 0 c] 42)) (.cells #[.int .i64 4, .int .i64 16, .int .i64 c2, .int .i64 c3, .int .i64 c4, .int .i64 c5, .int .i64 c6, .int .i64 c7, .int .i64 c8] 49); rw [World.size_alloc] at h; exact h)
  have HBV : Hid (Below w.heap.size w ((w.alloc (.cells #[.int .u8 5, .string ⟨#[]⟩, .string ⟨#[]⟩, .int .i64 1, .slice B 0 c] 42)).alloc (.cells #[.int .i64 4, .int .i64 16, .int .i64 c2, .int .i64 c3, .int .i64 c4, .int .i64 c5, .int .i64 c6, .int .i64 c7, .int .i64 c8] 49))) := Lib.hid (by go_grown)
  have ZR := Lib.hid (zero_next ((w.alloc (.cells #[.int .u8 5, .string ⟨#[]⟩, .string ⟨#[]⟩, .int .i64 1, .slice B 0 c] 42)).alloc (.cells #[.int .i64 4, .int .i64 16, .int .i64 c2, .int .i64 c3, .int .i64 c4, .int .i64 c5, .int .i64 c6, .int .i64 c7, .int .i64 c8] 49)) B c)
  go_enter Try.func32, Try.ntmps32
  go_wp2_with (first
    | (go_at_call 39; ((with_reducible refine ZR.out.mono ?_); rintro e w1 ⟨rfl, b1⟩; have HB0 := Lib.hid b1; have R1 := keep_bel b1 RO.out; have R2 := keep_bel b1 RC.out; have f0 : w1.cell? ⟨w.heap.size, 0, none⟩ = some (.int .u8 5) := (cell_of_row _ _ 0 _ 42 (0, 0) R1).trans rfl; have f1 : w1.cell? ⟨w.heap.size, 1, none⟩ = some (.string ⟨#[]⟩) := (cell_of_row _ _ 1 _ 42 (0, 0) R1).trans rfl; have f2 : w1.cell? ⟨w.heap.size, 2, none⟩ = some (.string ⟨#[]⟩) := (cell_of_row _ _ 2 _ 42 (0, 0) R1).trans rfl; have f3 : w1.cell? ⟨w.heap.size, 3, none⟩ = some (.int .i64 1) := (cell_of_row _ _ 3 _ 42 (0, 0) R1).trans rfl; have f4 : w1.cell? ⟨w.heap.size, 4, none⟩ = some (.slice B 0 c) := (cell_of_row _ _ 4 _ 42 (0, 0) R1).trans rfl; have e0 : w1.cell? ⟨w.heap.size + 1, 0, none⟩ = some (.int .i64 4) := (cell_of_row _ _ 0 _ 49 (0, 0) R2).trans rfl; have e1 : w1.cell? ⟨w.heap.size + 1, 1, none⟩ = some (.int .i64 16) := (cell_of_row _ _ 1 _ 49 (0, 0) R2).trans rfl; have e2 : w1.cell? ⟨w.heap.size + 1, 2, none⟩ = some (.int .i64 c2) := (cell_of_row _ _ 2 _ 49 (0, 0) R2).trans rfl; have e3 : w1.cell? ⟨w.heap.size + 1, 3, none⟩ = some (.int .i64 c3) := (cell_of_row _ _ 3 _ 49 (0, 0) R2).trans rfl; have e4 : w1.cell? ⟨w.heap.size + 1, 4, none⟩ = some (.int .i64 c4) := (cell_of_row _ _ 4 _ 49 (0, 0) R2).trans rfl; have e5 : w1.cell? ⟨w.heap.size + 1, 5, none⟩ = some (.int .i64 c5) := (cell_of_row _ _ 5 _ 49 (0, 0) R2).trans rfl; have e6 : w1.cell? ⟨w.heap.size + 1, 6, none⟩ = some (.int .i64 c6) := (cell_of_row _ _ 6 _ 49 (0, 0) R2).trans rfl; have e7 : w1.cell? ⟨w.heap.size + 1, 7, none⟩ = some (.int .i64 c7) := (cell_of_row _ _ 7 _ 49 (0, 0) R2).trans rfl; have e8 : w1.cell? ⟨w.heap.size + 1, 8, none⟩ = some (.int .i64 c8) := (cell_of_row _ _ 8 _ 49 (0, 0) R2).trans rfl; clear b1 R1 R2))
    | fail)
  go_loopw [5] (fun iv wr => ∃ k : Nat, k ≤ 0 ∧ iv = .int .i64 k ∧ Below ((w.alloc (.cells #[.int .u8 5, .string ⟨#[]⟩, .string ⟨#[]⟩, .int .i64 1, .slice B 0 c] 42)).alloc (.cells #[.int .i64 4, .int .i64 16, .int .i64 c2, .int .i64 c3, .int .i64 c4, .int .i64 c5, .int .i64 c6, .int .i64 c7, .int .i64 c8] 49)).heap.size ((w.alloc (.cells #[.int .u8 5, .string ⟨#[]⟩, .string ⟨#[]⟩, .int .i64 1, .slice B 0 c] 42)).alloc (.cells #[.int .i64 4, .int .i64 16, .int .i64 c2, .int .i64 c3, .int .i64 c4, .int .i64 c5, .int .i64 c6, .int .i64 c7, .int .i64 c8] 49)) wr) (fun i _ => 0 - (intOf i).toNat)
  case atStart => exact ⟨0, by omega, rfl, HB0.out⟩
  case round =>
    obtain ⟨k, hk, rfl, hb1⟩ := hrel
    have HB1 := Lib.hid hb1
    clear f0 f1 f2 f3 f4 e0 e1 e2 e3 e4 e5 e6 e7 e8
    have R1 := keep_bel hb1 RO.out
    have R2 := keep_bel hb1 RC.out
    have f0 : wr.cell? ⟨w.heap.size, 0, none⟩ = some (.int .u8 5) := (cell_of_row _ _ 0 _ 42 (0, 0) R1).trans rfl
    have f1 : wr.cell? ⟨w.heap.size, 1, none⟩ = some (.string ⟨#[]⟩) := (cell_of_row _ _ 1 _ 42 (0, 0) R1).trans rfl
    have f2 : wr.cell? ⟨w.heap.size, 2, none⟩ = some (.string ⟨#[]⟩) := (cell_of_row _ _ 2 _ 42 (0, 0) R1).trans rfl
    have f3 : wr.cell? ⟨w.heap.size, 3, none⟩ = some (.int .i64 1) := (cell_of_row _ _ 3 _ 42 (0, 0) R1).trans rfl
    have f4 : wr.cell? ⟨w.heap.size, 4, none⟩ = some (.slice B 0 c) := (cell_of_row _ _ 4 _ 42 (0, 0) R1).trans rfl
    have e0 : wr.cell? ⟨w.heap.size + 1, 0, none⟩ = some (.int .i64 4) := (cell_of_row _ _ 0 _ 49 (0, 0) R2).trans rfl
    have e1 : wr.cell? ⟨w.heap.size + 1, 1, none⟩ = some (.int .i64 16) := (cell_of_row _ _ 1 _ 49 (0, 0) R2).trans rfl
    have e2 : wr.cell? ⟨w.heap.size + 1, 2, none⟩ = some (.int .i64 c2) := (cell_of_row _ _ 2 _ 49 (0, 0) R2).trans rfl
    have e3 : wr.cell? ⟨w.heap.size + 1, 3, none⟩ = some (.int .i64 c3) := (cell_of_row _ _ 3 _ 49 (0, 0) R2).trans rfl
    have e4 : wr.cell? ⟨w.heap.size + 1, 4, none⟩ = some (.int .i64 c4) := (cell_of_row _ _ 4 _ 49 (0, 0) R2).trans rfl
    have e5 : wr.cell? ⟨w.heap.size + 1, 5, none⟩ = some (.int .i64 c5) := (cell_of_row _ _ 5 _ 49 (0, 0) R2).trans rfl
    have e6 : wr.cell? ⟨w.heap.size + 1, 6, none⟩ = some (.int .i64 c6) := (cell_of_row _ _ 6 _ 49 (0, 0) R2).trans rfl
    have e7 : wr.cell? ⟨w.heap.size + 1, 7, none⟩ = some (.int .i64 c7) := (cell_of_row _ _ 7 _ 49 (0, 0) R2).trans rfl
    have e8 : wr.cell? ⟨w.heap.size + 1, 8, none⟩ = some (.int .i64 c8) := (cell_of_row _ _ 8 _ 49 (0, 0) R2).trans rfl
    clear R1 R2 hb1
    by_cases h8 : k < 0
    · 
      omega
    · have hk1 : ¬ (k : Int) < (0 : Int) := by omega
      clear hk h8
      go_wp2_with fail
      clear hk1
      go_loopw [6, 7] (fun iv _ wr => ∃ k : Nat, k ≤ 0 ∧ iv = .int .i64 k ∧ Below ((w.alloc (.cells #[.int .u8 5, .string ⟨#[]⟩, .string ⟨#[]⟩, .int .i64 1, .slice B 0 c] 42)).alloc (.cells #[.int .i64 4, .int .i64 16, .int .i64 c2, .int .i64 c3, .int .i64 c4, .int .i64 c5, .int .i64 c6, .int .i64 c7, .int .i64 c8] 49)).heap.size ((w.alloc (.cells #[.int .u8 5, .string ⟨#[]⟩, .string ⟨#[]⟩, .int .i64 1, .slice B 0 c] 42)).alloc (.cells #[.int .i64 4, .int .i64 16, .int .i64 c2, .int .i64 c3, .int .i64 c4, .int .i64 c5, .int .i64 c6, .int .i64 c7, .int .i64 c8] 49)) wr) (fun i _ _ => 0 - (intOf i).toNat)
      case atStart => exact ⟨0, by omega, rfl, HB1.out⟩
      case round =>
        clear HB1
        clear f0 f1 f2 f3 f4 e0 e1 e2 e3 e4 e5 e6 e7 e8
        obtain ⟨k2, hk, rfl, hb2⟩ := hrel
        have HB2 := Lib.hid hb2
        have R1 := keep_bel hb2 RO.out
        have R2 := keep_bel hb2 RC.out
        have f0 : wr.cell? ⟨w.heap.size, 0, none⟩ = some (.int .u8 5) := (cell_of_row _ _ 0 _ 42 (0, 0) R1).trans rfl
        have f1 : wr.cell? ⟨w.heap.size, 1, none⟩ = some (.string ⟨#[]⟩) := (cell_of_row _ _ 1 _ 42 (0, 0) R1).trans rfl
        have f2 : wr.cell? ⟨w.heap.size, 2, none⟩ = some (.string ⟨#[]⟩) := (cell_of_row _ _ 2 _ 42 (0, 0) R1).trans rfl
        have f3 : wr.cell? ⟨w.heap.size, 3, none⟩ = some (.int .i64 1) := (cell_of_row _ _ 3 _ 42 (0, 0) R1).trans rfl
        have f4 : wr.cell? ⟨w.heap.size, 4, none⟩ = some (.slice B 0 c) := (cell_of_row _ _ 4 _ 42 (0, 0) R1).trans rfl
        have e0 : wr.cell? ⟨w.heap.size + 1, 0, none⟩ = some (.int .i64 4) := (cell_of_row _ _ 0 _ 49 (0, 0) R2).trans rfl
        have e1 : wr.cell? ⟨w.heap.size + 1, 1, none⟩ = some (.int .i64 16) := (cell_of_row _ _ 1 _ 49 (0, 0) R2).trans rfl
        have e2 : wr.cell? ⟨w.heap.size + 1, 2, none⟩ = some (.int .i64 c2) := (cell_of_row _ _ 2 _ 49 (0, 0) R2).trans rfl
        have e3 : wr.cell? ⟨w.heap.size + 1, 3, none⟩ = some (.int .i64 c3) := (cell_of_row _ _ 3 _ 49 (0, 0) R2).trans rfl
        have e4 : wr.cell? ⟨w.heap.size + 1, 4, none⟩ = some (.int .i64 c4) := (cell_of_row _ _ 4 _ 49 (0, 0) R2).trans rfl
        have e5 : wr.cell? ⟨w.heap.size + 1, 5, none⟩ = some (.int .i64 c5) := (cell_of_row _ _ 5 _ 49 (0, 0) R2).trans rfl
        have e6 : wr.cell? ⟨w.heap.size + 1, 6, none⟩ = some (.int .i64 c6) := (cell_of_row _ _ 6 _ 49 (0, 0) R2).trans rfl
        have e7 : wr.cell? ⟨w.heap.size + 1, 7, none⟩ = some (.int .i64 c7) := (cell_of_row _ _ 7 _ 49 (0, 0) R2).trans rfl
        have e8 : wr.cell? ⟨w.heap.size + 1, 8, none⟩ = some (.int .i64 c8) := (cell_of_row _ _ 8 _ 49 (0, 0) R2).trans rfl
        clear R1 R2 hb2
        by_cases h8 : k2 < 0
        · 
          omega
        · have hk1 : ¬ (k2 : Int) < (0 : Int) := by omega
          clear hk h8
          go_wp2_with fail
          go_ret
          exact ⟨rfl, HBV.out.trans (HB2.out.mono HBV.out.size)⟩
set_option maxHeartbeats 4000000 in
set_option maxRecDepth 4000 in
theorem ask_get (B : Option Addr) (c : Nat) (y : ByteArray) (h1 : ¬ y.toList = []) (h2 : y.size ≤ 2) : Calls Try.prog 32 #[.agg #[.int .u8 1, .string y, .string ⟨#[]⟩, .int .i64 0, .slice B 0 c], .agg #[.int .i64 4, .int .i64 16, .int .i64 c2, .int .i64 c3, .int .i64 c4, .int .i64 c5, .int .i64 c6, .int .i64 c7, .int .i64 c8]] w fun e w' => e = .returned (.int .i64 0) ∧ Below w.heap.size w w' := by
  have h3 : ¬ (4 : Int) < (y.size : Int) := by omega
  have h4 : y.toList.isEmpty = false := by simpa using h1
  have RO : Hid (((w.alloc (.cells #[.int .u8 1, .string y, .string ⟨#[]⟩, .int .i64 0, .slice B 0 c] 42)).alloc (.cells #[.int .i64 4, .int .i64 16, .int .i64 c2, .int .i64 c3, .int .i64 c4, .int .i64 c5, .int .i64 c6, .int .i64 c7, .int .i64 c8] 49)).heap[w.heap.size]? = some (.cells #[.int .u8 1, .string y, .string ⟨#[]⟩, .int .i64 0, .slice B 0 c] 42 (0, 0))) := Lib.hid (keep_bel (alb _ _) (heap_alloc_new w _))
  have RC : Hid (((w.alloc (.cells #[.int .u8 1, .string y, .string ⟨#[]⟩, .int .i64 0, .slice B 0 c] 42)).alloc (.cells #[.int .i64 4, .int .i64 16, .int .i64 c2, .int .i64 c3, .int .i64 c4, .int .i64 c5, .int .i64 c6, .int .i64 c7, .int .i64 c8] 49)).heap[w.heap.size + 1]? = some (.cells #[.int .i64 4, .int .i64 16, .int .i64 c2, .int .i64 c3, .int .i64 c4, .int .i64 c5, .int .i64 c6, .int .i64 c7, .int .i64 c8] 49 (0, 0))) := Lib.hid (by have h := heap_alloc_new (w.alloc (.cells #[.int .u8 1, .string y, .string ⟨#[]⟩, .int .i64 0, .slice B 0 c] 42)) (.cells #[.int .i64 4, .int .i64 16, .int .i64 c2, .int .i64 c3, .int .i64 c4, .int .i64 c5, .int .i64 c6, .int .i64 c7, .int .i64 c8] 49); rw [World.size_alloc] at h; exact h)
  have HBV : Hid (Below w.heap.size w ((w.alloc (.cells #[.int .u8 1, .string y, .string ⟨#[]⟩, .int .i64 0, .slice B 0 c] 42)).alloc (.cells #[.int .i64 4, .int .i64 16, .int .i64 c2, .int .i64 c3, .int .i64 c4, .int .i64 c5, .int .i64 c6, .int .i64 c7, .int .i64 c8] 49))) := Lib.hid (by go_grown)
  have ZR := Lib.hid (zero_get ((w.alloc (.cells #[.int .u8 1, .string y, .string ⟨#[]⟩, .int .i64 0, .slice B 0 c] 42)).alloc (.cells #[.int .i64 4, .int .i64 16, .int .i64 c2, .int .i64 c3, .int .i64 c4, .int .i64 c5, .int .i64 c6, .int .i64 c7, .int .i64 c8] 49)) B c y)
  go_enter Try.func32, Try.ntmps32
  go_wp2_with (first
    | (go_at_call 39; ((with_reducible refine ZR.out.mono ?_); rintro e w1 ⟨rfl, b1⟩; have HB0 := Lib.hid b1; have R1 := keep_bel b1 RO.out; have R2 := keep_bel b1 RC.out; have f0 : w1.cell? ⟨w.heap.size, 0, none⟩ = some (.int .u8 1) := (cell_of_row _ _ 0 _ 42 (0, 0) R1).trans rfl; have f1 : w1.cell? ⟨w.heap.size, 1, none⟩ = some (.string y) := (cell_of_row _ _ 1 _ 42 (0, 0) R1).trans rfl; have f2 : w1.cell? ⟨w.heap.size, 2, none⟩ = some (.string ⟨#[]⟩) := (cell_of_row _ _ 2 _ 42 (0, 0) R1).trans rfl; have f3 : w1.cell? ⟨w.heap.size, 3, none⟩ = some (.int .i64 0) := (cell_of_row _ _ 3 _ 42 (0, 0) R1).trans rfl; have f4 : w1.cell? ⟨w.heap.size, 4, none⟩ = some (.slice B 0 c) := (cell_of_row _ _ 4 _ 42 (0, 0) R1).trans rfl; have e0 : w1.cell? ⟨w.heap.size + 1, 0, none⟩ = some (.int .i64 4) := (cell_of_row _ _ 0 _ 49 (0, 0) R2).trans rfl; have e1 : w1.cell? ⟨w.heap.size + 1, 1, none⟩ = some (.int .i64 16) := (cell_of_row _ _ 1 _ 49 (0, 0) R2).trans rfl; have e2 : w1.cell? ⟨w.heap.size + 1, 2, none⟩ = some (.int .i64 c2) := (cell_of_row _ _ 2 _ 49 (0, 0) R2).trans rfl; have e3 : w1.cell? ⟨w.heap.size + 1, 3, none⟩ = some (.int .i64 c3) := (cell_of_row _ _ 3 _ 49 (0, 0) R2).trans rfl; have e4 : w1.cell? ⟨w.heap.size + 1, 4, none⟩ = some (.int .i64 c4) := (cell_of_row _ _ 4 _ 49 (0, 0) R2).trans rfl; have e5 : w1.cell? ⟨w.heap.size + 1, 5, none⟩ = some (.int .i64 c5) := (cell_of_row _ _ 5 _ 49 (0, 0) R2).trans rfl; have e6 : w1.cell? ⟨w.heap.size + 1, 6, none⟩ = some (.int .i64 c6) := (cell_of_row _ _ 6 _ 49 (0, 0) R2).trans rfl; have e7 : w1.cell? ⟨w.heap.size + 1, 7, none⟩ = some (.int .i64 c7) := (cell_of_row _ _ 7 _ 49 (0, 0) R2).trans rfl; have e8 : w1.cell? ⟨w.heap.size + 1, 8, none⟩ = some (.int .i64 c8) := (cell_of_row _ _ 8 _ 49 (0, 0) R2).trans rfl; clear b1 R1 R2))
    | fail)
  go_loopw [5] (fun iv wr => ∃ k : Nat, k ≤ 0 ∧ iv = .int .i64 k ∧ Below ((w.alloc (.cells #[.int .u8 1, .string y, .string ⟨#[]⟩, .int .i64 0, .slice B 0 c] 42)).alloc (.cells #[.int .i64 4, .int .i64 16, .int .i64 c2, .int .i64 c3, .int .i64 c4, .int .i64 c5, .int .i64 c6, .int .i64 c7, .int .i64 c8] 49)).heap.size ((w.alloc (.cells #[.int .u8 1, .string y, .string ⟨#[]⟩, .int .i64 0, .slice B 0 c] 42)).alloc (.cells #[.int .i64 4, .int .i64 16, .int .i64 c2, .int .i64 c3, .int .i64 c4, .int .i64 c5, .int .i64 c6, .int .i64 c7, .int .i64 c8] 49)) wr) (fun i _ => 0 - (intOf i).toNat)
  case atStart => exact ⟨0, by omega, rfl, HB0.out⟩
  case round =>
    obtain ⟨k, hk, rfl, hb1⟩ := hrel
    have HB1 := Lib.hid hb1
    clear f0 f1 f2 f3 f4 e0 e1 e2 e3 e4 e5 e6 e7 e8
    have R1 := keep_bel hb1 RO.out
    have R2 := keep_bel hb1 RC.out
    have f0 : wr.cell? ⟨w.heap.size, 0, none⟩ = some (.int .u8 1) := (cell_of_row _ _ 0 _ 42 (0, 0) R1).trans rfl
    have f1 : wr.cell? ⟨w.heap.size, 1, none⟩ = some (.string y) := (cell_of_row _ _ 1 _ 42 (0, 0) R1).trans rfl
    have f2 : wr.cell? ⟨w.heap.size, 2, none⟩ = some (.string ⟨#[]⟩) := (cell_of_row _ _ 2 _ 42 (0, 0) R1).trans rfl
    have f3 : wr.cell? ⟨w.heap.size, 3, none⟩ = some (.int .i64 0) := (cell_of_row _ _ 3 _ 42 (0, 0) R1).trans rfl
    have f4 : wr.cell? ⟨w.heap.size, 4, none⟩ = some (.slice B 0 c) := (cell_of_row _ _ 4 _ 42 (0, 0) R1).trans rfl
    have e0 : wr.cell? ⟨w.heap.size + 1, 0, none⟩ = some (.int .i64 4) := (cell_of_row _ _ 0 _ 49 (0, 0) R2).trans rfl
    have e1 : wr.cell? ⟨w.heap.size + 1, 1, none⟩ = some (.int .i64 16) := (cell_of_row _ _ 1 _ 49 (0, 0) R2).trans rfl
    have e2 : wr.cell? ⟨w.heap.size + 1, 2, none⟩ = some (.int .i64 c2) := (cell_of_row _ _ 2 _ 49 (0, 0) R2).trans rfl
    have e3 : wr.cell? ⟨w.heap.size + 1, 3, none⟩ = some (.int .i64 c3) := (cell_of_row _ _ 3 _ 49 (0, 0) R2).trans rfl
    have e4 : wr.cell? ⟨w.heap.size + 1, 4, none⟩ = some (.int .i64 c4) := (cell_of_row _ _ 4 _ 49 (0, 0) R2).trans rfl
    have e5 : wr.cell? ⟨w.heap.size + 1, 5, none⟩ = some (.int .i64 c5) := (cell_of_row _ _ 5 _ 49 (0, 0) R2).trans rfl
    have e6 : wr.cell? ⟨w.heap.size + 1, 6, none⟩ = some (.int .i64 c6) := (cell_of_row _ _ 6 _ 49 (0, 0) R2).trans rfl
    have e7 : wr.cell? ⟨w.heap.size + 1, 7, none⟩ = some (.int .i64 c7) := (cell_of_row _ _ 7 _ 49 (0, 0) R2).trans rfl
    have e8 : wr.cell? ⟨w.heap.size + 1, 8, none⟩ = some (.int .i64 c8) := (cell_of_row _ _ 8 _ 49 (0, 0) R2).trans rfl
    clear R1 R2 hb1
    by_cases h8 : k < 0
    · 
      omega
    · have hk1 : ¬ (k : Int) < (0 : Int) := by omega
      clear hk h8
      go_wp2_with fail
      clear hk1
      go_loopw [6, 7] (fun iv _ wr => ∃ k : Nat, k ≤ 0 ∧ iv = .int .i64 k ∧ Below ((w.alloc (.cells #[.int .u8 1, .string y, .string ⟨#[]⟩, .int .i64 0, .slice B 0 c] 42)).alloc (.cells #[.int .i64 4, .int .i64 16, .int .i64 c2, .int .i64 c3, .int .i64 c4, .int .i64 c5, .int .i64 c6, .int .i64 c7, .int .i64 c8] 49)).heap.size ((w.alloc (.cells #[.int .u8 1, .string y, .string ⟨#[]⟩, .int .i64 0, .slice B 0 c] 42)).alloc (.cells #[.int .i64 4, .int .i64 16, .int .i64 c2, .int .i64 c3, .int .i64 c4, .int .i64 c5, .int .i64 c6, .int .i64 c7, .int .i64 c8] 49)) wr) (fun i _ _ => 0 - (intOf i).toNat)
      case atStart => exact ⟨0, by omega, rfl, HB1.out⟩
      case round =>
        clear HB1
        clear f0 f1 f2 f3 f4 e0 e1 e2 e3 e4 e5 e6 e7 e8
        obtain ⟨k2, hk, rfl, hb2⟩ := hrel
        have HB2 := Lib.hid hb2
        have R1 := keep_bel hb2 RO.out
        have R2 := keep_bel hb2 RC.out
        have f0 : wr.cell? ⟨w.heap.size, 0, none⟩ = some (.int .u8 1) := (cell_of_row _ _ 0 _ 42 (0, 0) R1).trans rfl
        have f1 : wr.cell? ⟨w.heap.size, 1, none⟩ = some (.string y) := (cell_of_row _ _ 1 _ 42 (0, 0) R1).trans rfl
        have f2 : wr.cell? ⟨w.heap.size, 2, none⟩ = some (.string ⟨#[]⟩) := (cell_of_row _ _ 2 _ 42 (0, 0) R1).trans rfl
        have f3 : wr.cell? ⟨w.heap.size, 3, none⟩ = some (.int .i64 0) := (cell_of_row _ _ 3 _ 42 (0, 0) R1).trans rfl
        have f4 : wr.cell? ⟨w.heap.size, 4, none⟩ = some (.slice B 0 c) := (cell_of_row _ _ 4 _ 42 (0, 0) R1).trans rfl
        have e0 : wr.cell? ⟨w.heap.size + 1, 0, none⟩ = some (.int .i64 4) := (cell_of_row _ _ 0 _ 49 (0, 0) R2).trans rfl
        have e1 : wr.cell? ⟨w.heap.size + 1, 1, none⟩ = some (.int .i64 16) := (cell_of_row _ _ 1 _ 49 (0, 0) R2).trans rfl
        have e2 : wr.cell? ⟨w.heap.size + 1, 2, none⟩ = some (.int .i64 c2) := (cell_of_row _ _ 2 _ 49 (0, 0) R2).trans rfl
        have e3 : wr.cell? ⟨w.heap.size + 1, 3, none⟩ = some (.int .i64 c3) := (cell_of_row _ _ 3 _ 49 (0, 0) R2).trans rfl
        have e4 : wr.cell? ⟨w.heap.size + 1, 4, none⟩ = some (.int .i64 c4) := (cell_of_row _ _ 4 _ 49 (0, 0) R2).trans rfl
        have e5 : wr.cell? ⟨w.heap.size + 1, 5, none⟩ = some (.int .i64 c5) := (cell_of_row _ _ 5 _ 49 (0, 0) R2).trans rfl
        have e6 : wr.cell? ⟨w.heap.size + 1, 6, none⟩ = some (.int .i64 c6) := (cell_of_row _ _ 6 _ 49 (0, 0) R2).trans rfl
        have e7 : wr.cell? ⟨w.heap.size + 1, 7, none⟩ = some (.int .i64 c7) := (cell_of_row _ _ 7 _ 49 (0, 0) R2).trans rfl
        have e8 : wr.cell? ⟨w.heap.size + 1, 8, none⟩ = some (.int .i64 c8) := (cell_of_row _ _ 8 _ 49 (0, 0) R2).trans rfl
        clear R1 R2 hb2
        by_cases h8 : k2 < 0
        · 
          omega
        · have hk1 : ¬ (k2 : Int) < (0 : Int) := by omega
          clear hk h8
          go_wp2_with fail
          go_ret
          exact ⟨rfl, HBV.out.trans (HB2.out.mono HBV.out.size)⟩
set_option maxHeartbeats 4000000 in
set_option maxRecDepth 4000 in
theorem ask_look (B : Option Addr) (c : Nat) (y : ByteArray) (n : Int) (h2 : y.size ≤ 2) (h5 : 1 ≤ n ∧ n ≤ 3) (h6 : 3 ≤ c8) : Calls Try.prog 32 #[.agg #[.int .u8 3, .string y, .string ⟨#[]⟩, .int .i64 n, .slice B 0 c], .agg #[.int .i64 4, .int .i64 16, .int .i64 c2, .int .i64 c3, .int .i64 c4, .int .i64 c5, .int .i64 c6, .int .i64 c7, .int .i64 c8]] w fun e w' => e = .returned (.int .i64 0) ∧ Below w.heap.size w w' := by
  have h3 : ¬ (4 : Int) < (y.size : Int) := by omega
  have h7 : ¬ n < 1 := by omega
  have h8' : ¬ c8 < n := by omega
  have RO : Hid (((w.alloc (.cells #[.int .u8 3, .string y, .string ⟨#[]⟩, .int .i64 n, .slice B 0 c] 42)).alloc (.cells #[.int .i64 4, .int .i64 16, .int .i64 c2, .int .i64 c3, .int .i64 c4, .int .i64 c5, .int .i64 c6, .int .i64 c7, .int .i64 c8] 49)).heap[w.heap.size]? = some (.cells #[.int .u8 3, .string y, .string ⟨#[]⟩, .int .i64 n, .slice B 0 c] 42 (0, 0))) := Lib.hid (keep_bel (alb _ _) (heap_alloc_new w _))
  have RC : Hid (((w.alloc (.cells #[.int .u8 3, .string y, .string ⟨#[]⟩, .int .i64 n, .slice B 0 c] 42)).alloc (.cells #[.int .i64 4, .int .i64 16, .int .i64 c2, .int .i64 c3, .int .i64 c4, .int .i64 c5, .int .i64 c6, .int .i64 c7, .int .i64 c8] 49)).heap[w.heap.size + 1]? = some (.cells #[.int .i64 4, .int .i64 16, .int .i64 c2, .int .i64 c3, .int .i64 c4, .int .i64 c5, .int .i64 c6, .int .i64 c7, .int .i64 c8] 49 (0, 0))) := Lib.hid (by have h := heap_alloc_new (w.alloc (.cells #[.int .u8 3, .string y, .string ⟨#[]⟩, .int .i64 n, .slice B 0 c] 42)) (.cells #[.int .i64 4, .int .i64 16, .int .i64 c2, .int .i64 c3, .int .i64 c4, .int .i64 c5, .int .i64 c6, .int .i64 c7, .int .i64 c8] 49); rw [World.size_alloc] at h; exact h)
  have HBV : Hid (Below w.heap.size w ((w.alloc (.cells #[.int .u8 3, .string y, .string ⟨#[]⟩, .int .i64 n, .slice B 0 c] 42)).alloc (.cells #[.int .i64 4, .int .i64 16, .int .i64 c2, .int .i64 c3, .int .i64 c4, .int .i64 c5, .int .i64 c6, .int .i64 c7, .int .i64 c8] 49))) := Lib.hid (by go_grown)
  have ZR := Lib.hid (zero_look ((w.alloc (.cells #[.int .u8 3, .string y, .string ⟨#[]⟩, .int .i64 n, .slice B 0 c] 42)).alloc (.cells #[.int .i64 4, .int .i64 16, .int .i64 c2, .int .i64 c3, .int .i64 c4, .int .i64 c5, .int .i64 c6, .int .i64 c7, .int .i64 c8] 49)) B c y n)
  go_enter Try.func32, Try.ntmps32
  go_wp2_with (first
    | (go_at_call 39; ((with_reducible refine ZR.out.mono ?_); rintro e w1 ⟨rfl, b1⟩; have HB0 := Lib.hid b1; have R1 := keep_bel b1 RO.out; have R2 := keep_bel b1 RC.out; have f0 : w1.cell? ⟨w.heap.size, 0, none⟩ = some (.int .u8 3) := (cell_of_row _ _ 0 _ 42 (0, 0) R1).trans rfl; have f1 : w1.cell? ⟨w.heap.size, 1, none⟩ = some (.string y) := (cell_of_row _ _ 1 _ 42 (0, 0) R1).trans rfl; have f2 : w1.cell? ⟨w.heap.size, 2, none⟩ = some (.string ⟨#[]⟩) := (cell_of_row _ _ 2 _ 42 (0, 0) R1).trans rfl; have f3 : w1.cell? ⟨w.heap.size, 3, none⟩ = some (.int .i64 n) := (cell_of_row _ _ 3 _ 42 (0, 0) R1).trans rfl; have f4 : w1.cell? ⟨w.heap.size, 4, none⟩ = some (.slice B 0 c) := (cell_of_row _ _ 4 _ 42 (0, 0) R1).trans rfl; have e0 : w1.cell? ⟨w.heap.size + 1, 0, none⟩ = some (.int .i64 4) := (cell_of_row _ _ 0 _ 49 (0, 0) R2).trans rfl; have e1 : w1.cell? ⟨w.heap.size + 1, 1, none⟩ = some (.int .i64 16) := (cell_of_row _ _ 1 _ 49 (0, 0) R2).trans rfl; have e2 : w1.cell? ⟨w.heap.size + 1, 2, none⟩ = some (.int .i64 c2) := (cell_of_row _ _ 2 _ 49 (0, 0) R2).trans rfl; have e3 : w1.cell? ⟨w.heap.size + 1, 3, none⟩ = some (.int .i64 c3) := (cell_of_row _ _ 3 _ 49 (0, 0) R2).trans rfl; have e4 : w1.cell? ⟨w.heap.size + 1, 4, none⟩ = some (.int .i64 c4) := (cell_of_row _ _ 4 _ 49 (0, 0) R2).trans rfl; have e5 : w1.cell? ⟨w.heap.size + 1, 5, none⟩ = some (.int .i64 c5) := (cell_of_row _ _ 5 _ 49 (0, 0) R2).trans rfl; have e6 : w1.cell? ⟨w.heap.size + 1, 6, none⟩ = some (.int .i64 c6) := (cell_of_row _ _ 6 _ 49 (0, 0) R2).trans rfl; have e7 : w1.cell? ⟨w.heap.size + 1, 7, none⟩ = some (.int .i64 c7) := (cell_of_row _ _ 7 _ 49 (0, 0) R2).trans rfl; have e8 : w1.cell? ⟨w.heap.size + 1, 8, none⟩ = some (.int .i64 c8) := (cell_of_row _ _ 8 _ 49 (0, 0) R2).trans rfl; clear b1 R1 R2))
    | fail)
  go_loopw [5] (fun iv wr => ∃ k : Nat, k ≤ 0 ∧ iv = .int .i64 k ∧ Below ((w.alloc (.cells #[.int .u8 3, .string y, .string ⟨#[]⟩, .int .i64 n, .slice B 0 c] 42)).alloc (.cells #[.int .i64 4, .int .i64 16, .int .i64 c2, .int .i64 c3, .int .i64 c4, .int .i64 c5, .int .i64 c6, .int .i64 c7, .int .i64 c8] 49)).heap.size ((w.alloc (.cells #[.int .u8 3, .string y, .string ⟨#[]⟩, .int .i64 n, .slice B 0 c] 42)).alloc (.cells #[.int .i64 4, .int .i64 16, .int .i64 c2, .int .i64 c3, .int .i64 c4, .int .i64 c5, .int .i64 c6, .int .i64 c7, .int .i64 c8] 49)) wr) (fun i _ => 0 - (intOf i).toNat)
  case atStart => exact ⟨0, by omega, rfl, HB0.out⟩
  case round =>
    obtain ⟨k, hk, rfl, hb1⟩ := hrel
    have HB1 := Lib.hid hb1
    clear f0 f1 f2 f3 f4 e0 e1 e2 e3 e4 e5 e6 e7 e8
    have R1 := keep_bel hb1 RO.out
    have R2 := keep_bel hb1 RC.out
    have f0 : wr.cell? ⟨w.heap.size, 0, none⟩ = some (.int .u8 3) := (cell_of_row _ _ 0 _ 42 (0, 0) R1).trans rfl
    have f1 : wr.cell? ⟨w.heap.size, 1, none⟩ = some (.string y) := (cell_of_row _ _ 1 _ 42 (0, 0) R1).trans rfl
    have f2 : wr.cell? ⟨w.heap.size, 2, none⟩ = some (.string ⟨#[]⟩) := (cell_of_row _ _ 2 _ 42 (0, 0) R1).trans rfl
    have f3 : wr.cell? ⟨w.heap.size, 3, none⟩ = some (.int .i64 n) := (cell_of_row _ _ 3 _ 42 (0, 0) R1).trans rfl
    have f4 : wr.cell? ⟨w.heap.size, 4, none⟩ = some (.slice B 0 c) := (cell_of_row _ _ 4 _ 42 (0, 0) R1).trans rfl
    have e0 : wr.cell? ⟨w.heap.size + 1, 0, none⟩ = some (.int .i64 4) := (cell_of_row _ _ 0 _ 49 (0, 0) R2).trans rfl
    have e1 : wr.cell? ⟨w.heap.size + 1, 1, none⟩ = some (.int .i64 16) := (cell_of_row _ _ 1 _ 49 (0, 0) R2).trans rfl
    have e2 : wr.cell? ⟨w.heap.size + 1, 2, none⟩ = some (.int .i64 c2) := (cell_of_row _ _ 2 _ 49 (0, 0) R2).trans rfl
    have e3 : wr.cell? ⟨w.heap.size + 1, 3, none⟩ = some (.int .i64 c3) := (cell_of_row _ _ 3 _ 49 (0, 0) R2).trans rfl
    have e4 : wr.cell? ⟨w.heap.size + 1, 4, none⟩ = some (.int .i64 c4) := (cell_of_row _ _ 4 _ 49 (0, 0) R2).trans rfl
    have e5 : wr.cell? ⟨w.heap.size + 1, 5, none⟩ = some (.int .i64 c5) := (cell_of_row _ _ 5 _ 49 (0, 0) R2).trans rfl
    have e6 : wr.cell? ⟨w.heap.size + 1, 6, none⟩ = some (.int .i64 c6) := (cell_of_row _ _ 6 _ 49 (0, 0) R2).trans rfl
    have e7 : wr.cell? ⟨w.heap.size + 1, 7, none⟩ = some (.int .i64 c7) := (cell_of_row _ _ 7 _ 49 (0, 0) R2).trans rfl
    have e8 : wr.cell? ⟨w.heap.size + 1, 8, none⟩ = some (.int .i64 c8) := (cell_of_row _ _ 8 _ 49 (0, 0) R2).trans rfl
    clear R1 R2 hb1
    by_cases h8 : k < 0
    · 
      omega
    · have hk1 : ¬ (k : Int) < (0 : Int) := by omega
      clear hk h8
      go_wp2_with fail
      clear hk1
      go_loopw [6, 7] (fun iv _ wr => ∃ k : Nat, k ≤ 0 ∧ iv = .int .i64 k ∧ Below ((w.alloc (.cells #[.int .u8 3, .string y, .string ⟨#[]⟩, .int .i64 n, .slice B 0 c] 42)).alloc (.cells #[.int .i64 4, .int .i64 16, .int .i64 c2, .int .i64 c3, .int .i64 c4, .int .i64 c5, .int .i64 c6, .int .i64 c7, .int .i64 c8] 49)).heap.size ((w.alloc (.cells #[.int .u8 3, .string y, .string ⟨#[]⟩, .int .i64 n, .slice B 0 c] 42)).alloc (.cells #[.int .i64 4, .int .i64 16, .int .i64 c2, .int .i64 c3, .int .i64 c4, .int .i64 c5, .int .i64 c6, .int .i64 c7, .int .i64 c8] 49)) wr) (fun i _ _ => 0 - (intOf i).toNat)
      case atStart => exact ⟨0, by omega, rfl, HB1.out⟩
      case round =>
        clear HB1
        clear f0 f1 f2 f3 f4 e0 e1 e2 e3 e4 e5 e6 e7 e8
        obtain ⟨k2, hk, rfl, hb2⟩ := hrel
        have HB2 := Lib.hid hb2
        have R1 := keep_bel hb2 RO.out
        have R2 := keep_bel hb2 RC.out
        have f0 : wr.cell? ⟨w.heap.size, 0, none⟩ = some (.int .u8 3) := (cell_of_row _ _ 0 _ 42 (0, 0) R1).trans rfl
        have f1 : wr.cell? ⟨w.heap.size, 1, none⟩ = some (.string y) := (cell_of_row _ _ 1 _ 42 (0, 0) R1).trans rfl
        have f2 : wr.cell? ⟨w.heap.size, 2, none⟩ = some (.string ⟨#[]⟩) := (cell_of_row _ _ 2 _ 42 (0, 0) R1).trans rfl
        have f3 : wr.cell? ⟨w.heap.size, 3, none⟩ = some (.int .i64 n) := (cell_of_row _ _ 3 _ 42 (0, 0) R1).trans rfl
        have f4 : wr.cell? ⟨w.heap.size, 4, none⟩ = some (.slice B 0 c) := (cell_of_row _ _ 4 _ 42 (0, 0) R1).trans rfl
        have e0 : wr.cell? ⟨w.heap.size + 1, 0, none⟩ = some (.int .i64 4) := (cell_of_row _ _ 0 _ 49 (0, 0) R2).trans rfl
        have e1 : wr.cell? ⟨w.heap.size + 1, 1, none⟩ = some (.int .i64 16) := (cell_of_row _ _ 1 _ 49 (0, 0) R2).trans rfl
        have e2 : wr.cell? ⟨w.heap.size + 1, 2, none⟩ = some (.int .i64 c2) := (cell_of_row _ _ 2 _ 49 (0, 0) R2).trans rfl
        have e3 : wr.cell? ⟨w.heap.size + 1, 3, none⟩ = some (.int .i64 c3) := (cell_of_row _ _ 3 _ 49 (0, 0) R2).trans rfl
        have e4 : wr.cell? ⟨w.heap.size + 1, 4, none⟩ = some (.int .i64 c4) := (cell_of_row _ _ 4 _ 49 (0, 0) R2).trans rfl
        have e5 : wr.cell? ⟨w.heap.size + 1, 5, none⟩ = some (.int .i64 c5) := (cell_of_row _ _ 5 _ 49 (0, 0) R2).trans rfl
        have e6 : wr.cell? ⟨w.heap.size + 1, 6, none⟩ = some (.int .i64 c6) := (cell_of_row _ _ 6 _ 49 (0, 0) R2).trans rfl
        have e7 : wr.cell? ⟨w.heap.size + 1, 7, none⟩ = some (.int .i64 c7) := (cell_of_row _ _ 7 _ 49 (0, 0) R2).trans rfl
        have e8 : wr.cell? ⟨w.heap.size + 1, 8, none⟩ = some (.int .i64 c8) := (cell_of_row _ _ 8 _ 49 (0, 0) R2).trans rfl
        clear R1 R2 hb2
        by_cases h8 : k2 < 0
        · 
          omega
        · have hk1 : ¬ (k2 : Int) < (0 : Int) := by omega
          clear hk h8
          go_wp2_with fail
          go_ret
          exact ⟨rfl, HBV.out.trans (HB2.out.mono HBV.out.size)⟩
set_option maxHeartbeats 4000000 in
set_option maxRecDepth 4000 in
theorem ask_send (lo : Nat) (A : Option Addr) (S : Int) (L c : Nat) (hr : RdV w lo A (mrow S L)) (hL : L ≤ 3) : Calls Try.prog 32 #[.agg #[.int .u8 2, .string ⟨#[]⟩, .string ⟨#[]⟩, .int .i64 0, .slice A L c], .agg #[.int .i64 4, .int .i64 16, .int .i64 c2, .int .i64 c3, .int .i64 c4, .int .i64 c5, .int .i64 c6, .int .i64 c7, .int .i64 c8]] w fun e w' => e = .returned (.int .i64 0) ∧ Below w.heap.size w w' := by
  have HRD := Lib.hid hr
  have h3 : ¬ (1024 : Int) < (L : Int) := by omega
  clear hr
  have RO : Hid (((w.alloc (.cells #[.int .u8 2, .string ⟨#[]⟩, .string ⟨#[]⟩, .int .i64 0, .slice A L c] 42)).alloc (.cells #[.int .i64 4, .int .i64 16, .int .i64 c2, .int .i64 c3, .int .i64 c4, .int .i64 c5, .int .i64 c6, .int .i64 c7, .int .i64 c8] 49)).heap[w.heap.size]? = some (.cells #[.int .u8 2, .string ⟨#[]⟩, .string ⟨#[]⟩, .int .i64 0, .slice A L c] 42 (0, 0))) := Lib.hid (keep_bel (alb _ _) (heap_alloc_new w _))
  have RC : Hid (((w.alloc (.cells #[.int .u8 2, .string ⟨#[]⟩, .string ⟨#[]⟩, .int .i64 0, .slice A L c] 42)).alloc (.cells #[.int .i64 4, .int .i64 16, .int .i64 c2, .int .i64 c3, .int .i64 c4, .int .i64 c5, .int .i64 c6, .int .i64 c7, .int .i64 c8] 49)).heap[w.heap.size + 1]? = some (.cells #[.int .i64 4, .int .i64 16, .int .i64 c2, .int .i64 c3, .int .i64 c4, .int .i64 c5, .int .i64 c6, .int .i64 c7, .int .i64 c8] 49 (0, 0))) := Lib.hid (by have h := heap_alloc_new (w.alloc (.cells #[.int .u8 2, .string ⟨#[]⟩, .string ⟨#[]⟩, .int .i64 0, .slice A L c] 42)) (.cells #[.int .i64 4, .int .i64 16, .int .i64 c2, .int .i64 c3, .int .i64 c4, .int .i64 c5, .int .i64 c6, .int .i64 c7, .int .i64 c8] 49); rw [World.size_alloc] at h; exact h)
  have HBV : Hid (Below w.heap.size w ((w.alloc (.cells #[.int .u8 2, .string ⟨#[]⟩, .string ⟨#[]⟩, .int .i64 0, .slice A L c] 42)).alloc (.cells #[.int .i64 4, .int .i64 16, .int .i64 c2, .int .i64 c3, .int .i64 c4, .int .i64 c5, .int .i64 c6, .int .i64 c7, .int .i64 c8] 49))) := Lib.hid (by go_grown)
  have ZR := Lib.hid (zero_send ((w.alloc (.cells #[.int .u8 2, .string ⟨#[]⟩, .string ⟨#[]⟩, .int .i64 0, .slice A L c] 42)).alloc (.cells #[.int .i64 4, .int .i64 16, .int .i64 c2, .int .i64 c3, .int .i64 c4, .int .i64 c5, .int .i64 c6, .int .i64 c7, .int .i64 c8] 49)) A L c)
  go_enter Try.func32, Try.ntmps32
  go_wp2_with (first
    | (go_at_call 39; ((with_reducible refine ZR.out.mono ?_); rintro e w1 ⟨rfl, b1⟩; have HB0 := Lib.hid b1; have R1 := keep_bel b1 RO.out; have R2 := keep_bel b1 RC.out; have f0 : w1.cell? ⟨w.heap.size, 0, none⟩ = some (.int .u8 2) := (cell_of_row _ _ 0 _ 42 (0, 0) R1).trans rfl; have f1 : w1.cell? ⟨w.heap.size, 1, none⟩ = some (.string ⟨#[]⟩) := (cell_of_row _ _ 1 _ 42 (0, 0) R1).trans rfl; have f2 : w1.cell? ⟨w.heap.size, 2, none⟩ = some (.string ⟨#[]⟩) := (cell_of_row _ _ 2 _ 42 (0, 0) R1).trans rfl; have f3 : w1.cell? ⟨w.heap.size, 3, none⟩ = some (.int .i64 0) := (cell_of_row _ _ 3 _ 42 (0, 0) R1).trans rfl; have f4 : w1.cell? ⟨w.heap.size, 4, none⟩ = some (.slice A L c) := (cell_of_row _ _ 4 _ 42 (0, 0) R1).trans rfl; have e0 : w1.cell? ⟨w.heap.size + 1, 0, none⟩ = some (.int .i64 4) := (cell_of_row _ _ 0 _ 49 (0, 0) R2).trans rfl; have e1 : w1.cell? ⟨w.heap.size + 1, 1, none⟩ = some (.int .i64 16) := (cell_of_row _ _ 1 _ 49 (0, 0) R2).trans rfl; have e2 : w1.cell? ⟨w.heap.size + 1, 2, none⟩ = some (.int .i64 c2) := (cell_of_row _ _ 2 _ 49 (0, 0) R2).trans rfl; have e3 : w1.cell? ⟨w.heap.size + 1, 3, none⟩ = some (.int .i64 c3) := (cell_of_row _ _ 3 _ 49 (0, 0) R2).trans rfl; have e4 : w1.cell? ⟨w.heap.size + 1, 4, none⟩ = some (.int .i64 c4) := (cell_of_row _ _ 4 _ 49 (0, 0) R2).trans rfl; have e5 : w1.cell? ⟨w.heap.size + 1, 5, none⟩ = some (.int .i64 c5) := (cell_of_row _ _ 5 _ 49 (0, 0) R2).trans rfl; have e6 : w1.cell? ⟨w.heap.size + 1, 6, none⟩ = some (.int .i64 c6) := (cell_of_row _ _ 6 _ 49 (0, 0) R2).trans rfl; have e7 : w1.cell? ⟨w.heap.size + 1, 7, none⟩ = some (.int .i64 c7) := (cell_of_row _ _ 7 _ 49 (0, 0) R2).trans rfl; have e8 : w1.cell? ⟨w.heap.size + 1, 8, none⟩ = some (.int .i64 c8) := (cell_of_row _ _ 8 _ 49 (0, 0) R2).trans rfl; clear b1 R1 R2))
    | fail)
  go_loopw [5] (fun iv wr => ∃ k : Nat, k ≤ L ∧ iv = .int .i64 k ∧ Below ((w.alloc (.cells #[.int .u8 2, .string ⟨#[]⟩, .string ⟨#[]⟩, .int .i64 0, .slice A L c] 42)).alloc (.cells #[.int .i64 4, .int .i64 16, .int .i64 c2, .int .i64 c3, .int .i64 c4, .int .i64 c5, .int .i64 c6, .int .i64 c7, .int .i64 c8] 49)).heap.size ((w.alloc (.cells #[.int .u8 2, .string ⟨#[]⟩, .string ⟨#[]⟩, .int .i64 0, .slice A L c] 42)).alloc (.cells #[.int .i64 4, .int .i64 16, .int .i64 c2, .int .i64 c3, .int .i64 c4, .int .i64 c5, .int .i64 c6, .int .i64 c7, .int .i64 c8] 49)) wr) (fun i _ => L - (intOf i).toNat)
  case atStart => exact ⟨0, by omega, rfl, HB0.out⟩
  case round =>
    obtain ⟨k, hk, rfl, hb1⟩ := hrel
    have HB1 := Lib.hid hb1
    clear f0 f1 f2 f3 f4 e0 e1 e2 e3 e4 e5 e6 e7 e8
    have R1 := keep_bel hb1 RO.out
    have R2 := keep_bel hb1 RC.out
    have f0 : wr.cell? ⟨w.heap.size, 0, none⟩ = some (.int .u8 2) := (cell_of_row _ _ 0 _ 42 (0, 0) R1).trans rfl
    have f1 : wr.cell? ⟨w.heap.size, 1, none⟩ = some (.string ⟨#[]⟩) := (cell_of_row _ _ 1 _ 42 (0, 0) R1).trans rfl
    have f2 : wr.cell? ⟨w.heap.size, 2, none⟩ = some (.string ⟨#[]⟩) := (cell_of_row _ _ 2 _ 42 (0, 0) R1).trans rfl
    have f3 : wr.cell? ⟨w.heap.size, 3, none⟩ = some (.int .i64 0) := (cell_of_row _ _ 3 _ 42 (0, 0) R1).trans rfl
    have f4 : wr.cell? ⟨w.heap.size, 4, none⟩ = some (.slice A L c) := (cell_of_row _ _ 4 _ 42 (0, 0) R1).trans rfl
    have e0 : wr.cell? ⟨w.heap.size + 1, 0, none⟩ = some (.int .i64 4) := (cell_of_row _ _ 0 _ 49 (0, 0) R2).trans rfl
    have e1 : wr.cell? ⟨w.heap.size + 1, 1, none⟩ = some (.int .i64 16) := (cell_of_row _ _ 1 _ 49 (0, 0) R2).trans rfl
    have e2 : wr.cell? ⟨w.heap.size + 1, 2, none⟩ = some (.int .i64 c2) := (cell_of_row _ _ 2 _ 49 (0, 0) R2).trans rfl
    have e3 : wr.cell? ⟨w.heap.size + 1, 3, none⟩ = some (.int .i64 c3) := (cell_of_row _ _ 3 _ 49 (0, 0) R2).trans rfl
    have e4 : wr.cell? ⟨w.heap.size + 1, 4, none⟩ = some (.int .i64 c4) := (cell_of_row _ _ 4 _ 49 (0, 0) R2).trans rfl
    have e5 : wr.cell? ⟨w.heap.size + 1, 5, none⟩ = some (.int .i64 c5) := (cell_of_row _ _ 5 _ 49 (0, 0) R2).trans rfl
    have e6 : wr.cell? ⟨w.heap.size + 1, 6, none⟩ = some (.int .i64 c6) := (cell_of_row _ _ 6 _ 49 (0, 0) R2).trans rfl
    have e7 : wr.cell? ⟨w.heap.size + 1, 7, none⟩ = some (.int .i64 c7) := (cell_of_row _ _ 7 _ 49 (0, 0) R2).trans rfl
    have e8 : wr.cell? ⟨w.heap.size + 1, 8, none⟩ = some (.int .i64 c8) := (cell_of_row _ _ 8 _ 49 (0, 0) R2).trans rfl
    clear R1 R2 hb1
    by_cases h8 : k < L
    · 
      have hk1 : (k : Int) < (L : Int) := by omega
      have hk0 : (0 : Int) ≤ (k : Int) := by omega
      have hRd := HRD.out.chg (Chg.of_below (D := fun _ => False) (HBV.out.trans (HB1.out.mono HBV.out.size))) (fun _ h => h.elim)
      obtain ⟨kd, mk, mt, mv, md, hm⟩ := mval_form (mst S k)
      obtain ⟨gb, rfl, hgb, a0, a1, a2, a3, a4, a5⟩ := row_cells hRd h8 hm
      clear hRd hm a0 a2 a3 a4 a5
      go_wp2
      exact ⟨⟨k + 1, by omega, by simp, HB1.out⟩, by simp [intOf]; omega⟩
    · have hk1 : ¬ (k : Int) < (L : Int) := by omega
      clear hk h8
      go_wp2_with fail
      clear hk1
      go_loopw [6, 7] (fun iv _ wr => ∃ k : Nat, k ≤ L ∧ iv = .int .i64 k ∧ Below ((w.alloc (.cells #[.int .u8 2, .string ⟨#[]⟩, .string ⟨#[]⟩, .int .i64 0, .slice A L c] 42)).alloc (.cells #[.int .i64 4, .int .i64 16, .int .i64 c2, .int .i64 c3, .int .i64 c4, .int .i64 c5, .int .i64 c6, .int .i64 c7, .int .i64 c8] 49)).heap.size ((w.alloc (.cells #[.int .u8 2, .string ⟨#[]⟩, .string ⟨#[]⟩, .int .i64 0, .slice A L c] 42)).alloc (.cells #[.int .i64 4, .int .i64 16, .int .i64 c2, .int .i64 c3, .int .i64 c4, .int .i64 c5, .int .i64 c6, .int .i64 c7, .int .i64 c8] 49)) wr) (fun i _ _ => L - (intOf i).toNat)
      case atStart => exact ⟨0, by omega, rfl, HB1.out⟩
      case round =>
        clear HB1
        clear f0 f1 f2 f3 f4 e0 e1 e2 e3 e4 e5 e6 e7 e8
        obtain ⟨k2, hk, rfl, hb2⟩ := hrel
        have HB2 := Lib.hid hb2
        have R1 := keep_bel hb2 RO.out
        have R2 := keep_bel hb2 RC.out
        have f0 : wr.cell? ⟨w.heap.size, 0, none⟩ = some (.int .u8 2) := (cell_of_row _ _ 0 _ 42 (0, 0) R1).trans rfl
        have f1 : wr.cell? ⟨w.heap.size, 1, none⟩ = some (.string ⟨#[]⟩) := (cell_of_row _ _ 1 _ 42 (0, 0) R1).trans rfl
        have f2 : wr.cell? ⟨w.heap.size, 2, none⟩ = some (.string ⟨#[]⟩) := (cell_of_row _ _ 2 _ 42 (0, 0) R1).trans rfl
        have f3 : wr.cell? ⟨w.heap.size, 3, none⟩ = some (.int .i64 0) := (cell_of_row _ _ 3 _ 42 (0, 0) R1).trans rfl
        have f4 : wr.cell? ⟨w.heap.size, 4, none⟩ = some (.slice A L c) := (cell_of_row _ _ 4 _ 42 (0, 0) R1).trans rfl
        have e0 : wr.cell? ⟨w.heap.size + 1, 0, none⟩ = some (.int .i64 4) := (cell_of_row _ _ 0 _ 49 (0, 0) R2).trans rfl
        have e1 : wr.cell? ⟨w.heap.size + 1, 1, none⟩ = some (.int .i64 16) := (cell_of_row _ _ 1 _ 49 (0, 0) R2).trans rfl
        have e2 : wr.cell? ⟨w.heap.size + 1, 2, none⟩ = some (.int .i64 c2) := (cell_of_row _ _ 2 _ 49 (0, 0) R2).trans rfl
        have e3 : wr.cell? ⟨w.heap.size + 1, 3, none⟩ = some (.int .i64 c3) := (cell_of_row _ _ 3 _ 49 (0, 0) R2).trans rfl
        have e4 : wr.cell? ⟨w.heap.size + 1, 4, none⟩ = some (.int .i64 c4) := (cell_of_row _ _ 4 _ 49 (0, 0) R2).trans rfl
        have e5 : wr.cell? ⟨w.heap.size + 1, 5, none⟩ = some (.int .i64 c5) := (cell_of_row _ _ 5 _ 49 (0, 0) R2).trans rfl
        have e6 : wr.cell? ⟨w.heap.size + 1, 6, none⟩ = some (.int .i64 c6) := (cell_of_row _ _ 6 _ 49 (0, 0) R2).trans rfl
        have e7 : wr.cell? ⟨w.heap.size + 1, 7, none⟩ = some (.int .i64 c7) := (cell_of_row _ _ 7 _ 49 (0, 0) R2).trans rfl
        have e8 : wr.cell? ⟨w.heap.size + 1, 8, none⟩ = some (.int .i64 c8) := (cell_of_row _ _ 8 _ 49 (0, 0) R2).trans rfl
        clear R1 R2 hb2
        by_cases h8 : k2 < L
        · 
          have hk1 : (k2 : Int) < (L : Int) := by omega
          have hk0 : (0 : Int) ≤ (k2 : Int) := by omega
          have hRd := HRD.out.chg (Chg.of_below (D := fun _ => False) ((HBV.out.trans (HB2.out.mono HBV.out.size)).drew)) (fun _ h => h.elim)
          have R3 := keep_bel (HB2.out.drew) RO.out
          have R4 := keep_bel (HB2.out.drew) RC.out
          have gf0 : wr.drew.cell? ⟨w.heap.size, 0, none⟩ = some (.int .u8 2) := (cell_of_row _ _ 0 _ 42 (0, 0) R3).trans rfl
          have gf1 : wr.drew.cell? ⟨w.heap.size, 1, none⟩ = some (.string ⟨#[]⟩) := (cell_of_row _ _ 1 _ 42 (0, 0) R3).trans rfl
          have gf2 : wr.drew.cell? ⟨w.heap.size, 2, none⟩ = some (.string ⟨#[]⟩) := (cell_of_row _ _ 2 _ 42 (0, 0) R3).trans rfl
          have gf3 : wr.drew.cell? ⟨w.heap.size, 3, none⟩ = some (.int .i64 0) := (cell_of_row _ _ 3 _ 42 (0, 0) R3).trans rfl
          have gf4 : wr.drew.cell? ⟨w.heap.size, 4, none⟩ = some (.slice A L c) := (cell_of_row _ _ 4 _ 42 (0, 0) R3).trans rfl
          have ge0 : wr.drew.cell? ⟨w.heap.size + 1, 0, none⟩ = some (.int .i64 4) := (cell_of_row _ _ 0 _ 49 (0, 0) R4).trans rfl
          have ge1 : wr.drew.cell? ⟨w.heap.size + 1, 1, none⟩ = some (.int .i64 16) := (cell_of_row _ _ 1 _ 49 (0, 0) R4).trans rfl
          have ge2 : wr.drew.cell? ⟨w.heap.size + 1, 2, none⟩ = some (.int .i64 c2) := (cell_of_row _ _ 2 _ 49 (0, 0) R4).trans rfl
          have ge3 : wr.drew.cell? ⟨w.heap.size + 1, 3, none⟩ = some (.int .i64 c3) := (cell_of_row _ _ 3 _ 49 (0, 0) R4).trans rfl
          have ge4 : wr.drew.cell? ⟨w.heap.size + 1, 4, none⟩ = some (.int .i64 c4) := (cell_of_row _ _ 4 _ 49 (0, 0) R4).trans rfl
          have ge5 : wr.drew.cell? ⟨w.heap.size + 1, 5, none⟩ = some (.int .i64 c5) := (cell_of_row _ _ 5 _ 49 (0, 0) R4).trans rfl
          have ge6 : wr.drew.cell? ⟨w.heap.size + 1, 6, none⟩ = some (.int .i64 c6) := (cell_of_row _ _ 6 _ 49 (0, 0) R4).trans rfl
          have ge7 : wr.drew.cell? ⟨w.heap.size + 1, 7, none⟩ = some (.int .i64 c7) := (cell_of_row _ _ 7 _ 49 (0, 0) R4).trans rfl
          have ge8 : wr.drew.cell? ⟨w.heap.size + 1, 8, none⟩ = some (.int .i64 c8) := (cell_of_row _ _ 8 _ 49 (0, 0) R4).trans rfl
          obtain ⟨kd, mk, mt, mv, md, hm⟩ := mval_form (mst S k2)
          obtain ⟨gb, rfl, hgb, a0, a1, a2, a3, a4, a5⟩ := row_cells hRd h8 hm
          have MO := Lib.hid (msg_ok c2 c3 c4 c5 c6 c7 c8 wr.drew (mst S k2))
          rw [hm] at MO
          have DR := Lib.hid (drew_bel wr)
          clear hRd hm R3 R4
          go_wp2_with fail
          go_region_with (go_at_call 40; refine MO.out.mono ?_; rintro e w4 ⟨rfl, b4⟩; have HB4 := Lib.hid (HB2.out.trans ((DR.out.trans b4).mono HB2.out.size)))
          all_goals
            go_wp2_with fail
            exact ⟨⟨k2 + 1, by omega, by simp, HB4.out⟩, by simp [intOf]; omega⟩
        · have hk1 : ¬ (k2 : Int) < (L : Int) := by omega
          clear hk h8
          go_wp2_with fail
          go_ret
          exact ⟨rfl, HBV.out.trans (HB2.out.mono HBV.out.size)⟩
end
end Go.Proofs.Ytnchpfmpjpnciaa
