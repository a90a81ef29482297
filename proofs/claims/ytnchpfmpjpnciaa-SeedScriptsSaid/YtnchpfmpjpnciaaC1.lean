/- The document's checks of messages. -/
import Derived.Test.YtnchpfmpjpnciaaA8
namespace Go.Proofs.Ytnchpfmpjpnciaa
set_option linter.unusedSimpArgs false
open Go.RowKit Go.Maps Go.Shelf
set_option linter.unusedVariables false
section
variable (c2 c3 c4 c5 c6 c7 c8 : Int) (w : World)
theorem point_123 (kd : Int) (k t v : ByteArray) (d : Int) (h : kd = 1 ∨ kd = 2 ∨ kd = 3) : Calls Try.prog 46 #[.agg #[.int .u8 kd, .int .i64 0, .string k, .string t, .string v, .int .u64 d]] w fun e w' => e = .returned (.bool true) ∧ Below w.heap.size w w' := by
  have hb : Below w.heap.size w (w.alloc (.cells #[.int .u8 kd, .int .i64 0, .string k, .string t, .string v, .int .u64 d] 36)) := alb _ _
  obtain rfl | rfl | rfl := h
  · go_enter Try.func46, Try.ntmps46
    go_wp2
    go_ret
    exact ⟨rfl, hb⟩
  · go_enter Try.func46, Try.ntmps46
    go_wp2
    go_ret
    exact ⟨rfl, hb⟩
  · go_enter Try.func46, Try.ntmps46
    go_wp2
    go_ret
    exact ⟨rfl, hb⟩
theorem point_4 (k t v : ByteArray) (d : Int) : Calls Try.prog 46 #[.agg #[.int .u8 4, .int .i64 0, .string k, .string t, .string v, .int .u64 d]] w fun e w' => e = .returned (.bool false) ∧ Below w.heap.size w w' := by
  have hb : Below w.heap.size w (w.alloc (.cells #[.int .u8 4, .int .i64 0, .string k, .string t, .string v, .int .u64 d] 36)) := alb _ _
  go_enter Try.func46, Try.ntmps46
  go_wp2
  go_ret
  exact ⟨rfl, hb⟩
set_option maxHeartbeats 2000000 in
set_option maxRecDepth 4000 in
theorem check_del (k : ByteArray) (h1 : ¬ k.toList = []) (h2 : k.size ≤ 2) : Calls Try.prog 40 #[.agg #[.int .u8 2, .int .i64 0, .string k, .string ⟨#[]⟩, .string ⟨#[]⟩, .int .u64 0], .agg #[.int .i64 4, .int .i64 16, .int .i64 c2, .int .i64 c3, .int .i64 c4, .int .i64 c5, .int .i64 c6, .int .i64 c7, .int .i64 c8]] w fun e w' => e = .returned (.int .i64 0) ∧ Below w.heap.size w w' := by
  have h3 : ¬ (4 : Int) < (k.size : Int) := by omega
  have h4 : k.toList.isEmpty = false := by simpa using h1
  have hb : Below w.heap.size w ((w.alloc (.cells #[.int .u8 2, .int .i64 0, .string k, .string ⟨#[]⟩, .string ⟨#[]⟩, .int .u64 0] 36)).alloc (.cells #[.int .i64 4, .int .i64 16, .int .i64 c2, .int .i64 c3, .int .i64 c4, .int .i64 c5, .int .i64 c6, .int .i64 c7, .int .i64 c8] 49)) := by go_grown
  have HB := Lib.hid hb
  have PT := Lib.hid (point_123 ((w.alloc (.cells #[.int .u8 2, .int .i64 0, .string k, .string ⟨#[]⟩, .string ⟨#[]⟩, .int .u64 0] 36)).alloc (.cells #[.int .i64 4, .int .i64 16, .int .i64 c2, .int .i64 c3, .int .i64 c4, .int .i64 c5, .int .i64 c6, .int .i64 c7, .int .i64 c8] 49)) 2 k ⟨#[]⟩ ⟨#[]⟩ 0 (by omega))
  have RM : Hid (((w.alloc (.cells #[.int .u8 2, .int .i64 0, .string k, .string ⟨#[]⟩, .string ⟨#[]⟩, .int .u64 0] 36)).alloc (.cells #[.int .i64 4, .int .i64 16, .int .i64 c2, .int .i64 c3, .int .i64 c4, .int .i64 c5, .int .i64 c6, .int .i64 c7, .int .i64 c8] 49)).heap[w.heap.size]? = some (.cells #[.int .u8 2, .int .i64 0, .string k, .string ⟨#[]⟩, .string ⟨#[]⟩, .int .u64 0] 36 (0, 0))) := Lib.hid (keep_bel (alb _ _) (heap_alloc_new w _))
  have RC : Hid (((w.alloc (.cells #[.int .u8 2, .int .i64 0, .string k, .string ⟨#[]⟩, .string ⟨#[]⟩, .int .u64 0] 36)).alloc (.cells #[.int .i64 4, .int .i64 16, .int .i64 c2, .int .i64 c3, .int .i64 c4, .int .i64 c5, .int .i64 c6, .int .i64 c7, .int .i64 c8] 49)).heap[w.heap.size + 1]? = some (.cells #[.int .i64 4, .int .i64 16, .int .i64 c2, .int .i64 c3, .int .i64 c4, .int .i64 c5, .int .i64 c6, .int .i64 c7, .int .i64 c8] 49 (0, 0))) := Lib.hid (by have h := heap_alloc_new (w.alloc (.cells #[.int .u8 2, .int .i64 0, .string k, .string ⟨#[]⟩, .string ⟨#[]⟩, .int .u64 0] 36)) (.cells #[.int .i64 4, .int .i64 16, .int .i64 c2, .int .i64 c3, .int .i64 c4, .int .i64 c5, .int .i64 c6, .int .i64 c7, .int .i64 c8] 49); rw [World.size_alloc] at h; exact h)
  clear hb
  go_enter Try.func40, Try.ntmps40
  go_wp2_with (first
    | (go_at_call 46; ((with_reducible refine PT.out.mono ?_); rintro e w1 ⟨rfl, b1⟩; have B1 := Lib.hid (HB.out.trans (b1.mono HB.out.size)); have R1 := keep_bel b1 RM.out; have R2 := keep_bel b1 RC.out; have d0 : w1.cell? ⟨w.heap.size, 0, none⟩ = some (.int .u8 2) := (by rw [cell_of_row _ _ 0 _ 36 (0, 0) R1]; rfl); have d2 : w1.cell? ⟨w.heap.size, 2, none⟩ = some (.string k) := (by rw [cell_of_row _ _ 2 _ 36 (0, 0) R1]; rfl); have d3 : w1.cell? ⟨w.heap.size, 3, none⟩ = some (.string ⟨#[]⟩) := (by rw [cell_of_row _ _ 3 _ 36 (0, 0) R1]; rfl); have d4 : w1.cell? ⟨w.heap.size, 4, none⟩ = some (.string ⟨#[]⟩) := (by rw [cell_of_row _ _ 4 _ 36 (0, 0) R1]; rfl); have e0 : w1.cell? ⟨w.heap.size + 1, 0, none⟩ = some (.int .i64 4) := (by rw [cell_of_row _ _ 0 _ 49 (0, 0) R2]; rfl); have e1 : w1.cell? ⟨w.heap.size + 1, 1, none⟩ = some (.int .i64 16) := (by rw [cell_of_row _ _ 1 _ 49 (0, 0) R2]; rfl); clear b1 R1 R2))
    | fail)
  go_ret
  exact ⟨rfl, B1.out⟩
set_option maxHeartbeats 2000000 in
set_option maxRecDepth 4000 in
theorem check_add (k : ByteArray) (d : Int) (h1 : ¬ k.toList = []) (h2 : k.size ≤ 2) : Calls Try.prog 40 #[.agg #[.int .u8 3, .int .i64 0, .string k, .string ⟨#[]⟩, .string ⟨#[]⟩, .int .u64 d], .agg #[.int .i64 4, .int .i64 16, .int .i64 c2, .int .i64 c3, .int .i64 c4, .int .i64 c5, .int .i64 c6, .int .i64 c7, .int .i64 c8]] w fun e w' => e = .returned (.int .i64 0) ∧ Below w.heap.size w w' := by
  have h3 : ¬ (4 : Int) < (k.size : Int) := by omega
  have h4 : k.toList.isEmpty = false := by simpa using h1
  have hb : Below w.heap.size w ((w.alloc (.cells #[.int .u8 3, .int .i64 0, .string k, .string ⟨#[]⟩, .string ⟨#[]⟩, .int .u64 d] 36)).alloc (.cells #[.int .i64 4, .int .i64 16, .int .i64 c2, .int .i64 c3, .int .i64 c4, .int .i64 c5, .int .i64 c6, .int .i64 c7, .int .i64 c8] 49)) := by go_grown
  have HB := Lib.hid hb
  have PT := Lib.hid (point_123 ((w.alloc (.cells #[.int .u8 3, .int .i64 0, .string k, .string ⟨#[]⟩, .string ⟨#[]⟩, .int .u64 d] 36)).alloc (.cells #[.int .i64 4, .int .i64 16, .int .i64 c2, .int .i64 c3, .int .i64 c4, .int .i64 c5, .int .i64 c6, .int .i64 c7, .int .i64 c8] 49)) 3 k ⟨#[]⟩ ⟨#[]⟩ d (by omega))
  have RM : Hid (((w.alloc (.cells #[.int .u8 3, .int .i64 0, .string k, .string ⟨#[]⟩, .string ⟨#[]⟩, .int .u64 d] 36)).alloc (.cells #[.int .i64 4, .int .i64 16, .int .i64 c2, .int .i64 c3, .int .i64 c4, .int .i64 c5, .int .i64 c6, .int .i64 c7, .int .i64 c8] 49)).heap[w.heap.size]? = some (.cells #[.int .u8 3, .int .i64 0, .string k, .string ⟨#[]⟩, .string ⟨#[]⟩, .int .u64 d] 36 (0, 0))) := Lib.hid (keep_bel (alb _ _) (heap_alloc_new w _))
  have RC : Hid (((w.alloc (.cells #[.int .u8 3, .int .i64 0, .string k, .string ⟨#[]⟩, .string ⟨#[]⟩, .int .u64 d] 36)).alloc (.cells #[.int .i64 4, .int .i64 16, .int .i64 c2, .int .i64 c3, .int .i64 c4, .int .i64 c5, .int .i64 c6, .int .i64 c7, .int .i64 c8] 49)).heap[w.heap.size + 1]? = some (.cells #[.int .i64 4, .int .i64 16, .int .i64 c2, .int .i64 c3, .int .i64 c4, .int .i64 c5, .int .i64 c6, .int .i64 c7, .int .i64 c8] 49 (0, 0))) := Lib.hid (by have h := heap_alloc_new (w.alloc (.cells #[.int .u8 3, .int .i64 0, .string k, .string ⟨#[]⟩, .string ⟨#[]⟩, .int .u64 d] 36)) (.cells #[.int .i64 4, .int .i64 16, .int .i64 c2, .int .i64 c3, .int .i64 c4, .int .i64 c5, .int .i64 c6, .int .i64 c7, .int .i64 c8] 49); rw [World.size_alloc] at h; exact h)
  clear hb
  go_enter Try.func40, Try.ntmps40
  go_wp2_with (first
    | (go_at_call 46; ((with_reducible refine PT.out.mono ?_); rintro e w1 ⟨rfl, b1⟩; have B1 := Lib.hid (HB.out.trans (b1.mono HB.out.size)); have R1 := keep_bel b1 RM.out; have R2 := keep_bel b1 RC.out; have d0 : w1.cell? ⟨w.heap.size, 0, none⟩ = some (.int .u8 3) := (by rw [cell_of_row _ _ 0 _ 36 (0, 0) R1]; rfl); have d2 : w1.cell? ⟨w.heap.size, 2, none⟩ = some (.string k) := (by rw [cell_of_row _ _ 2 _ 36 (0, 0) R1]; rfl); have d3 : w1.cell? ⟨w.heap.size, 3, none⟩ = some (.string ⟨#[]⟩) := (by rw [cell_of_row _ _ 3 _ 36 (0, 0) R1]; rfl); have d4 : w1.cell? ⟨w.heap.size, 4, none⟩ = some (.string ⟨#[]⟩) := (by rw [cell_of_row _ _ 4 _ 36 (0, 0) R1]; rfl); have e0 : w1.cell? ⟨w.heap.size + 1, 0, none⟩ = some (.int .i64 4) := (by rw [cell_of_row _ _ 0 _ 49 (0, 0) R2]; rfl); have e1 : w1.cell? ⟨w.heap.size + 1, 1, none⟩ = some (.int .i64 16) := (by rw [cell_of_row _ _ 1 _ 49 (0, 0) R2]; rfl); clear b1 R1 R2))
    | fail)
  go_ret
  exact ⟨rfl, B1.out⟩
set_option maxHeartbeats 2000000 in
set_option maxRecDepth 4000 in
theorem check_put (k v : ByteArray) (h1 : ¬ k.toList = []) (h2 : k.size ≤ 2) (h5 : v.size ≤ 2) : Calls Try.prog 40 #[.agg #[.int .u8 1, .int .i64 0, .string k, .string ⟨#[]⟩, .string v, .int .u64 0], .agg #[.int .i64 4, .int .i64 16, .int .i64 c2, .int .i64 c3, .int .i64 c4, .int .i64 c5, .int .i64 c6, .int .i64 c7, .int .i64 c8]] w fun e w' => e = .returned (.int .i64 0) ∧ Below w.heap.size w w' := by
  have h3 : ¬ (4 : Int) < (k.size : Int) := by omega
  have h4 : k.toList.isEmpty = false := by simpa using h1
  have h6 : ¬ (16 : Int) < (v.size : Int) := by omega
  have hb : Below w.heap.size w ((w.alloc (.cells #[.int .u8 1, .int .i64 0, .string k, .string ⟨#[]⟩, .string v, .int .u64 0] 36)).alloc (.cells #[.int .i64 4, .int .i64 16, .int .i64 c2, .int .i64 c3, .int .i64 c4, .int .i64 c5, .int .i64 c6, .int .i64 c7, .int .i64 c8] 49)) := by go_grown
  have HB := Lib.hid hb
  have PT := Lib.hid (point_123 ((w.alloc (.cells #[.int .u8 1, .int .i64 0, .string k, .string ⟨#[]⟩, .string v, .int .u64 0] 36)).alloc (.cells #[.int .i64 4, .int .i64 16, .int .i64 c2, .int .i64 c3, .int .i64 c4, .int .i64 c5, .int .i64 c6, .int .i64 c7, .int .i64 c8] 49)) 1 k ⟨#[]⟩ v 0 (by omega))
  have RM : Hid (((w.alloc (.cells #[.int .u8 1, .int .i64 0, .string k, .string ⟨#[]⟩, .string v, .int .u64 0] 36)).alloc (.cells #[.int .i64 4, .int .i64 16, .int .i64 c2, .int .i64 c3, .int .i64 c4, .int .i64 c5, .int .i64 c6, .int .i64 c7, .int .i64 c8] 49)).heap[w.heap.size]? = some (.cells #[.int .u8 1, .int .i64 0, .string k, .string ⟨#[]⟩, .string v, .int .u64 0] 36 (0, 0))) := Lib.hid (keep_bel (alb _ _) (heap_alloc_new w _))
  have RC : Hid (((w.alloc (.cells #[.int .u8 1, .int .i64 0, .string k, .string ⟨#[]⟩, .string v, .int .u64 0] 36)).alloc (.cells #[.int .i64 4, .int .i64 16, .int .i64 c2, .int .i64 c3, .int .i64 c4, .int .i64 c5, .int .i64 c6, .int .i64 c7, .int .i64 c8] 49)).heap[w.heap.size + 1]? = some (.cells #[.int .i64 4, .int .i64 16, .int .i64 c2, .int .i64 c3, .int .i64 c4, .int .i64 c5, .int .i64 c6, .int .i64 c7, .int .i64 c8] 49 (0, 0))) := Lib.hid (by have h := heap_alloc_new (w.alloc (.cells #[.int .u8 1, .int .i64 0, .string k, .string ⟨#[]⟩, .string v, .int .u64 0] 36)) (.cells #[.int .i64 4, .int .i64 16, .int .i64 c2, .int .i64 c3, .int .i64 c4, .int .i64 c5, .int .i64 c6, .int .i64 c7, .int .i64 c8] 49); rw [World.size_alloc] at h; exact h)
  clear hb
  go_enter Try.func40, Try.ntmps40
  go_wp2_with (first
    | (go_at_call 46; ((with_reducible refine PT.out.mono ?_); rintro e w1 ⟨rfl, b1⟩; have B1 := Lib.hid (HB.out.trans (b1.mono HB.out.size)); have R1 := keep_bel b1 RM.out; have R2 := keep_bel b1 RC.out; have d0 : w1.cell? ⟨w.heap.size, 0, none⟩ = some (.int .u8 1) := (by rw [cell_of_row _ _ 0 _ 36 (0, 0) R1]; rfl); have d2 : w1.cell? ⟨w.heap.size, 2, none⟩ = some (.string k) := (by rw [cell_of_row _ _ 2 _ 36 (0, 0) R1]; rfl); have d3 : w1.cell? ⟨w.heap.size, 3, none⟩ = some (.string ⟨#[]⟩) := (by rw [cell_of_row _ _ 3 _ 36 (0, 0) R1]; rfl); have d4 : w1.cell? ⟨w.heap.size, 4, none⟩ = some (.string v) := (by rw [cell_of_row _ _ 4 _ 36 (0, 0) R1]; rfl); have e0 : w1.cell? ⟨w.heap.size + 1, 0, none⟩ = some (.int .i64 4) := (by rw [cell_of_row _ _ 0 _ 49 (0, 0) R2]; rfl); have e1 : w1.cell? ⟨w.heap.size + 1, 1, none⟩ = some (.int .i64 16) := (by rw [cell_of_row _ _ 1 _ 49 (0, 0) R2]; rfl); clear b1 R1 R2))
    | fail)
  go_ret
  exact ⟨rfl, B1.out⟩
set_option maxHeartbeats 2000000 in
set_option maxRecDepth 4000 in
theorem check_clear (k t : ByteArray) (h1 : ¬ t.toList = []) (h2 : k.size ≤ 2) (h5 : t.size ≤ 3) (h7 : Op.bytesLess t.toList k.toList = false) (h8 : (t.toList == k.toList) = false) : Calls Try.prog 40 #[.agg #[.int .u8 4, .int .i64 0, .string k, .string t, .string ⟨#[]⟩, .int .u64 0], .agg #[.int .i64 4, .int .i64 16, .int .i64 c2, .int .i64 c3, .int .i64 c4, .int .i64 c5, .int .i64 c6, .int .i64 c7, .int .i64 c8]] w fun e w' => e = .returned (.int .i64 0) ∧ Below w.heap.size w w' := by
  have h3 : ¬ (4 : Int) < (k.size : Int) := by omega
  have h6 : ¬ (4 : Int) < (t.size : Int) := by omega
  have h4 : t.toList.isEmpty = false := by simpa using h1
  have hb : Below w.heap.size w ((w.alloc (.cells #[.int .u8 4, .int .i64 0, .string k, .string t, .string ⟨#[]⟩, .int .u64 0] 36)).alloc (.cells #[.int .i64 4, .int .i64 16, .int .i64 c2, .int .i64 c3, .int .i64 c4, .int .i64 c5, .int .i64 c6, .int .i64 c7, .int .i64 c8] 49)) := by go_grown
  have HB := Lib.hid hb
  have PT := Lib.hid (point_4 ((w.alloc (.cells #[.int .u8 4, .int .i64 0, .string k, .string t, .string ⟨#[]⟩, .int .u64 0] 36)).alloc (.cells #[.int .i64 4, .int .i64 16, .int .i64 c2, .int .i64 c3, .int .i64 c4, .int .i64 c5, .int .i64 c6, .int .i64 c7, .int .i64 c8] 49)) k t ⟨#[]⟩ 0)
  have RM : Hid (((w.alloc (.cells #[.int .u8 4, .int .i64 0, .string k, .string t, .string ⟨#[]⟩, .int .u64 0] 36)).alloc (.cells #[.int .i64 4, .int .i64 16, .int .i64 c2, .int .i64 c3, .int .i64 c4, .int .i64 c5, .int .i64 c6, .int .i64 c7, .int .i64 c8] 49)).heap[w.heap.size]? = some (.cells #[.int .u8 4, .int .i64 0, .string k, .string t, .string ⟨#[]⟩, .int .u64 0] 36 (0, 0))) := Lib.hid (keep_bel (alb _ _) (heap_alloc_new w _))
  have RC : Hid (((w.alloc (.cells #[.int .u8 4, .int .i64 0, .string k, .string t, .string ⟨#[]⟩, .int .u64 0] 36)).alloc (.cells #[.int .i64 4, .int .i64 16, .int .i64 c2, .int .i64 c3, .int .i64 c4, .int .i64 c5, .int .i64 c6, .int .i64 c7, .int .i64 c8] 49)).heap[w.heap.size + 1]? = some (.cells #[.int .i64 4, .int .i64 16, .int .i64 c2, .int .i64 c3, .int .i64 c4, .int .i64 c5, .int .i64 c6, .int .i64 c7, .int .i64 c8] 49 (0, 0))) := Lib.hid (by have h := heap_alloc_new (w.alloc (.cells #[.int .u8 4, .int .i64 0, .string k, .string t, .string ⟨#[]⟩, .int .u64 0] 36)) (.cells #[.int .i64 4, .int .i64 16, .int .i64 c2, .int .i64 c3, .int .i64 c4, .int .i64 c5, .int .i64 c6, .int .i64 c7, .int .i64 c8] 49); rw [World.size_alloc] at h; exact h)
  clear hb
  go_enter Try.func40, Try.ntmps40
  go_wp2_with (first
    | (go_at_call 46; ((with_reducible refine PT.out.mono ?_); rintro e w1 ⟨rfl, b1⟩; have B1 := Lib.hid (HB.out.trans (b1.mono HB.out.size)); have R1 := keep_bel b1 RM.out; have R2 := keep_bel b1 RC.out; have d0 : w1.cell? ⟨w.heap.size, 0, none⟩ = some (.int .u8 4) := (by rw [cell_of_row _ _ 0 _ 36 (0, 0) R1]; rfl); have d2 : w1.cell? ⟨w.heap.size, 2, none⟩ = some (.string k) := (by rw [cell_of_row _ _ 2 _ 36 (0, 0) R1]; rfl); have d3 : w1.cell? ⟨w.heap.size, 3, none⟩ = some (.string t) := (by rw [cell_of_row _ _ 3 _ 36 (0, 0) R1]; rfl); have d4 : w1.cell? ⟨w.heap.size, 4, none⟩ = some (.string ⟨#[]⟩) := (by rw [cell_of_row _ _ 4 _ 36 (0, 0) R1]; rfl); have e0 : w1.cell? ⟨w.heap.size + 1, 0, none⟩ = some (.int .i64 4) := (by rw [cell_of_row _ _ 0 _ 49 (0, 0) R2]; rfl); have e1 : w1.cell? ⟨w.heap.size + 1, 1, none⟩ = some (.int .i64 16) := (by rw [cell_of_row _ _ 1 _ 49 (0, 0) R2]; rfl); clear b1 R1 R2))
    | fail)
  go_ret
  exact ⟨rfl, B1.out⟩
end
end Go.Proofs.Ytnchpfmpjpnciaa
