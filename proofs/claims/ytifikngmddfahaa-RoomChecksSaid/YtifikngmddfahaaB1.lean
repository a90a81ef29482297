/- What may be asked: the small questions. -/
import Derived.Test.YtifikngmddfahaaA4
namespace Go.Proofs.Ytifikngmddfahaa
set_option linter.unusedSimpArgs false
open Go.RowKit
set_option linter.unusedVariables false

def emp (a : ByteArray) : Bool := a.toList.isEmpty
def ltS (a b : ByteArray) : Bool := Op.bytesLess a.toList b.toList
def sbS (f t : ByteArray) : Bool := emp t || ltS f t
def rightS (s : ByteArray) (n : Int) : Bool := !emp s && decide ((s.size : Int) ≤ n)

theorem right_any (s : ByteArray) (n : Int) (w : World) :
    Calls Try.prog 16 #[.string s, .int .i64 n] w fun e w' => e = .returned (.bool (rightS s n)) ∧ w = w' := by
  go_enter Try.func16, Try.ntmps16
  go_wp2
  all_goals
    go_ret
    refine ⟨?_, rfl⟩
    simp_all [rightS, emp]
theorem sb_any (a b : ByteArray) (w : World) :
    Calls Try.prog 29 #[.string a, .string b] w fun e w' => e = .returned (.bool (sbS a b)) ∧ w = w' := by
  go_enter Try.func29, Try.ntmps29
  go_wp2
  all_goals
    go_ret
    refine ⟨?_, rfl⟩
    simp_all [sbS, emp, ltS]
theorem rightRange_any (a b : ByteArray) (w : World) :
    Calls Try.prog 25 #[.agg #[.string a, .string b]] w fun e w' => e = .returned (.bool (sbS a b)) ∧ Below w.heap.size w w' := by
  go_enter Try.func25, Try.ntmps25
  go_wp2_with (go_at_call 29; refine (sb_any _ _ _).mono ?_; rintro e w' ⟨rfl, rfl⟩)
  all_goals
    go_ret
    exact ⟨rfl, by go_grown⟩

/-- A message. -/
structure M where
  k : Int
  q : Int
  key : ByteArray
  too : ByteArray
  val : ByteArray
  dl : Int
def M.v (m : M) : Value := .agg #[.int .u8 m.k, .int .i64 m.q, .string m.key, .string m.too, .string m.val, .int .u64 m.dl]

theorem mpure_1 (q dl : Int) (key too val : ByteArray) (w : World)  :
    Calls Try.prog 27 #[.agg #[.int .u8 1, .int .i64 q, .string key, .string too, .string val, .int .u64 dl]] w fun e w' => e = .returned (.agg #[.int .u8 1, .int .i64 q, .string key, .string ⟨#[]⟩, .string val, .int .u64 0]) ∧ Below w.heap.size w w' := by
  go_enter Try.func27, Try.ntmps27
  go_wp2
  refine bodyPost_ret (v := .agg #[.int .u8 1, .int .i64 q, .string key, .string ⟨#[]⟩, .string val, .int .u64 0]) (by simp [results, Try.results27, go_sem]) rfl ⟨rfl, by go_grown⟩
theorem mpure_3 (q dl : Int) (key too val : ByteArray) (w : World)  :
    Calls Try.prog 27 #[.agg #[.int .u8 3, .int .i64 q, .string key, .string too, .string val, .int .u64 dl]] w fun e w' => e = .returned (.agg #[.int .u8 3, .int .i64 q, .string key, .string ⟨#[]⟩, .string ⟨#[]⟩, .int .u64 dl]) ∧ Below w.heap.size w w' := by
  go_enter Try.func27, Try.ntmps27
  go_wp2
  refine bodyPost_ret (v := .agg #[.int .u8 3, .int .i64 q, .string key, .string ⟨#[]⟩, .string ⟨#[]⟩, .int .u64 dl]) (by simp [results, Try.results27, go_sem]) rfl ⟨rfl, by go_grown⟩
theorem mpure_4 (q dl : Int) (key too val : ByteArray) (w : World)  :
    Calls Try.prog 27 #[.agg #[.int .u8 4, .int .i64 q, .string key, .string too, .string val, .int .u64 dl]] w fun e w' => e = .returned (.agg #[.int .u8 4, .int .i64 q, .string key, .string too, .string ⟨#[]⟩, .int .u64 0]) ∧ Below w.heap.size w w' := by
  go_enter Try.func27, Try.ntmps27
  go_wp2
  refine bodyPost_ret (v := .agg #[.int .u8 4, .int .i64 q, .string key, .string too, .string ⟨#[]⟩, .int .u64 0]) (by simp [results, Try.results27, go_sem]) rfl ⟨rfl, by go_grown⟩
theorem mpure_o (k q dl : Int) (key too val : ByteArray) (w : World) (h1 : k ≠ 1) (h3 : k ≠ 3) (h4 : k ≠ 4) :
    Calls Try.prog 27 #[.agg #[.int .u8 k, .int .i64 q, .string key, .string too, .string val, .int .u64 dl]] w fun e w' => e = .returned (.agg #[.int .u8 k, .int .i64 q, .string key, .string ⟨#[]⟩, .string ⟨#[]⟩, .int .u64 0]) ∧ Below w.heap.size w w' := by
  go_enter Try.func27, Try.ntmps27
  go_wp2
  refine bodyPost_ret (v := .agg #[.int .u8 k, .int .i64 q, .string key, .string ⟨#[]⟩, .string ⟨#[]⟩, .int .u64 0]) (by simp [results, Try.results27, go_sem]) rfl ⟨rfl, by go_grown⟩

theorem span_4 (q dl : Int) (key too val : ByteArray) (w : World) :
    Calls Try.prog 28 #[.agg #[.int .u8 4, .int .i64 q, .string key, .string too, .string val, .int .u64 dl]] w fun e w' => e = .returned (.agg #[.string key, .string too]) ∧ Below w.heap.size w w' := by
  have C : ∀ W, Calls Try.prog 30 #[.agg #[.int .u8 4, .int .i64 q, .string key, .string too, .string val, .int .u64 dl]] W fun e w' => e = .returned (.bool false) ∧ Below W.heap.size W w' := by
    intro W
    go_enter Try.func30, Try.ntmps30
    go_wp2
    go_ret
    exact ⟨rfl, by go_grown⟩
  have CC := Lib.hid C
  go_enter Try.func28, Try.ntmps28
  go_wp2_with fail
  refine (CC.out _).mono ?_
  rintro e w1 ⟨rfl, hb⟩
  have d0 : w1.cell? ⟨w.heap.size, 0, none⟩ = some (.int .u8 4) := bel_later hb (by simp [go_sem])
  have d2 : w1.cell? ⟨w.heap.size, 2, none⟩ = some (.string key) := bel_later hb (by simp [go_sem])
  have d3 : w1.cell? ⟨w.heap.size, 3, none⟩ = some (.string too) := bel_later hb (by simp [go_sem])
  have hb1 : Below w.heap.size w w1 := Below.trans (by go_grown) (hb.mono (by simp; try omega))
  have x0 : w1.cell? ⟨w.heap.size + 1, 0, none⟩ = some (.string ⟨#[]⟩) := bel_later hb (by simp [go_sem])
  have x1 : w1.cell? ⟨w.heap.size + 1, 1, none⟩ = some (.string ⟨#[]⟩) := bel_later hb (by simp [go_sem])
  have y0 : w1.frozen? ⟨w.heap.size + 1, 0, none⟩ = false := (hb.frozen (by simp)).trans (by simp [go_sem])
  have y1 : w1.frozen? ⟨w.heap.size + 1, 1, none⟩ = false := (hb.frozen (by simp)).trans (by simp [go_sem])
  go_wp2
  refine bodyPost_ret (v := .agg #[.string key, .string too]) (by simp [results, Try.results28, go_sem, x0, x1, y0, y1]) rfl ⟨rfl, (hb1.setCell (p := ⟨w.heap.size + 1, 0, none⟩) (by simp) _).setCell (p := ⟨w.heap.size + 1, 1, none⟩) (by simp) _⟩
end Go.Proofs.Ytifikngmddfahaa
