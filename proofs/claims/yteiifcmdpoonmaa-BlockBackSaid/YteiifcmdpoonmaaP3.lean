/- A reader gives up. -/
import Derived.Test.YteiifcmdpoonmaaU2
import Derived.Test.YteiifcmdpoonmaaP2
namespace Go.Proofs.Yteiifcmdpoonmaa
set_option linter.unusedSimpArgs false
open Go.RowKit Go.Maps Go.Shelf
set_option linter.unusedVariables false
/-- A reader gives up with an error's number. -/
abbrev PanE (x : Int) : Ending := .panicked [{ v := .iface 31 (.int .i64 x), recovered := false }]
theorem check_no (a : Value) (x : Int) (w : World) : Calls Try.prog 21 #[a, .bool false, .int .i64 x] w fun e w' => e = PanE x ∧ w = w' := by
  go_enter Try.func21, Try.ntmps21
  go_wp2
  exact ⟨rfl, rfl, rfl⟩
theorem num_err (s rest : ByteArray) (n x : Int) (r : Nat) (w : World) (h : Rdr w r s) (ht : tnF s = (n, rest, x)) (hx : x ≠ 0) :
    Calls Try.prog 19 #[.pointer (some ⟨r, 0, none⟩)] w fun e w' => e = PanE x ∧ Below w.heap.size w w' := by
  have c0 := h.cell
  have hx1 : (x == 0) = false := by simpa using hx
  have TN : Hid (Calls Try.prog 35 #[.string s] w fun e w' => e = .returned (.tuple #[.int .i64 n, .string rest, .int .i64 x]) ∧ Below w.heap.size w w') := Lib.hid (by
    have q := takeNum_any s w
    rw [ht] at q
    exact q)
  clear h ht
  go_enter Try.func19, Try.ntmps19
  go_wp2_with (first
    | (go_at_call 35; ((with_reducible refine TN.out.mono ?_); rintro e w1 ⟨rfl, b1⟩; have B1 := Lib.hid b1; clear b1))
    | (go_at_call 21; ((with_reducible refine (check_no _ _ _).mono ?_); rintro e w2 ⟨rfl, rfl⟩))
    | fail)
  exact ⟨rfl, rfl, B1.out⟩
theorem text_err (s x rest : ByteArray) (most y : Int) (r : Nat) (w : World) (h : Rdr w r s) (ht : ttF s most = (x, rest, y)) (hy : y ≠ 0) :
    Calls Try.prog 36 #[.pointer (some ⟨r, 0, none⟩), .int .i64 most] w fun e w' => e = PanE y ∧ Below w.heap.size w w' := by
  have c0 := h.cell
  have hx1 : (y == 0) = false := by simpa using hy
  have TN : Hid (Calls Try.prog 39 #[.string s, .int .i64 most] w fun e w' => e = .returned (.tuple #[.string x, .string rest, .int .i64 y]) ∧ Below w.heap.size w w') := Lib.hid (by
    have q := takeText_any s most w
    rw [ht] at q
    exact q)
  clear h ht
  go_enter Try.func36, Try.ntmps36
  go_wp2_with (first
    | (go_at_call 39; ((with_reducible refine TN.out.mono ?_); rintro e w1 ⟨rfl, b1⟩; have B1 := Lib.hid b1; clear b1))
    | (go_at_call 21; ((with_reducible refine (check_no _ _ _).mono ?_); rintro e w2 ⟨rfl, rfl⟩))
    | fail)
  exact ⟨rfl, rfl, B1.out⟩
end Go.Proofs.Yteiifcmdpoonmaa
