/- How many cursors there are; a cursor is closed; live. -/
import Derived.Test.YtdbcaiggliiacaaC6
import Derived.Test.YtdbcaiggliiacaaN3
namespace Go.Proofs.Ytdbcaiggliiacaa
set_option linter.unusedSimpArgs false
open Go.RowKit Go.Maps
set_option linter.unusedVariables false
set_option maxRecDepth 10000 in
theorem len_any {w : World} {N M m n : Nat} {last : Int} {S : Int → Option Cur} (h : PT w N M m n last S) :
    Calls Try.prog 22 #[.pointer (some ⟨N, 0, none⟩)] w fun e w' => e = .returned (.int .i64 n) ∧ w = w' := by
  have c0 := h.c0
  have hlen := h.2.len 3
  clear h
  go_enter Try.func22, Try.ntmps22
  go_wp2
  go_ret
  exact ⟨rfl, rfl⟩
set_option maxRecDepth 10000 in
theorem close_none {w : World} {N M m n : Nat} {last : Int} {S : Int → Option Cur} (h : PT w N M m n last S) (x : Int) (hx : (Lit.int .i64 x).wf = true) (hc : S x = none) :
    Calls Try.prog 21 #[.pointer (some ⟨N, 0, none⟩), .int .i64 x] w fun e w' => e = .returned (.int .i64 11) ∧ Below w.heap.size w w' := by
  have F := Lib.hid (find_none h x hx hc)
  clear h hc
  go_enter Try.func21, Try.ntmps21
  go_wp2_with (first
    | (go_at_call 30; ((with_reducible refine F.out.mono ?_); rintro r w1 ⟨rfl, b1⟩; have B1 := Lib.hid (bel_alloc b1 Z73); clear b1))
    | fail)
  go_ret
  exact ⟨rfl, B1.out⟩
set_option maxRecDepth 10000 in
theorem close_some {w : World} {N M m n : Nat} {last : Int} {S : Int → Option Cur} (h : PT w N M m n last S) (x : Int) (hx : (Lit.int .i64 x).wf = true) (f t : ByteArray) (b : Bool) (hc : S x = some (f, t, b)) :
    Calls Try.prog 21 #[.pointer (some ⟨N, 0, none⟩), .int .i64 x] w fun e w' => e = .returned (.int .i64 0) ∧ PT w' N M m (cntD (S x) n) last (cutC S x) ∧ Chg (fun g => g = M) w w' := by
  have F := Lib.hid (find_some h x hx f t b hc)
  have HP := Lib.hid h
  clear h hc
  go_enter Try.func21, Try.ntmps21
  go_wp2_with (first
    | (go_at_call 30; ((with_reducible refine F.out.mono ?_); rintro r w1 ⟨rfl, b1⟩; have B1 := Lib.hid (bel_alloc b1 (.cells #[.string f, .string t, .bool b] 73)); have P1 := HP.out.later B1.out; have c0 := P1.c0; obtain ⟨w2, hrun, p2, c2⟩ := P1.drop x hx 0; have P2 := Lib.hid p2; have C2 := Lib.hid c2; clear b1 P1 p2 c2))
    | fail)
  go_ret
  exact ⟨rfl, P2.out, (Chg.of_below (D := fun g => g = M) B1.out).trans C2.out (fun g e => .inl e)⟩
end Go.Proofs.Ytdbcaiggliiacaa
