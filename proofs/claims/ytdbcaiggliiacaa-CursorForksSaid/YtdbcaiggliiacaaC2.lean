/- A table of cursors. -/
import Derived.Test.YtdbcaiggliiacaaC1
import Derived.Test.YtdbcaiggliiacaaA1
namespace Go.Proofs.Ytdbcaiggliiacaa
set_option linter.unusedSimpArgs false
open Go.RowKit Go.Maps
set_option linter.unusedVariables false
/-- A cursor: from where to where it has still to tell, and whether it is at its end. -/
abbrev Cur := ByteArray × ByteArray × Bool
def cvv (c : Cur) : Value := .agg #[.string c.1, .string c.2.1, .bool c.2.2]
def zc : Cur := (⟨#[]⟩, ⟨#[]⟩, false)
theorem zc_eq : zcur = cvv zc := rfl
/-- A table in memory. -/
def PT (w : World) (N M m n : Nat) (last : Int) (S : Int → Option Cur) : Prop :=
  w.heap[N]? = some (.cells #[.map (some M), .int .i64 last] 58 (0, 0)) ∧ OM w M m n (fun x => (S x).map cvv)
theorem PT.c0 {w : World} {N M m n : Nat} {last : Int} {S : Int → Option Cur} (h : PT w N M m n last S) : w.cell? ⟨N, 0, none⟩ = some (.map (some M)) := by simp [World.cell?, h.1]
theorem PT.c1 {w : World} {N M m n : Nat} {last : Int} {S : Int → Option Cur} (h : PT w N M m n last S) : w.cell? ⟨N, 1, none⟩ = some (.int .i64 last) := by simp [World.cell?, h.1]
theorem PT.lt {w : World} {N M m n : Nat} {last : Int} {S : Int → Option Cur} (h : PT w N M m n last S) : N < w.heap.size ∧ M < w.heap.size := ⟨(Array.getElem?_eq_some_iff.1 h.1).1, h.2.lt⟩
theorem PT.ne {w : World} {N M m n : Nat} {last : Int} {S : Int → Option Cur} (h : PT w N M m n last S) : N ≠ M := by
  rintro rfl
  obtain ⟨D, ⟨es, ck, hb, _⟩, _⟩ := h.2
  rw [h.1] at hb; cases hb
theorem PT.keep {w w' : World} {D : Nat → Prop} {N M m n : Nat} {last : Int} {S : Int → Option Cur} (h : PT w N M m n last S) (hc : Chg D w w') (h1 : ¬ D N) (h2 : ¬ D M) : PT w' N M m n last S :=
  ⟨keep_chg hc h.1 h1, h.2.heap (hc.block M h.2.lt h2)⟩
theorem PT.later {w w' : World} {N M m n : Nat} {last : Int} {S : Int → Option Cur} (h : PT w N M m n last S) (hb : Below w.heap.size w w') : PT w' N M m n last S :=
  h.keep (D := fun _ => False) (Chg.of_below hb) (fun e => e) (fun e => e)
theorem PT.look {w : World} {N M m n : Nat} {last : Int} {S : Int → Option Cur} (h : PT w N M m n last S) (x : Int) (hx : (Lit.int .i64 x).wf = true) :
    (Instr.lookup 56 (.map (some M)) (.int .i64 x) true).run Try.prog w = .ok (.tuple #[cvv ((S x).getD zc), .bool (S x).isSome]) w := by
  rw [h.2.look x hx]
  cases S x <;> rfl
theorem heap_alloc_new' {w : World} (o p : Obj) : ((w.alloc o).alloc p).heap[w.heap.size + 1]? = some p := by
  have := heap_alloc_new (w.alloc o) p
  rw [World.size_alloc] at this
  exact this
theorem new_any (w : World) : Calls Try.prog 7 #[] w fun e w' => ∃ N M, e = .returned (.pointer (some ⟨N, 0, none⟩)) ∧ PT w' N M 0 0 0 (fun _ => none) ∧ w.heap.size ≤ N ∧ w.heap.size ≤ M ∧ Below w.heap.size w w' := by
  have hmm := @run_makeMap Try.prog
  have h0 := Lib.hid (OM.made w)
  have h1 := Lib.hid (alb w (.map #[] 0))
  go_enter Try.func7, Try.ntmps7
  go_wp2
  go_ret
  exact ⟨_, _, rfl, ⟨heap_alloc_new' _ _, h0.out.heap (rows_old _ _ _ h0.out.lt)⟩, by omega, Nat.le_refl _, bel_alloc h1.out _⟩
abbrev Z73 : Obj := .cells #[.string ⟨#[]⟩, .string ⟨#[]⟩, .bool false] 73
set_option maxRecDepth 10000 in
theorem find_some {w : World} {N M m n : Nat} {last : Int} {S : Int → Option Cur} (h : PT w N M m n last S) (x : Int) (hx : (Lit.int .i64 x).wf = true) (a b : ByteArray) (e : Bool) (hc : S x = some (a, b, e)) :
    Calls Try.prog 30 #[.pointer (some ⟨N, 0, none⟩), .int .i64 x] w fun r w' => r = .returned (.tuple #[.agg #[.string a, .string b, .bool e], .int .i64 0]) ∧ Below w.heap.size w w' := by
  have h1 := h.later (alb w Z73)
  have c0 := h1.c0
  have hl := h1.look x hx
  rw [hc] at hl
  simp only [Option.getD_some, Option.isSome_some, cvv] at hl
  have HB := Lib.hid (alb w Z73)
  clear h hc h1
  go_enter Try.func30, Try.ntmps30
  go_wp2
  exact bodyPost_ret (v := .tuple #[.agg #[.string a, .string b, .bool e], .int .i64 0]) (by simp [results, Try.results30, go_sem]) rfl ⟨rfl, by go_grown⟩
set_option maxRecDepth 10000 in
theorem find_none {w : World} {N M m n : Nat} {last : Int} {S : Int → Option Cur} (h : PT w N M m n last S) (x : Int) (hx : (Lit.int .i64 x).wf = true) (hc : S x = none) :
    Calls Try.prog 30 #[.pointer (some ⟨N, 0, none⟩), .int .i64 x] w fun r w' => r = .returned (.tuple #[.agg #[.string ⟨#[]⟩, .string ⟨#[]⟩, .bool false], .int .i64 11]) ∧ Below w.heap.size w w' := by
  have h1 := h.later (alb w Z73)
  have c0 := h1.c0
  have hl := h1.look x hx
  rw [hc] at hl
  simp only [Option.getD_none, Option.isSome_none, cvv, zc] at hl
  have HB := Lib.hid (alb w Z73)
  clear h hc h1
  go_enter Try.func30, Try.ntmps30
  go_wp2
  exact bodyPost_ret (v := .tuple #[.agg #[.string ⟨#[]⟩, .string ⟨#[]⟩, .bool false], .int .i64 11]) (by simp [results, Try.results30, go_sem]) rfl ⟨rfl, bel_alloc HB.out _⟩
end Go.Proofs.Ytdbcaiggliiacaa
