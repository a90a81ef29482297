/- levels of the one tree: what it keeps. -/
import Derived.Test.YtniffjjkjgfacaaZ2
namespace Go.Proofs.Ytniffjjkjgfacaa
set_option linter.unusedSimpArgs false
open Go.RowKit Go.Maps Go.Shelf
set_option linter.unusedVariables false
attribute [local go_sem] Oper.semAt_some
theorem one23 (k : Int) (a1 a2 a3 a4 : Option Addr) (n1 n2 n3 n4 e1 e2 e3 e4 : Nat) (w : World) : Calls Try.prog 23 #[.agg #[.int .u8 k, .slice a1 n1 e1, .slice a2 n2 e2, .slice a3 n3 e3, .slice a4 n4 e4]] w fun e w' => e = .returned (.int .i64 1) ∧ Below w.heap.size w w' := by
  go_enter Try.func23, Try.ntmps23
  go_wp2
  go_ret
  exact ⟨rfl, alb w _⟩
theorem im_exec {o : Oper} {a : Act} {W : World} {M n : Nat} {S : Int → Int} (m x : Operand) (hop : o.op = Op.lookup 71 m x false) (h : IM W M n S) (hm : a.eval m = .map (some M)) (i : Int) (hx : a.eval x = .int .i64 i) (hi : (Lit.int .i64 i).wf = true) (v : Int) (hv : S i = v) :
    (execOp a.eval o).run Try.prog W = .ok (.value (.int .i64 v)) W := by
  obtain ⟨D, h1, h2, h3⟩ := h
  obtain ⟨c, hrun, hat, hwc⟩ := h1.lookup_int (q := .i64) law3 Try.underlying71 Try.underlying3 (zero3 W) (keyOf_int_mk (P := Try.prog) Try.underlying3 hi)
  have hc : c = v := (im_val (hat.symm.trans (h3 i))).trans hv
  rw [hc] at hrun
  clear hat hwc hc
  simp [execOp, hop, hm, hx, hrun, Result.andThen]
theorem row_set {w : World} {base g c : Nat} {l : List Int} (h : EI.Row w base (some ⟨g, 0, none⟩) l c) (j : Nat) (v : Int) : EI.Row (w.setCell ⟨g, j, none⟩ (.int .i64 v)) base (some ⟨g, 0, none⟩) (l.set j v) c := by
  rcases h with ⟨rfl, h⟩ | ⟨h0, hl, h⟩
  · exact .inl ⟨by simp, h⟩
  · refine .inr ⟨h0, by rw [EI.all_len], ?_⟩
    rcases h with ⟨h1, h2⟩ | ⟨g', cap, cur, e, hb, hh, h1, h2, h3, h4⟩
    · injection h1 with e1
      cases e1
    · injection e with e1 e2 e3
      subst e3
      injection e1 with e1
      injection e1 with e1
      subst e1
      refine .inr ⟨g, c, cur.setIfInBounds j (.int .i64 v), by rw [List.length_set], hb, ?_, by rw [List.length_set]; exact h1, h2, by simpa using h3, ?_⟩
      · simp [World.setCell, Array.getElem?_modify, hh]
      · have e5 : EI.all (l.set j v) = (EI.all l).set j (.int .i64 v) := by
          have e6 : ∀ l : List Int, EI.all l = l.map (Value.int .i64) := fun l => by simp [RE.all, EI, List.flatMap_singleton']; exact (List.map_eq_flatMap).symm
          rw [e6, e6, List.map_set]
        rw [e5, ← h4, List.length_set, Array.toList_setIfInBounds, List.take_set]
end Go.Proofs.Ytniffjjkjgfacaa
