/- A map of numbers to numbers; what survey keeps. -/
import Derived.Maps.OwnSet
import Derived.Maps.RangeWalk
import Derived.Test.YtniffjjkjgfacaaY7
namespace Go.Proofs.Ytniffjjkjgfacaa
set_option linter.unusedSimpArgs false
open Go.RowKit Go.Maps Go.Shelf
set_option linter.unusedVariables false
attribute [local go_sem] Oper.semAt_some
theorem law3 : Keyed Try.prog 3 := int_keyed Try.underlying3
theorem zero3 (w : World) : (zeroValue 3).run Try.prog w = .ok (.int .i64 0) w := by kernel_rfl
theorem ikey (x : Int) : WideAt.IsKeyLit (.int .i64 x) := trivial
def upd (S : Int → Int) (x v : Int) : Int → Int := fun y => if y = x then v else S y
/-- Block M is a map that holds what S says. -/
def IM (W : World) (M m : Nat) (S : Int → Int) : Prop := ∃ D : DataW Unit, W.ownsMap Try.prog 3 (plainElem Try.prog 3) M m D ∧ Maps.IsMap D ∧ ∀ x, D.atKey (.int .i64 x) (.lit (.int .i64 0)) = .lit (.int .i64 (S x))
theorem IM.made (w : World) : IM (w.alloc (.map #[] 0)) w.heap.size 0 (fun _ => 0) := ⟨_, World.ownsMap_made (H := Unit) w Try.prog 3 _, Maps.isMap_empty, fun x => rfl⟩
theorem IM.kept {w w' : World} {M m : Nat} {S : Int → Int} {row : Option Nat} (h : IM w M m S) (hg : w.grownBy w' row) (hne : some M ≠ row) : IM w' M m S := by
  obtain ⟨D, h1, h2⟩ := h
  exact ⟨D, h1.kept hg hne, h2⟩
theorem IM.lt {w : World} {M m : Nat} {S : Int → Int} (h : IM w M m S) : M < w.heap.size := by
  obtain ⟨D, h1, _⟩ := h
  exact h1.lt
theorem IM.heap {w w' : World} {M m : Nat} {S : Int → Int} (h : IM w M m S) (e : w'.heap[M]? = w.heap[M]?) : IM w' M m S := by
  obtain ⟨D, ⟨es, ck, hb, F, hs, hD⟩, h2⟩ := h
  exact ⟨D, ⟨es, ck, by rw [e]; exact hb, F, hs, hD⟩, h2⟩
theorem IM.isMap {w : World} {M m : Nat} {S : Int → Int} (h : IM w M m S) : ∃ es ck, w.heap[M]? = some (.map es ck) := by
  obtain ⟨D, ⟨es, ck, hb, F, hs, hD⟩, h2⟩ := h
  exact ⟨es, ck, hb⟩
theorem IM.later {w w' : World} {M m : Nat} {S : Int → Int} (h : IM w M m S) (hb : Below w.heap.size w w') : IM w' M m S := h.heap (hb.block M h.lt)
theorem im_val {a b : Int} (h : (DataW.lit (.int .i64 a) : DataW Unit) = .lit (.int .i64 b)) : a = b := by injection h with e; injection e
theorem im_look (w : World) {ops : Array Oper} {rest : List Oper} {o : Oper} {a : Act} {Q : Exit → Act → World → Prop} (hg : o.guard = none) (m x : Operand) (hop : o.op = Op.lookup 71 m x false) {M n : Nat} {S : Int → Int} (h : IM w M n S)
    (hm : a.eval m = .map (some M)) (i : Int) (hx : a.eval x = .int .i64 i) (hi : (Lit.int .i64 i).wf = true) (v : Int) (hv : S i = v) (hK : wpList Try.prog ops Q rest (a.put o.dst (.int .i64 v)) w) : wpList Try.prog ops Q (o :: rest) a w := by
  subst hv
  obtain ⟨D, h1, h2, h3⟩ := h
  refine wpList_lookup_own_int w hg m x 71 hop 3 3 .i64 law3 Try.underlying71 Try.underlying3 (zero3 _) M n D hm h1 _ _ hx (keyOf_int_mk (P := Try.prog) Try.underlying3 hi) (fun c hat _ => ?_)
  rw [h3 i] at hat
  obtain rfl : S i = c := by injection hat with e1; injection e1
  exact hK
theorem im_glook (w : World) {ops : Array Oper} {rest : List Oper} {o : Oper} {a : Act} {Q : Exit → Act → World → Prop} (hw : Region.wanted o (yielded ops a.tmps) = true) (m x : Operand) (hop : o.op = Op.lookup 71 m x false) {M n : Nat} {S : Int → Int} (h : IM w M n S)
    (hm : a.eval m = .map (some M)) (i : Int) (hx : a.eval x = .int .i64 i) (hi : (Lit.int .i64 i).wf = true) (v : Int) (hv : S i = v) (hK : wpList Try.prog ops Q rest (a.put o.dst (.int .i64 v)) w) : wpList Try.prog ops Q (o :: rest) a w := by
  subst hv
  obtain ⟨D, h1, h2, h3⟩ := h
  unfold wpList
  rw [if_pos hw]
  left
  obtain ⟨c, hrun, hat, hwc⟩ := h1.lookup_int (q := .i64) law3 Try.underlying71 Try.underlying3 (zero3 w) (keyOf_int_mk (P := Try.prog) Try.underlying3 hi)
  have hc : c = S i := im_val (hat.symm.trans (h3 i))
  rw [hc] at hrun
  clear hat hwc hc
  unfold Oper.wp
  simp [execOp, hop, hm, hx, hrun, Result.andThen]
  exact hK
theorem im_put (w : World) {ops : Array Oper} {rest : List Oper} {o : Oper} {a : Act} {Q : Exit → Act → World → Prop} (hg : o.guard = none) (m x v : Operand) (hop : o.op = Op.mapUpdate 71 m x v) {M n : Nat} {S : Int → Int} (h : IM w M n S) (hn : n < maxLen)
    (hm : a.eval m = .map (some M)) (i j : Int) (hx : a.eval x = .int .i64 i) (hv : a.eval v = .int .i64 j) (hi : (Lit.int .i64 i).wf = true) (hj : (Lit.int .i64 j).wf = true)
    (hK : ∀ w', IM w' M (n + 1) (upd S i j) → w.grownBy w' (some M) → wpList Try.prog ops Q rest (a.put o.dst undef) w') : wpList Try.prog ops Q (o :: rest) a w := by
  obtain ⟨D, h1, h2, h3⟩ := h
  refine wpList_mapUpdate_own w hg m x v 71 hop 3 3 law3 Try.underlying71 _ M n D hm h1 hn _ _ _ hx hv (keyOf_int_mk (P := Try.prog) Try.underlying3 hi) _ [] (plainElem_int Try.underlying3 hj) (fun w' hw hgr => hK w' ⟨_, hw, h2.put _ _, fun y => ?_⟩ hgr)
  by_cases c : y = i
  · subst c; rw [Maps.atKey_put_same h2 (ikey y)]; simp [upd]
  · rw [Maps.atKey_put_other (by simpa using c), h3 y]; simp [upd, c]
theorem RE.Row.cut {α : Type} {E : RE α} {w : World} {base : Nat} {A : Option Addr} {l : List α} {c : Nat} (h : E.Row w base A l c) (n : Nat) : E.Row w base A (l.take n) c := by
  rcases h with ⟨rfl, h⟩ | ⟨h0, hl, h⟩
  · exact .inl ⟨by simp, h⟩
  · refine .inr ⟨h0, by rw [E.all_len], ?_⟩
    rcases h with ⟨h1, h2⟩ | ⟨g, cap, cur, e, hb, hh, h1, h2, h3, h4⟩
    · injection h1 with _ _ e3
      omega
    · injection e with e1 e2 e3
      subst e1 e3
      refine .inr ⟨g, c, cur, rfl, hb, hh, Nat.le_trans (by rw [List.length_take]; omega) h1, h2, h3, ?_⟩
      rw [E.all_take, ← h4, List.take_take, List.length_take]
      congr 1
      have : n * E.k ≤ l.length * E.k ∨ l.length * E.k ≤ n * E.k := by omega
      rcases Nat.le_total n l.length with q | q
      · rw [Nat.min_eq_left q, Nat.min_eq_left (Nat.mul_le_mul_right _ q)]
      · rw [Nat.min_eq_right q, Nat.min_eq_right (Nat.mul_le_mul_right _ q)]
theorem RE.Row.obj {α : Type} {E : RE α} {w : World} {base : Nat} {A : Option Addr} {l : List α} {c : Nat} (h : E.Row w base A l c) {g : Nat} (hf : RE.fp A c = some g) : ∃ cur, w.heap[g]? = some (.cells cur E.et (0, 0)) := by
  rcases h with ⟨_, rfl⟩ | ⟨h0, hl, h⟩
  · simp [RE.fp] at hf
  · rcases h with ⟨h1, h2⟩ | ⟨g', cap, cur, e, hb, hh, _⟩
    · injection h1 with _ _ e3
      omega
    · injection e with e1 e2 e3
      subst e1
      have : ¬ c = 0 := by omega
      simp [RE.fp, this] at hf
      subst hf
      exact ⟨cur, hh⟩
theorem row_map {α : Type} {E : RE α} {w : World} {base : Nat} {A : Option Addr} {l : List α} {c : Nat} (h : E.Row w base A l c) {M m : Nat} {S : Int → Int} (hm : IM w M m S) : some M ≠ RE.fp A c := by
  intro e
  obtain ⟨cur, h1⟩ := h.obj e.symm
  obtain ⟨es, ck, h2⟩ := hm.isMap
  rw [h1] at h2
  cases h2
/-- What survey keeps: both rows, the map, the tree's box. -/
structure SB (w : World) (t : Value) (M : Nat) (A8 : Option Addr) (l8 : List SP) (c8 : Nat) (A9 : Option Addr) (l9 : List SP) (c9 : Nat) (m : Nat) (S : Int → Int) (W : World) : Prop where
  r8 : ES.Row W (w.heap.size + 1) A8 l8 c8
  r9 : ES.Row W (w.heap.size + 1) A9 l9 c9
  ne : RE.fp A8 c8 = none ∨ RE.fp A8 c8 ≠ RE.fp A9 c9
  mp : IM W M m S
  ml : w.heap.size < M
  bx : Boxed W w.heap.size 46 t
  bel : Below w.heap.size w W
variable {w W W' : World} {t : Value} {M : Nat} {A8 A9 : Option Addr} {l8 l9 l : List SP} {c8 c9 m : Nat} {S : Int → Int}
theorem SB.later (h : SB w t M A8 l8 c8 A9 l9 c9 m S W) (hb : Below W.heap.size W W') : SB w t M A8 l8 c8 A9 l9 c9 m S W' :=
  ⟨h.r8.later hb, h.r9.later hb, h.ne, h.mp.later hb, h.ml, boxed_later h.bx hb, bel_trans h.bel hb⟩
theorem SB.cut9 (h : SB w t M A8 l8 c8 A9 l9 c9 m S W) (n : Nat) : SB w t M A8 l8 c8 A9 (l9.take n) c9 m S W := ⟨h.r8, h.r9.cut n, h.ne, h.mp, h.ml, h.bx, h.bel⟩
theorem SB.upd {i j : Int} (h : SB w t M A8 l8 c8 A9 l9 c9 m S W) (hg : W.grownBy W' (some M)) (hm : IM W' M (m + 1) (upd S i j)) : SB w t M A8 l8 c8 A9 l9 c9 (m + 1) (upd S i j) W' :=
  ⟨h.r8.kept hg (.inr (row_map h.r8 h.mp).symm), h.r9.kept hg (.inr (row_map h.r9 h.mp).symm), h.ne, hm, h.ml, boxed_chg h.bx (chg_of_grown hg) (fun e => by have := h.ml; injection e with e; omega), h.bel.trans ((chg_of_grown hg).below (fun g e => by have := h.ml; injection e with e; omega) h.bel.size)⟩
theorem fp_base {E : RE SP} {A : Option Addr} {c g : Nat} (h : E.Row W (w.heap.size + 1) A l c) (e : RE.fp A c = some g) : w.heap.size + 1 ≤ g := (h.fp_lt e).1
theorem SB.put8 {A : Option Addr} {c : Nat} (h : SB w t M A8 l8 c8 A9 l9 c9 m S W) (hg : W.grownBy W' (RE.fp A8 c8)) (hr : ES.Row W' (w.heap.size + 1) A l c) (h3 : RE.fp A c = none ∨ RE.fp A c = RE.fp A8 c8 ∨ RE.fp A c = some W.heap.size) : SB w t M A l c A9 l9 c9 m S W' := by
  refine ⟨hr, h.r9.kept hg ?_, ?_, h.mp.kept hg (row_map h.r8 h.mp), h.ml, boxed_chg h.bx (chg_of_grown hg) (fun e => by have := fp_base h.r8 e; omega), h.bel.trans ((chg_of_grown hg).below (fun g e => by have := fp_base h.r8 e; omega) h.bel.size)⟩
  · rcases h.ne with e | e
    · rw [e]
      cases hh : RE.fp A9 c9 with
      | none => exact .inl rfl
      | some g => exact .inr (by simp)
    · exact .inr e.symm
  · rcases h3 with e | e | e
    · exact .inl e
    · rw [e]; exact h.ne
    · right
      rw [e]
      intro e2
      have := (h.r9.fp_lt e2.symm).2
      omega
theorem SB.put9 {A : Option Addr} {c : Nat} (h : SB w t M A8 l8 c8 A9 l9 c9 m S W) (hg : W.grownBy W' (RE.fp A9 c9)) (hr : ES.Row W' (w.heap.size + 1) A l c) (h3 : RE.fp A c = none ∨ RE.fp A c = RE.fp A9 c9 ∨ RE.fp A c = some W.heap.size) : SB w t M A8 l8 c8 A l c m S W' := by
  refine ⟨h.r8.kept hg h.ne, hr, ?_, h.mp.kept hg (row_map h.r9 h.mp), h.ml, boxed_chg h.bx (chg_of_grown hg) (fun e => by have := fp_base h.r9 e; omega), h.bel.trans ((chg_of_grown hg).below (fun g e => by have := fp_base h.r9 e; omega) h.bel.size)⟩
  rcases h3 with e | e | e
  · rw [e]
    cases hh : RE.fp A8 c8 with
    | none => exact .inl rfl
    | some g => exact .inr (by simp)
  · rw [e]; exact h.ne
  · cases hh : RE.fp A8 c8 with
    | none => exact .inl rfl
    | some g =>
      right
      rw [e]
      intro e2
      have := (h.r8.fp_lt hh).2
      injection e2 with e2
      omega
end Go.Proofs.Ytniffjjkjgfacaa
