/- The document's book: something waits. -/
import Derived.Test.YtlffigkjhhcohaaR2
namespace Go.Proofs.Ytlffigkjhhcohaa
set_option linter.unusedSimpArgs false
open Go.RowKit Go.Maps
set_option linter.unusedVariables false
variable {F : Nat → Prop}

/-- A row is put behind a row of the call's own. -/
theorem put_any {w : World} {base n : Nat} {v : Value} {xs : List Value} (h : w.ownsRow base 3 1 v n xs) (hn : n ≤ 1000000) (hb : base ≤ w.heap.size) (A : Option Addr) (m c : Nat) (l : List Int) (hl : l.length = m) (hm : m ≤ 1000000) (hr : RdI w A l) (ty : TypeId) :
    ∃ v' w', (Builtin.append_ #[30, 30] ty #[v, .slice A m c]).run Try.prog w = .ok v' w' ∧ w'.ownsRow base 3 1 v' (n + m) (xs ++ l.map (Value.int .i64)) ∧ w.grownBy w' v.ownBlock ∧ (v'.ownBlock = v.ownBlock ∨ v'.ownBlock = some w.heap.size) := by
  obtain ⟨i0, hI0, hI1, hI2, hI3⟩ := info_parts info3
  cases A with
  | none =>
    have h0 : l = [] := by
      rcases hr with h | ⟨b, off, e, _⟩
      · exact List.map_eq_nil_iff.1 h
      · cases e
    subst h0
    subst hl
    refine ⟨v, w, ?_, by simpa using h, ⟨rfl, rfl, rfl, Nat.le_refl _, fun _ _ _ => rfl⟩, .inl rfl⟩
    rcases h.2 with ⟨rfl, h0⟩ | ⟨g, cap, cur, rfl, _, _, hcap, _⟩
    · simp [Builtin.append_, run_underlying Try.underlying30, sizeOf, typeInfo, hI0, Builtin.lenOf, Builtin.firstCells]
    · simp [Builtin.append_, run_underlying Try.underlying30, sizeOf, typeInfo, hI0, Builtin.lenOf, Builtin.firstCells, hcap, storeCells]
  | some a =>
    have hnews : ∀ j u, (l.map (Value.int .i64))[j]? = some u → w.cell? (a.add j) = some u := by
      rcases hr with h | ⟨b, off, e, hlt, hc⟩
      · intro j u hu; rw [h] at hu; simp at hu
      · cases e; exact rdi_news (.inr ⟨b, off, rfl, hlt, hc⟩)
    obtain ⟨v', w', hr', h2, h3, _, h5⟩ := run_append_own_at (P := Try.prog) w base 30 ty 3 i0 (.int .i64 0) 1 8 Try.underlying30 hI0 hI1 hI2 hI3 rfl (by decide) v n xs h a m c (l.map (Value.int .i64)) (by rw [List.length_map, hl, Nat.mul_one]) hnews (one_ints _) (by unfold maxLen; omega) (by omega) hb
    exact ⟨v', w', hr', h2, h3, h5⟩
theorem wpList_put_any (w : World) {ops : Array Oper} {rest : List Oper} {o : Oper} {a : Act} {Q : Exit → Act → World → Prop} (hg : o.guard = none) (s x : Operand)
    (hop : o.op = Op.call { callee := Callee.builtin Builtin.append, args := #[s, x], argTypes := #[30, 30] }) {base n : Nat} {v : Value} {xs : List Value} (A : Option Addr) (m c : Nat) (l : List Int) (hs : a.eval s = v) (hx : a.eval x = .slice A m c)
    (h : w.ownsRow base 3 1 v n xs) (hn : n ≤ 1000000) (hb : base ≤ w.heap.size) (hl : l.length = m) (hm : m ≤ 1000000) (hr : RdI w A l)
    (hK : ∀ v' w', w'.ownsRow base 3 1 v' (n + m) (xs ++ l.map (Value.int .i64)) → w.grownBy w' v.ownBlock → (v'.ownBlock = v.ownBlock ∨ v'.ownBlock = some w.heap.size) → wpList Try.prog ops Q rest (a.put o.dst v') w') :
    wpList Try.prog ops Q (o :: rest) a w := by
  refine wpList_plain hg fun K' hK' => ?_
  obtain ⟨v', w', hrun, r1, r2, r3⟩ := put_any h hn hb A m c l hl hm hr o.type
  unfold Oper.wp
  simp [execOp, hop, resolve, invoke, builtin, hs, hx, hrun, Result.andThen]
  exact hK' _ _ (hK v' w' r1 r2 r3)

theorem step_put_any (w : World) {ops : Array Oper} {o : Oper} {a : Act} {K : Act → World → Prop} {Q : Exit → Act → World → Prop} {E : Prop} (hg : o.guard = none) (s x : Operand)
    (hop : o.op = Op.call { callee := Callee.builtin Builtin.append, args := #[s, x], argTypes := #[30, 30] }) {base n : Nat} {v : Value} {xs : List Value} (A : Option Addr) (m c : Nat) (l : List Int) (hs : a.eval s = v) (hx : a.eval x = .slice A m c)
    (h : w.ownsRow base 3 1 v n xs) (hn : n ≤ 1000000) (hb : base ≤ w.heap.size) (hl : l.length = m) (hm : m ≤ 1000000) (hr : RdI w A l)
    (hK : ∀ v' w', w'.ownsRow base 3 1 v' (n + m) (xs ++ l.map (Value.int .i64)) → w.grownBy w' v.ownBlock → (v'.ownBlock = v.ownBlock ∨ v'.ownBlock = some w.heap.size) → K (a.put o.dst v') w') :
    if Region.wanted o (yielded ops a.tmps) = true then Oper.wp Try.prog o a w K Q else E := by
  have hw : Region.wanted o (yielded ops a.tmps) = true := by simp [Region.wanted, hg]
  rw [if_pos hw]
  obtain ⟨v', w', hrun, r1, r2, r3⟩ := put_any h hn hb A m c l hl hm hr o.type
  unfold Oper.wp
  simp [execOp, hop, resolve, invoke, builtin, hs, hx, hrun, Result.andThen]
  exact hK v' w' r1 r2 r3
theorem grown_set {w : World} {N j : Nat} {v : Value} : w.grownBy (w.setCell ⟨N, j, none⟩ v) (some N) :=
  ⟨rfl, rfl, rfl, by simp, fun i _ hi => heap_setCell_other _ _ _ _ (fun e => hi (by rw [e]))⟩
theorem grown_row {w : World} {N : Nat} {cs : Array Value} : w.grownBy (w.setRow N cs) (some N) :=
  ⟨rfl, rfl, rfl, by simp, fun i _ hi => setRow_other _ _ _ _ (fun e => hi (by rw [e]))⟩
theorem blk_grown {W w1 : World} {row : Option Nat} (hg : W.grownBy w1 row) {g : Nat} {o : Obj} (h : W.heap[g]? = some o) (hne : some g ≠ row) : w1.heap[g]? = some o := by
  rw [hg.block g (Array.getElem?_eq_some_iff.1 h).1 hne]; exact h
theorem rdi_lit (w : World) (t : TypeId) (l : List Int) : RdI (w.alloc (.cells (l.map (Value.int .i64)).toArray t)) (some ⟨w.heap.size, 0, none⟩) l := by
  refine .inr ⟨w.heap.size, 0, rfl, by simp, fun j u hj => ?_⟩
  have := World.news_of_block (w := w.alloc (.cells (l.map (Value.int .i64)).toArray t)) (B := w.heap.size) (cs := (l.map (Value.int .i64)).toArray) (t := t) (fr := (0, 0)) (heap_alloc_new w _) j u (by simpa using hj)
  have hadd : (⟨w.heap.size, 0, none⟩ : Addr).add j = ⟨w.heap.size, 0 + j, none⟩ := by unfold Addr.add; split <;> simp_all
  rw [hadd] at this; exact this
/-- Cells of a book with other rows and another epoch. -/
theorem RBk.rows {w w' : World} {cs : Array Value} {b : RB} (h : RBk F w cs b) {A A' : Option Addr} {c c' : Nat} {l l' : List Int} {n : Int} (hA : RdF F w' A l) (hA' : RdF F w' A' l') :
    RBk F w' (((cs.setIfInBounds 132 (.slice A l.length c)).setIfInBounds 133 (.slice A' l'.length c')).setIfInBounds 1 (.int .i64 n)) { b with now := n, wl := l, al := l' } := by
  obtain ⟨h1, h2, h3, h4, h5, h6, _, _⟩ := h
  have e : ∀ j, (((cs.setIfInBounds 132 (.slice A l.length c)).setIfInBounds 133 (.slice A' l'.length c')).setIfInBounds 1 (.int .i64 n))[j]? = if j = 1 then some (.int .i64 n) else if j = 133 then some (.slice A' l'.length c') else if j = 132 then some (.slice A l.length c) else cs[j]? := by
    intro j
    rw [set_get _ _ _ _ (by rw [Array.size_setIfInBounds, Array.size_setIfInBounds, h1]; omega), set_get _ _ _ _ (by rw [Array.size_setIfInBounds, h1]; omega), set_get _ _ _ _ (by rw [h1]; omega)]
  refine ⟨by simp [h1], one_set (one_set (one_set h2 _ rfl) _ rfl) _ rfl, ?_, ?_, ?_, ?_, ⟨A, c, ?_, hA⟩, ⟨A', c', ?_, hA'⟩⟩
  · rw [e, if_neg (by omega), if_neg (by omega), if_neg (by omega)]; exact h3
  · rw [e, if_pos rfl]
  · intro i hi
    rw [e, if_neg (by omega), if_neg (by omega), if_neg (by omega)]; exact h5 i hi
  · intro i hi
    rw [e, if_neg (by omega), if_neg (by omega), if_neg (by omega)]; exact h6 i hi
  · rw [e, if_neg (by omega), if_neg (by omega), if_pos rfl]
  · rw [e, if_neg (by omega), if_pos rfl]
end Go.Proofs.Ytlffigkjhhcohaa
