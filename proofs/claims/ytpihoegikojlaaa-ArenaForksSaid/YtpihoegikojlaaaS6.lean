/- Both alike: words. -/
import Derived.Test.YtpihoegikojlaaaS0
namespace Go.Proofs.Ytpihoegikojlaaa
set_option linter.unusedSimpArgs false
open Go.RowKit Go.Maps
set_option linter.unusedVariables false
variable {F : Nat → Prop}

open Go.Shelf
attribute [local go_sem] Oper.semAt_some
theorem ST.chg {lo N : Nat} {K : Nat → Prop} {b b' : AB} {w w' : World} {cs : Array Value} (h : ST lo N K b b' w cs) (hc : Chg K w w') : ST lo N K b b' w' cs := by
  obtain ⟨A, G, c, d, h1, h2, h3, h4, hK⟩ := h
  exact ⟨A, G, c, d, h1.far hc (fun g hg => (hK g hg).2), h2.chg (hc.more (fun g hg => .inl (.inr hg))) (fun g hg => .inl hg), h3, h4, fun g hg => ⟨Nat.lt_of_lt_of_le (hK g hg).1 hc.size, (hK g hg).2⟩⟩
/-- The key of the last of the first k. -/
def lastK (L : List (Int × Int)) : Nat → Int
  | 0 => 0
  | k + 1 => (L.getD k (0, 0)).1
theorem lastK_app (l r : List (Int × Int)) (k : Nat) (h : k ≤ l.length) : lastK (l ++ r) k = lastK l k := by
  cases k with
  | zero => rfl
  | succ k => simp only [lastK, List.getD_eq_getElem?_getD]; rw [List.getElem?_append_left (by omega)]
theorem tkL_key {b : AB} (n k : Nat) (p : Int × Int) (h : (tkL b n)[k]? = some p) : ∃ j : Nat, j < n ∧ p = ((j : Int) + 1, b.vl (j + 1)) ∧ b.tk (j + 1) = true := by
  induction n with
  | zero => simp [tkL] at h
  | succ n ih =>
    by_cases c : k < (tkL b n).length
    · simp only [tkL] at h
      rw [List.getElem?_append_left c] at h
      obtain ⟨j, h1, h2⟩ := ih h
      exact ⟨j, by omega, h2⟩
    · simp only [tkL] at h
      rw [List.getElem?_append_right (by omega)] at h
      split at h
      · rename_i ht
        have : p = (((n + 1 : Nat) : Int), b.vl (n + 1)) := by
          rcases hq : k - (tkL b n).length with _ | m
          · rw [hq] at h; simpa using h.symm
          · rw [hq] at h; simp at h
        exact ⟨n, by omega, by rw [this]; simp, ht⟩
      · simp at h
theorem tkL_last {b : AB} (n : Nat) : lastK (tkL b n) (tkL b n).length ≤ n ∧ 0 ≤ lastK (tkL b n) (tkL b n).length := by
  rcases hl : (tkL b n).length with _ | k
  · simp [lastK]
  · have hk : k < (tkL b n).length := by omega
    obtain ⟨j, h1, h2, _⟩ := tkL_key n k _ (List.getElem?_eq_getElem hk)
    simp only [lastK, List.getD_eq_getElem?_getD, List.getElem?_eq_getElem hk, Option.getD_some]
    rw [h2]
    simp only
    omega
theorem tkL_up {b : AB} (n k : Nat) (p : Int × Int) (h : (tkL b n)[k]? = some p) : lastK (tkL b n) k < p.1 := by
  induction n with
  | zero => simp [tkL] at h
  | succ n ih =>
    have hk := (List.getElem?_eq_some_iff.1 h).1
    by_cases c : k < (tkL b n).length
    · simp only [tkL] at h ⊢
      rw [List.getElem?_append_left c] at h
      rw [lastK_app _ _ _ (by omega)]
      exact ih h
    · obtain ⟨j, h1, h2, h3⟩ := tkL_key (n + 1) k p h
      have hl := tkL_last (b := b) n
      simp only [tkL] at h hk ⊢
      have hk2 : k = (tkL b n).length := by
        rw [List.length_append] at hk
        split at hk <;> simp at hk <;> omega
      rw [lastK_app _ _ _ (by omega), hk2]
      rw [List.getElem?_append_right (by omega), hk2, Nat.sub_self] at h
      split at h
      · simp at h; rw [← h]; simp only; omega
      · simp at h
theorem tkL_cnt {b : AB} (h0 : b.tk 0 = false) (n : Nat) : (tkL b n).length = cnt b.tk (n + 1) := by
  induction n with
  | zero => simp [tkL, cnt, h0]
  | succ n ih =>
    have e : cnt b.tk (n + 1 + 1) = if b.tk (n + 1) = true then cnt b.tk (n + 1) + 1 else cnt b.tk (n + 1) := rfl
    simp only [tkL, List.length_append, ih]
    rw [e]
    split <;> simp
theorem cnt_flat (tk : Nat → Bool) (m n : Nat) (h : m ≤ n) (hf : ∀ k, m ≤ k → tk k = false) : cnt tk n = cnt tk m := by
  induction n with
  | zero => obtain rfl : m = 0 := by omega
            rfl
  | succ n ih =>
    by_cases c : m = n + 1
    · rw [c]
    · have := ih (by omega)
      show (if tk n = true then cnt tk n + 1 else cnt tk n) = _
      rw [hf n (by omega)]; simpa using this
theorem IV.all {b : AB} (iv : IV b) : (tkL b b.top).length = cnt b.tk 64 := by
  have h0 : b.tk 0 = false := by
    rcases hq : b.tk 0 with _ | _
    · rfl
    · have := (iv.out _ hq).1; omega
  rw [tkL_cnt h0]
  have ht := iv.top60
  refine (cnt_flat b.tk (b.top + 1) 64 (by omega) (fun k hk => ?_)).symm
  rcases hq : b.tk k with _ | _
  · rfl
  · have := (iv.out _ hq).2; omega
theorem wpListIn_load_row {Fc : Fence} {n : Nat} {ops : Array Oper} {rest : List Oper} {o : Oper} {a : Act} {w : World} {Q : Exit → Act → World → Prop} (hw : Region.wanted o (yielded ops a.tmps) = true) (x : Operand) (ho : o.op = .load 33 x)
    (g : Nat) (hx : a.eval x = .pointer (some ⟨g, 0, none⟩)) (cs : Array Value) (hg : w.heap[g]? = some (.cells cs 33 (0, 0))) (hs : cs.size = 131)
    (h : wpListIn Fc n Try.prog ops Q rest (a.put o.dst (.agg cs)) w) : wpListIn Fc n Try.prog ops Q (o :: rest) a w := by
  refine wpListIn_step fun K hK => ?_
  rw [if_pos hw]
  refine ⟨?_, ?_⟩
  · intro f hf; simp [Oper.about, ho] at hf
  · rw [Oper.semAt_plain Fc _ _ (by rw [ho]; intro c hc'; cases hc'), ex_load_row x ho g hx cs hg hs]
    exact hK _ _ h
/-- A post that is reached at the end alone. -/
def calm (Q : Exit → Act → World → Prop) : Exit → Act → World → Prop
  | .normal, a, w => Q .normal a w
  | _, _, _ => False
theorem calm_normal {Q : Exit → Act → World → Prop} {a : Act} {w : World} (h : Q .normal a w) : calm Q .normal a w := h
theorem wpIn_calm {Fc : Fence} {n : Nat} {P : Program} {c : Code} {Q : Exit → Act → World → Prop} {a : Act} {w : World} (h : c.wpIn Fc n P (calm Q) a w) : c.wpIn Fc n P Q a w :=
  wpIn_mono h (fun e a w h => by cases e <;> first | exact h | exact h.elim)
/-- What lies between the rounds. -/
def AlI (bn bl : Nat) (L : List (Int × Int)) (k : Nat) (D : Nat → Prop) (W : World) : Prop := D = (fun g => g = bn ∨ g = bl) ∧ Boxed W bn 3 (.int .i64 k) ∧ Boxed W bl 3 (.int .i64 (lastK L k))
theorem alI_loc (bn bl B : Nat) (L : List (Int × Int)) : LocB B (AlI bn bl L) := by
  rintro k D W W' ⟨rfl, h1, h2⟩ hc
  exact ⟨rfl, boxed_chg h1 hc (fun h => h.1 (.inl rfl)), boxed_chg h2 hc (fun h => h.1 (.inr rfl))⟩
theorem run_isnil (g : Fn) (r l : Array Value) (W : World) : Sem.run Try.prog (binOp BinOp.eql 44 (Value.func g r l) Value.nilFunc) W = .ok (.bool false) W := by
  have h0 : ∀ d : Nat, (Op.equalIn (d + 1) 44 (Value.func g r l) Value.nilFunc).run Try.prog W = .ok false W := fun d => by simp [Op.equalIn, run_underlying Try.underlying44]
  have h1 := h0 9999
  have e : Op.equal 44 (Value.func g r l) Value.nilFunc = Op.equalIn (9999 + 1) 44 (Value.func g r l) Value.nilFunc := rfl
  rw [← e] at h1
  simp [binOp, go_sem, h1]
end Go.Proofs.Ytpihoegikojlaaa
