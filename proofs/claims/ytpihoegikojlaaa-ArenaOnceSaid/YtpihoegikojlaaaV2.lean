/- The law ArenaOnce: words. -/
import Derived.Test.YtpihoegikojlaaaV1
namespace Go.Proofs.Ytpihoegikojlaaa
set_option linter.unusedSimpArgs false
open Go.RowKit Go.Maps
set_option linter.unusedVariables false
variable {F : Nat → Prop}

open Go.Shelf
attribute [local go_sem] Oper.semAt_some
theorem wpListIn_store_row {Fc : Fence} {n : Nat} {ops : Array Oper} {rest : List Oper} {o : Oper} {a : Act} {w : World} {Q : Exit → Act → World → Prop} (hg : o.guard = none) (x y : Operand) (ho : o.op = .store 33 x y)
    (g : Nat) (cells : Array Value) (hx : a.eval x = .pointer (some ⟨g, 0, none⟩)) (hy : a.eval y = .agg cells) (old : Array Value) (hgg : w.heap[g]? = some (.cells old 33 (0, 0))) (hs : cells.size = 131) (hold : old.size = 131) (h1 : cells.all (·.oneCell') = true)
    (h : wpListIn Fc n Try.prog ops Q rest (a.put o.dst undef) (w.setRow g cells)) : wpListIn Fc n Try.prog ops Q (o :: rest) a w := by
  refine wpListIn_plain hg fun K hK => ⟨?_, ?_⟩
  · intro f hf; simp [Oper.about, ho] at hf
  · rw [Oper.semAt_plain Fc _ _ (by rw [ho]; intro c hc'; cases hc')]
    unfold execOp
    simp only [ho, hx, hy, Instr.storeAt, Instr.sureAddr, Sem.run_bind, Sem.run_pure, Result.andThen_ok, run_storeVar_row w g 33 33 old cells hgg (by rw [hs]; exact info33) (by rw [hold, hs]) h1]
    exact hK _ _ h
theorem ST.chg2 {lo N : Nat} {K : Nat → Prop} {b b' : AB} {w w' : World} {cs : Array Value} (h : ST lo N K b b' w cs) (hc : Chg K w w') (K' : Nat → Prop) (hK' : ∀ g, K' g → K g ∨ (w.heap.size ≤ g ∧ g < w'.heap.size)) : ST lo N K' b b' w' cs := by
  obtain ⟨A, G, c, d, h1, h2, h3, h4, hK⟩ := h
  refine ⟨A, G, c, d, h1.far hc (fun g hg => (hK g hg).2), h2.chg (hc.more (fun g hg => .inl (.inr hg))) ?_, h3, h4, fun g hg => ?_⟩
  · rintro g (e | e)
    · exact .inl (.inl e)
    · rcases hK' g e with x | x
      · exact .inl (.inr x)
      · exact .inr x.1
  · rcases hK' g hg with x | x
    · exact ⟨Nat.lt_of_lt_of_le (hK g x).1 hc.size, (hK g x).2⟩
    · exact ⟨x.2, fun hf => by have := h1.fin g hf; omega⟩
theorem tkL_mem {b : AB} (n i : Nat) : ((i : Int) ∈ (tkL b n).map Prod.fst) ↔ (1 ≤ i ∧ i ≤ n ∧ b.tk i = true) := by
  induction n with
  | zero => simp [tkL]; omega
  | succ n ih =>
    simp only [tkL, List.map_append, List.mem_append, ih]
    by_cases ht : b.tk (n + 1) = true
    · rw [if_pos ht]
      simp only [List.map_cons, List.map_nil, List.mem_singleton]
      constructor
      · rintro (h | h)
        · exact ⟨h.1, by omega, h.2.2⟩
        · have : i = n + 1 := by omega
          subst this; exact ⟨by omega, Nat.le_refl _, ht⟩
      · rintro ⟨h1, h2, h3⟩
        by_cases c : i = n + 1
        · right; subst c; rfl
        · left; exact ⟨h1, by omega, h3⟩
    · rw [if_neg ht]
      simp only [List.map_nil, List.not_mem_nil, or_false]
      constructor
      · rintro h; exact ⟨h.1, by omega, h.2.2⟩
      · rintro ⟨h1, h2, h3⟩
        refine ⟨h1, ?_, h3⟩
        by_cases c : i = n + 1
        · subst c; exact absurd h3 ht
        · omega
theorem take_some {b : AB} (iv : IV b) (hf : ¬ full b) : ∃ i : Nat, takeI b = i ∧ 1 ≤ i ∧ (i : Int) ≤ b.most ∧ b.tk i = false ∧ ∀ v, (takeA b v).tk = upd b.tk i true := by
  have htp := iv.tp
  rcases take_ways iv 0 with ⟨h, _⟩ | ⟨_, hb, ht, e1, e2, _⟩ | ⟨_, l, i, hb, hi, hk, hm, e1, e2, _⟩
  · exact absurd h hf
  · have hcn := iv.cn
    rw [hb] at hcn
    have hcn : cnt b.tk 64 = b.top := hcn
    refine ⟨b.top + 1, by rw [e2]; simp, by omega, by unfold full at hf; omega, ?_, fun v => ?_⟩
    · rcases hq : b.tk (b.top + 1) with _ | _
      · rfl
      · have := (iv.out _ hq).2; omega
    · rcases take_ways iv v with ⟨h, _⟩ | ⟨_, _, _, e, _⟩ | ⟨_, l, i, hb2, _⟩
      · exact absurd h hf
      · rw [e]; rfl
      · rw [hb] at hb2; simp at hb2
  · refine ⟨i + 1, by rw [e2]; simp, by omega, by omega, hk, fun v => ?_⟩
    rcases take_ways iv v with ⟨h, _⟩ | ⟨_, hb2, _⟩ | ⟨_, l2, i2, hb2, _, _, _, e, e3, _⟩
    · exact absurd h hf
    · rw [hb] at hb2; simp at hb2
    · rw [e2] at e3
      have : i = i2 := by omega
      subst this
      rw [e]; rfl
/-- The table of what was seen. -/
def Tab (W : World) (s : Nat) (f : Nat → Bool) : Prop := ∃ arr, W.heap[s]? = some (.cells arr 42 (0, 0)) ∧ arr.size = 16 ∧ ∀ i, i < 16 → arr[i]? = some (.bool (f i))
theorem Tab.cell {W : World} {s : Nat} {f : Nat → Bool} (h : Tab W s f) {i : Nat} (hi : i < 16) : W.cell? ⟨s, i, none⟩ = some (.bool (f i)) ∧ W.frozen? ⟨s, i, none⟩ = false := by
  obtain ⟨arr, h1, h2, h3⟩ := h
  exact ⟨(cell_of_row _ _ _ _ _ _ h1).trans (h3 i hi), frozen_of_row _ _ _ _ _ h1⟩
theorem Tab.set {W : World} {s : Nat} {f : Nat → Bool} (h : Tab W s f) {i : Nat} (hi : i < 16) : Tab (W.setCell ⟨s, i, none⟩ (.bool true)) s (upd f i true) := by
  obtain ⟨arr, h1, h2, h3⟩ := h
  refine ⟨arr.setIfInBounds i (.bool true), heap_setCell_same _ _ _ _ _ _ h1, by simp [h2], fun j hj => ?_⟩
  rw [set_get _ _ _ _ (by omega)]
  unfold upd
  split
  · rfl
  · exact h3 j hj
theorem Tab.congr {W : World} {s : Nat} {f g : Nat → Bool} (h : Tab W s f) (e : ∀ i, i < 16 → f i = g i) : Tab W s g := by
  obtain ⟨arr, h1, h2, h3⟩ := h
  exact ⟨arr, h1, h2, fun i hi => by rw [h3 i hi, e i hi]⟩
theorem Tab.kept {W W' : World} {s : Nat} {f : Nat → Bool} (h : Tab W s f) (e : W'.heap[s]? = W.heap[s]?) : Tab W' s f := by
  obtain ⟨arr, h1, h2⟩ := h
  exact ⟨arr, e.trans h1, h2⟩
def inK (L : List (Int × Int)) (k i : Nat) : Bool := decide ((i : Int) ∈ (L.take k).map Prod.fst)
theorem inK_step {L : List (Int × Int)} {k j : Nat} {y : Int} (h : L[k]? = some ((j : Int), y)) (i : Nat) : inK L (k + 1) i = upd (inK L k) j true i := by
  obtain ⟨hk, e⟩ := List.getElem?_eq_some_iff.1 h
  unfold inK upd
  rw [List.take_succ_eq_append_getElem hk, e, List.map_append]
  by_cases c : i = j
  · subst c; simp
  · rw [if_neg c]
    have : ¬ (i : Int) = (j : Int) := by omega
    simp [this]
/-- What lies between the rounds. -/
def OnI (s : Nat) (L : List (Int × Int)) (k : Nat) (D : Nat → Prop) (W : World) : Prop := D = (fun g => g = s) ∧ Tab W s (inK L k)
theorem onI_loc (s B : Nat) (L : List (Int × Int)) : LocB B (OnI s L) := by
  rintro k D W W' ⟨rfl, h⟩ hc
  obtain ⟨arr, h1, h2⟩ := h
  exact ⟨rfl, arr, (hc.block s (Array.getElem?_eq_some_iff.1 h1).1 (fun h => h.1 rfl)).trans h1, h2⟩
theorem tkL_up12 {b : AB} (iv : IV b) (hm : b.most = 12) {k : Nat} {p : Int × Int} (h : (tkL b b.top)[k]? = some p) : ∃ j : Nat, p = ((j : Int), b.vl j) ∧ 1 ≤ j ∧ j ≤ 12 ∧ inK (tkL b b.top) k j = false := by
  obtain ⟨j, h1, h2, h3⟩ := tkL_key b.top k p h
  have ht := iv.tp
  refine ⟨j + 1, by rw [h2]; simp, by omega, by omega, ?_⟩
  unfold inK
  rw [decide_eq_false_iff_not]
  intro hm2
  obtain ⟨q, hq, hq2⟩ := List.mem_map.1 hm2
  obtain ⟨i, hi⟩ := List.getElem?_of_mem hq
  rw [List.getElem?_take] at hi
  split at hi
  · rename_i hik
    have hh : ∀ a c : Nat, ∀ pa pc, a < c → (tkL b b.top)[a]? = some pa → (tkL b b.top)[c]? = some pc → pa.1 < pc.1 := by
      intro a c pa pc hac
      induction c generalizing pc with
      | zero => omega
      | succ c ih =>
        intro ha hc
        have hu := tkL_up b.top (c + 1) pc hc
        have hlt := (List.getElem?_eq_some_iff.1 hc).1
        have hcc : (tkL b b.top)[c]? = some ((tkL b b.top)[c]'(by omega)) := List.getElem?_eq_getElem (by omega)
        simp only [lastK, List.getD_eq_getElem?_getD, hcc, Option.getD_some] at hu
        by_cases e : a = c
        · subst e; rw [hcc] at ha; cases ha; exact hu
        · have := ih _ (by omega) ha hcc; omega
    have := hh i k q p hik hi h
    rw [h2] at this
    simp only at this
    omega
  · cases hi
end Go.Proofs.Ytpihoegikojlaaa
