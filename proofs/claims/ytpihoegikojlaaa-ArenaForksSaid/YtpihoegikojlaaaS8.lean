/- A deed on both; deeds; new arenas. -/
import Derived.Test.YtpihoegikojlaaaS1
import Derived.Test.YtpihoegikojlaaaS2
import Derived.Test.YtpihoegikojlaaaS3
import Derived.Test.YtpihoegikojlaaaS4
import Derived.Test.YtpihoegikojlaaaS5
import Derived.Test.YtpihoegikojlaaaS7
namespace Go.Proofs.Ytpihoegikojlaaa
set_option linter.unusedSimpArgs false
open Go.RowKit Go.Maps
set_option linter.unusedVariables false
variable {F : Nat → Prop}
/-- Deeds in memory: n of them. -/
def Deeds (w : World) (A : Option Addr) (n : Nat) (d0 d1 d2 : Nat → Int) : Prop :=
  n = 0 ∨ ∃ b off, A = some ⟨b, off, none⟩ ∧ b < w.heap.size ∧ ∀ i, i < n → (w.cell? ⟨b, off + i * 3, none⟩ = some (.int .i64 (d0 i)) ∧ w.cell? ⟨b, off + i * 3 + 1, none⟩ = some (.int .i64 (d1 i)) ∧ w.cell? ⟨b, off + i * 3 + 2, none⟩ = some (.int .i64 (d2 i))) ∧ (Lit.int .i64 (d0 i)).wf = true ∧ (Lit.int .i64 (d1 i)).wf = true ∧ (Lit.int .i64 (d2 i)).wf = true
theorem Deeds.at_ {w : World} {A : Option Addr} {n : Nat} {d0 d1 d2 : Nat → Int} (h : Deeds w A n d0 d1 d2) {i : Nat} (hi : i < n) : ∃ b off, A = some ⟨b, off, none⟩ ∧ b < w.heap.size ∧ (w.cell? ⟨b, off + i * 3, none⟩ = some (.int .i64 (d0 i)) ∧ w.cell? ⟨b, off + i * 3 + 1, none⟩ = some (.int .i64 (d1 i)) ∧ w.cell? ⟨b, off + i * 3 + 2, none⟩ = some (.int .i64 (d2 i))) ∧ (Lit.int .i64 (d0 i)).wf = true ∧ (Lit.int .i64 (d1 i)).wf = true ∧ (Lit.int .i64 (d2 i)).wf = true := by
  rcases h with h | ⟨b, off, h1, h2, h3⟩
  · omega
  · exact ⟨b, off, h1, h2, h3 i hi⟩
theorem Deeds.low {w w' : World} {A : Option Addr} {n : Nat} {d0 d1 d2 : Nat → Int} (h : Deeds w A n d0 d1 d2) (hb : Below w.heap.size w w') : Deeds w' A n d0 d1 d2 := by
  rcases h with h | ⟨b, off, h1, h2, h3⟩
  · exact .inl h
  · refine .inr ⟨b, off, h1, Nat.lt_of_lt_of_le h2 hb.size, fun i hi => ?_⟩
    obtain ⟨⟨a, b', c⟩, r⟩ := h3 i hi
    exact ⟨⟨bel_later hb a, bel_later hb b', bel_later hb c⟩, r⟩

def stepA (b : AB) (x i n : Int) : AB := if x = 0 then takeA b n else if x = 1 then manyB b n i else if x = 2 then giveA b i else if x = 3 then setA b i n else b
theorem step_any {lo N : Nat} {K : Nat → Prop} {b : AB} {w : World} {cs : Array Value} (h : ST lo N K b b w cs) (hlo : lo ≤ w.heap.size) (x i n : Int) : Calls Try.prog 10 #[.pointer (some ⟨N, 0, none⟩), .agg cs, .agg #[.int .i64 x, .int .i64 i, .int .i64 n]] w (SPost lo N K (stepA b x i n) w) := by
  unfold stepA
  by_cases h0 : x = 0
  · subst h0; rw [if_pos rfl]; exact step_0 h hlo
  · rw [if_neg h0]
    by_cases h1 : x = 1
    · subst h1; rw [if_pos rfl]; exact step_1 h hlo
    · rw [if_neg h1]
      by_cases h2 : x = 2
      · subst h2; rw [if_pos rfl]; exact step_2 h hlo
      · rw [if_neg h2]
        by_cases h3 : x = 3
        · subst h3; rw [if_pos rfl]; exact step_3 h hlo
        · rw [if_neg h3]
          exact step_5 h hlo (by simpa using h0) (by simpa using h1) (by simpa using h2) (by simpa using h3)
def playR (d0 d1 d2 : Nat → Int) (b : AB) : Nat → AB
  | 0 => b
  | k + 1 => stepA (playR d0 d1 d2 b k) (d0 k) (d1 k) (d2 k)
theorem cell_setRow {w : World} {N g o : Nat} {cs : Array Value} (h : g ≠ N) : (w.setRow N cs).cell? ⟨g, o, none⟩ = w.cell? ⟨g, o, none⟩ := World.cell?_of_block (setRow_other _ _ _ _ h)
def newB (M : Int) : AB := ⟨M, 0, fun _ => false, fun _ => 0, []⟩
def zbs (M : Int) : Array Value := zb.setIfInBounds 0 (.int .i64 M)
theorem zb_get (j : Nat) : zb[j]? = if j < 2 then some (.int .i64 0) else if j < 66 then some (.bool false) else if j < 130 then some (.int .i64 0) else if j < 131 then some (.slice none 0 0) else none := by
  unfold zb
  by_cases h1 : j < 2
  · rw [if_pos h1]
    have : j = 0 ∨ j = 1 := by omega
    rcases this with e | e <;> subst e <;> simp [Array.getElem?_append]
  · rw [if_neg h1]
    by_cases h2 : j < 66
    · rw [if_pos h2, Array.getElem?_append, if_pos (by simp; omega), Array.getElem?_append, if_pos (by simp; omega), Array.getElem?_append, if_neg (by simp; omega)]
      rw [Array.getElem?_replicate, if_pos (by simp; omega)]
    · rw [if_neg h2]
      by_cases h3 : j < 130
      · rw [if_pos h3, Array.getElem?_append, if_pos (by simp; omega), Array.getElem?_append, if_neg (by simp; omega)]
        rw [Array.getElem?_replicate, if_pos (by simp; omega)]
      · rw [if_neg h3]
        rw [Array.getElem?_append, if_neg (by simp; omega)]
        by_cases h4 : j < 131
        · rw [if_pos h4]
          have : j = 130 := by omega
          subst this; simp
        · rw [if_neg h4]
          exact Array.getElem?_eq_none (by simp; omega)
theorem zb_one : zb.all (·.oneCell') = true := by
  rw [Array.all_eq_true_iff_forall_mem]
  intro x hx
  obtain ⟨j, hj⟩ := Array.getElem?_of_mem hx
  rw [zb_get] at hj
  split at hj
  · cases hj; rfl
  · split at hj
    · cases hj; rfl
    · split at hj
      · cases hj; rfl
      · split at hj
        · cases hj; rfl
        · cases hj
theorem RBk.new (F : Nat → Prop) (w : World) (M : Int) : RBk F w (zbs M) (newB M) := by
  have e : ∀ j, (zbs M)[j]? = if j = 0 then some (.int .i64 M) else zb[j]? := fun j => set_get _ _ _ _ (by rw [zb_size]; omega)
  refine ⟨by simp [zbs, zb_size], one_set zb_one _ rfl, ?_, ?_, fun i hi => ?_, fun i hi => ?_, ⟨none, 0, ?_, Nat.le_refl _, .inl rfl, .inl rfl⟩⟩
  · rw [e, if_pos rfl]; rfl
  · rw [e, if_neg (by omega), zb_get, if_pos (by omega)]; rfl
  · rw [e, if_neg (by omega), zb_get, if_neg (by omega), if_pos (by omega)]; rfl
  · rw [e, if_neg (by omega), zb_get, if_neg (by omega), if_neg (by omega), if_pos (by omega)]; rfl
  · rw [e, if_neg (by omega), zb_get, if_neg (by omega), if_neg (by omega), if_neg (by omega), if_pos (by omega)]; rfl
theorem built_zbs (M : Int) : Try.prog.built 33 [(0, .int .i64 M)] = some (zbs M) := by kernel_rfl
theorem cnt_no (n : Nat) : cnt (fun _ => false) n = 0 := by
  induction n with
  | zero => rfl
  | succ n ih => show (if false = true then _ else cnt _ n) = 0; rw [if_neg (by simp)]; exact ih
theorem IV.new (M : Int) (h : 1 ≤ M) (h2 : M ≤ 60) : IV (newB M) :=
  ⟨h, h2, by show ((0 : Nat) : Int) ≤ M; omega, fun x hx => by simp [newB] at hx, by simp [newB], by show cnt (fun _ => false) 64 + 0 = 0; rw [cnt_no], fun k hk => by simp [newB] at hk⟩
theorem PA.new (w : World) (M : Int) : PA (w.alloc (.cells #[.int .i64 M, .slice none 0 0, .slice none 0 0] 61)) w.heap.size w.heap.size none none 0 0 (newB M) := by
  refine ⟨⟨Nat.le_refl _, by simp⟩, by simp [go_sem]; rfl, by simp [go_sem]; rfl, by simp [go_sem]; rfl, fun j => ?_, ⟨[], World.ownsRow_nil _ _ _ _, fun i hi => by simp [newB] at hi⟩, .inl ⟨rfl, rfl⟩, by simp, by simp [fpr], fun g hg => by simp at hg, .inl rfl⟩
  exact frozen_of_row _ _ _ _ _ (heap_alloc_new w _)
theorem ST.begin (w : World) (M : Int) (h : 1 ≤ M) (h2 : M ≤ 60) : ST w.heap.size w.heap.size (fun g => g = w.heap.size + 1) (newB M) (newB M) (W2 (w.alloc (.cells #[.int .i64 M, .slice none 0 0, .slice none 0 0] 61)) (zbs M)) (zbs M) := by
  have h0 : ST w.heap.size w.heap.size (fun _ => False) (newB M) (newB M) (w.alloc (.cells #[.int .i64 M, .slice none 0 0, .slice none 0 0] 61)) (zbs M) :=
    ⟨none, none, 0, 0, PA.new w M, RBk.new _ _ _, IV.new M h h2, IV.new M h h2, fun g hg => hg.elim⟩
  refine h0.wide (W2.bel _ _) _ ?_
  rintro g e
  exact .inr ⟨by simp; omega, by rw [W2.size]; simp; omega⟩
set_option maxRecDepth 100000 in
theorem pnew_no (w : World) (M : Int) (h : M < 1 ∨ 4096 < M) : Calls Try.prog 7 #[.int .i64 M] w fun e w' => e = .returned (.tuple #[.pointer none, .int .i64 2]) ∧ Below w.heap.size w w' := by
  rcases h with h | h
  · go_enter Try.func7, Try.ntmps7
    go_wp2
    refine bodyPost_ret (v := .tuple #[.pointer none, .int .i64 2]) (by simp [results, Try.results7, go_sem]) rfl ⟨rfl, Below.refl _ _⟩
  · have h2 : ¬ M < 1 := by omega
    go_enter Try.func7, Try.ntmps7
    go_wp2
    refine bodyPost_ret (v := .tuple #[.pointer none, .int .i64 2]) (by simp [results, Try.results7, go_sem]) rfl ⟨rfl, Below.refl _ _⟩
/-- A load of a whole arena that is guarded, and wanted. -/
theorem wpList_gload_row {ops : Array Oper} {rest : List Oper} {o : Oper} {a : Act} {w : World} {Q : Exit → Act → World → Prop} (hw : Region.wanted o (yielded ops a.tmps) = true) (x : Operand) (ho : o.op = .load 33 x)
    (g : Nat) (hx : a.eval x = .pointer (some ⟨g, 0, none⟩)) (cs : Array Value) (hg : w.heap[g]? = some (.cells cs 33 (0, 0))) (hs : cs.size = 131)
    (h : wpList Try.prog ops Q rest (a.put o.dst (.agg cs)) w) : wpList Try.prog ops Q (o :: rest) a w := by
  unfold wpList
  rw [if_pos hw]
  exact .inl (wp_load_row 33 x ho g hx 33 cs (0, 0) _ hg Try.underlying33 rfl (by rw [hs]; exact info33) h)
end Go.Proofs.Ytpihoegikojlaaa
