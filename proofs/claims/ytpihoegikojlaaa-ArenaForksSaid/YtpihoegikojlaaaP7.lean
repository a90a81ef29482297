/- Places in new memory. -/
import Derived.Test.YtpihoegikojlaaaP6
namespace Go.Proofs.Ytpihoegikojlaaa
set_option linter.unusedSimpArgs false
open Go.RowKit Go.Maps
set_option linter.unusedVariables false
variable {F : Nat → Prop}

/-- A row of places is put into new memory. -/
theorem run_own {w : World} {lo g n c : Nat} {pl : List Value} (h : w.ownsRow lo 80 2 (.slice (some ⟨g, 0, none⟩) n c) n pl) (hn : 0 < n) (hm : n ≤ 1000000) (ty : TypeId) :
    ∃ c' w', (Builtin.append_ #[59, 59] ty #[.slice (some ⟨g, 0, none⟩) 0 0, .slice (some ⟨g, 0, none⟩) n c]).run Try.prog w = .ok (.slice (some ⟨w.heap.size, 0, none⟩) n c') w' ∧ w'.ownsRow w.heap.size 80 2 (.slice (some ⟨w.heap.size, 0, none⟩) n c') n pl ∧ Below w.heap.size w w' := by
  obtain ⟨i0, hI0, hI1, hI2, hI3⟩ := info_parts info80
  have hnews : ∀ j u, pl[j]? = some u → w.cell? ((⟨g, 0, none⟩ : Addr).add j) = some u := by
    intro j u hu
    have hadd : (⟨g, 0, none⟩ : Addr).add j = ⟨g, 0 + j, none⟩ := by unfold Addr.add; split <;> simp_all
    have hj : j < n * 2 := by rw [← h.1]; exact (List.getElem?_eq_some_iff.1 hu).1
    rw [hadd, Nat.zero_add, h.cellAt _ (by omega)]; exact hu
  have hcap := grownCap_le_maxLen w n 0 80 (by unfold maxLen; omega)
  have hge := grownCap_ge w n 0 80
  have hrun : (Builtin.append_ #[59, 59] ty #[.slice (some ⟨g, 0, none⟩) 0 0, .slice (some ⟨g, 0, none⟩) n c]).run Try.prog w =
      .ok (.slice (some ⟨w.heap.size, 0, none⟩) n (grownCap w n 0 80)) (w.drew.alloc (.cells (pl.toArray ++ Builtin.zeroCells (Value.agg #[.int .i64 0, .bool false]).cells (grownCap w n 0 80 - n)) 80)) := by
    have h := run_append_grow (P := Try.prog) w 59 ty 80 i0 (.agg #[.int .i64 0, .bool false]) Try.underlying59 hI0 hI1 ⟨g, 0, none⟩ 0 0 [] (by simp) (fun j v hv => by simp at hv) ⟨g, 0, none⟩ n c pl (by rw [h.1, hI2]) hnews (by omega) (by omega) (by rw [Nat.zero_add, nextslicecap_zero hn, hI3]; omega)
    simpa using h
  refine ⟨_, _, hrun, ⟨h.1, .inr ⟨w.heap.size, _, _, rfl, Nat.le_refl _, heap_alloc_new w.drew _, hge, hcap, ?_, ?_⟩⟩, by go_grown⟩
  · rw [Array.size_append, size_zeroCells]
    have := h.1
    simp [Value.cells]
    omega
  · simp
    exact List.take_left' h.1
theorem wpList_own (w : World) {ops : Array Oper} {rest : List Oper} {o : Oper} {a : Act} {Q : Exit → Act → World → Prop} (hg : o.guard = none) (s x : Operand)
    (hop : o.op = Op.call { callee := Callee.builtin Builtin.append, args := #[s, x], argTypes := #[59, 59] }) {lo g n c : Nat} {pl : List Value} (hs : a.eval s = .slice (some ⟨g, 0, none⟩) 0 0) (hx : a.eval x = .slice (some ⟨g, 0, none⟩) n c)
    (h : w.ownsRow lo 80 2 (.slice (some ⟨g, 0, none⟩) n c) n pl) (hn : 0 < n) (hm : n ≤ 1000000)
    (hK : ∀ c' w', w'.ownsRow w.heap.size 80 2 (.slice (some ⟨w.heap.size, 0, none⟩) n c') n pl → Below w.heap.size w w' → wpList Try.prog ops Q rest (a.put o.dst (.slice (some ⟨w.heap.size, 0, none⟩) n c')) w') :
    wpList Try.prog ops Q (o :: rest) a w := by
  refine wpList_plain hg fun K' hK' => ?_
  obtain ⟨c', w', hrun, r1, r2⟩ := run_own h hn hm o.type
  unfold Oper.wp
  simp [execOp, hop, resolve, invoke, builtin, hs, hx, hrun, Result.andThen]
  exact hK' _ _ (hK c' w' r1 r2)
/-- What own gives. -/
def PlPost (w : World) (n : Nat) (pl : List Value) (e : Ending) (w' : World) : Prop := ∃ A c, e = .returned (.slice A n c) ∧ w'.ownsRow w.heap.size 80 2 (.slice A n c) n pl ∧ (A = none ∨ 0 < n) ∧ (A = none ∨ A = some ⟨w.heap.size, 0, none⟩) ∧ Below w.heap.size w w'
set_option maxRecDepth 100000 in
theorem own_place {w : World} {lo n c : Nat} {A : Option Addr} {pl : List Value} (h : w.ownsRow lo 80 2 (.slice A n c) n pl) (hA : A = none ∨ 0 < n) (hm : n ≤ 1000000) :
    Calls Try.prog 33 #[.slice A n c] w (PlPost w n pl) := by
  by_cases hn : 0 < n
  · obtain ⟨g, c', hA, hbg, hgl⟩ := h.form (by omega)
    obtain ⟨rfl, rfl⟩ : A = some ⟨g, 0, none⟩ ∧ c = c' := by injection hA with a b c; exact ⟨a, c⟩
    have H := Lib.hid h
    clear h hA
    go_enter Try.func33, Try.ntmps33
    go_wp2_with (first
      | (at_builtin; refine wpList_own _ rfl (.tmp 4) (.tmp 5) rfl rfl rfl H.out hn hm ?_; intro c' w' r1 r2; have R1 := Lib.hid r1; have R2 := Lib.hid r2; clear r1 r2)
      | fail)
    exact bodyPost_ret (v := .slice (some ⟨w.heap.size, 0, none⟩) n c') (by simp [results, Try.results33, go_sem]) rfl ⟨_, c', rfl, R1.out, .inr hn, .inr rfl, R2.out⟩
  · obtain rfl : n = 0 := by omega
    obtain rfl : A = none := by rcases hA with h | h; exact h; omega
    obtain rfl : c = 0 := by
      rcases h.2 with ⟨hv, _⟩ | ⟨g, cap, cur, hv, _⟩
      · injection hv
      · cases hv
    have hpl : pl = [] := by have := h.1; simpa using this
    subst hpl
    clear h hA
    go_enter Try.func33, Try.ntmps33
    go_wp2
    exact bodyPost_ret (v := .slice none 0 0) (by simp [results, Try.results33, go_sem]) rfl ⟨none, 0, rfl, World.ownsRow_nil _ _ _ _, .inl rfl, .inl rfl, Below.refl _ _⟩
end Go.Proofs.Ytpihoegikojlaaa
