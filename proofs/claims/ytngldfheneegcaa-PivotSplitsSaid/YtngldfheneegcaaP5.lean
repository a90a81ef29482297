/- Pivots: in new memory; a part. -/
import Derived.Test.YtngldfheneegcaaP4
namespace Go.Proofs.Ytngldfheneegcaa
set_option linter.unusedSimpArgs false
open Go.RowKit
set_option linter.unusedVariables false

theorem info9 : (Try.prog.info? 9).map (fun i => (i.zero, i.size, i.bytes)) = some (some (.string ⟨#[]⟩), 1, 16) := by kernel_rfl
theorem put_nothing (A0 A : Option Addr) (n0 c0 c : Nat) (hle : n0 ≤ c0) (ty : TypeId) (w : World) : (Builtin.append_ #[22, 22] ty #[.slice A0 n0 c0, .slice A 0 c]).run Try.prog w = .ok (.slice A0 (n0 + 0) c0) w := by
  obtain ⟨i0, hI0, hI1, hI2, hI3⟩ := info_parts info9
  have hf : ∀ a : Addr, (Builtin.firstCells i0.size 0 (.slice (some a) 0 c)).run Try.prog w = .ok #[] w := fun a => run_firstCells_some (P := Try.prog) w i0.size 0 a 0 c [] (by simp) (fun j v hv => by simp at hv)
  have hg : (Builtin.firstCells i0.size 0 (.slice none 0 c)).run Try.prog w = .ok #[] w := run_firstCells_none w i0.size 0 0 c
  cases A with
  | none => cases A0 <;> simp [Builtin.append_, run_underlying Try.underlying22, sizeOf, typeInfo, hI0, Builtin.lenOf, storeCells, hle, hg]
  | some a => cases A0 <;> simp [Builtin.append_, run_underlying Try.underlying22, sizeOf, typeInfo, hI0, Builtin.lenOf, storeCells, hle, hf a]
theorem rds_news {w : World} {b off : Nat} {l : List ByteArray} (h : RdS w (some ⟨b, off, none⟩) l) : ∀ j u, (l.map Value.string)[j]? = some u → w.cell? ((⟨b, off, none⟩ : Addr).add j) = some u := by
  intro j u hu
  rcases h with h | ⟨b', off', e, hlt, hc⟩
  · rw [h] at hu; simp at hu
  · cases e
    have := hc j u hu
    by_cases z : j = 0
    · subst z; simpa [Addr.add] using this
    · simpa [Addr.add, z] using this
/-- A row of texts in new memory, or an empty one. -/
def NewS (w : World) (l : List ByteArray) (e : Ending) (w' : World) : Prop := ∃ A c, e = .returned (.slice A l.length c) ∧ RdS w' A l ∧ (l = [] ∨ ∃ g, A = some ⟨g, 0, none⟩ ∧ w.heap.size ≤ g) ∧ Below w.heap.size w w'
theorem own_put {w : World} (A0 : Option Addr) (A : Option Addr) (c : Nat) (l : List ByteArray) (hm : l.length ≤ 1000000) (hr : RdS w A l) (ty : TypeId) :
    ∃ A' c' w', (Builtin.append_ #[22, 22] ty #[.slice A0 0 0, .slice A l.length c]).run Try.prog w = .ok (.slice A' l.length c') w' ∧ RdS w' A' l ∧ (l = [] ∨ ∃ g, A' = some ⟨g, 0, none⟩ ∧ w.heap.size ≤ g) ∧ Below w.heap.size w w' := by
  obtain ⟨i0, hI0, hI1, hI2, hI3⟩ := info_parts info9
  by_cases hl : l = []
  · subst hl
    exact ⟨A0, 0, w, put_nothing A0 A 0 0 c (Nat.le_refl _) ty w, .inl rfl, .inl rfl, Below.refl _ _⟩
  · have hlp : 0 < l.length := List.length_pos_iff.2 hl
    rcases hr with hr | ⟨b, off, rfl, hlt, hc⟩
    · exact absurd (List.map_eq_nil_iff.1 hr) hl
    · have hnews := rds_news (.inr ⟨b, off, rfl, hlt, hc⟩ : RdS w (some ⟨b, off, none⟩) l)
      have hrun : (Builtin.append_ #[22, 22] ty #[.slice A0 0 0, .slice (some ⟨b, off, none⟩) l.length c]).run Try.prog w =
          .ok (.slice (some ⟨w.heap.size, 0, none⟩) l.length (grownCap w l.length 0 9)) (w.drew.alloc (.cells ((l.map Value.string).toArray ++ Builtin.zeroCells (Value.string ⟨#[]⟩).cells (grownCap w l.length 0 9 - l.length)) 9)) := by
        cases A0 with
        | none => exact run_append_nil (P := Try.prog) w 22 ty 9 i0 (.string ⟨#[]⟩) Try.underlying22 hI0 hI1 ⟨b, off, none⟩ l.length c (l.map Value.string) (by rw [List.length_map, hI2, Nat.mul_one]) hnews hlp (by omega) (by rw [hI3]; omega)
        | some a =>
          have h := run_append_grow (P := Try.prog) w 22 ty 9 i0 (.string ⟨#[]⟩) Try.underlying22 hI0 hI1 a 0 0 [] (by simp) (fun j v hv => by simp at hv) ⟨b, off, none⟩ l.length c (l.map Value.string) (by rw [List.length_map, hI2, Nat.mul_one]) hnews (by omega) (by omega) (by rw [Nat.zero_add, nextslicecap_zero hlp, hI3]; omega)
          simpa using h
      refine ⟨_, _, _, hrun, ?_, .inr ⟨w.heap.size, rfl, Nat.le_refl _⟩, by go_grown⟩
      refine .inr ⟨w.heap.size, 0, rfl, by simp, fun j u hj => ?_⟩
      refine (cell_of_row (w.drew.alloc _) w.heap.size (0 + j) _ _ _ (heap_alloc_new w.drew _)).trans ?_
      rw [Nat.zero_add, Array.getElem?_append, if_pos (by have := (List.getElem?_eq_some_iff.1 hj).1; simpa using this)]
      simpa using hj
theorem wpList_own_put (w : World) {ops : Array Oper} {rest : List Oper} {o : Oper} {a : Act} {Q : Exit → Act → World → Prop} (hg : o.guard = none) (s x : Operand)
    (hop : o.op = Op.call { callee := Callee.builtin Builtin.append, args := #[s, x], argTypes := #[22, 22] }) (A0 A : Option Addr) (m c : Nat) (l : List ByteArray) (hs : a.eval s = .slice A0 0 0) (hx : a.eval x = .slice A m c)
    (hl : l.length = m) (hm : m ≤ 1000000) (hr : RdS w A l)
    (hK : ∀ A' c' w', RdS w' A' l → (l = [] ∨ ∃ g, A' = some ⟨g, 0, none⟩ ∧ w.heap.size ≤ g) → Below w.heap.size w w' → wpList Try.prog ops Q rest (a.put o.dst (.slice A' m c')) w') :
    wpList Try.prog ops Q (o :: rest) a w := by
  subst hl
  refine wpList_plain hg fun K' hK' => ?_
  obtain ⟨A', c', w', hrun, r1, r2, r3⟩ := own_put A0 A c l hm hr o.type
  unfold Oper.wp
  simp [execOp, hop, resolve, invoke, builtin, hs, hx, hrun, Result.andThen]
  exact hK' _ _ (hK A' c' w' r1 r2 r3)
theorem own_any (A : Option Addr) (n c : Nat) (l : List ByteArray) (w : World) (hl : l.length = n) (hn : n ≤ 1000000) (hA : RdS w A l) :
    Calls Try.prog 33 #[.slice A n c] w (NewS w l) := by
  have HA := Lib.hid hA
  have HL := Lib.hid hl
  clear hA hl
  go_enter Try.func33, Try.ntmps33
  go_wp2_with (first
    | (at_builtin; refine wpList_own_put _ rfl (.tmp 4) (.tmp 5) rfl A A n c l rfl rfl HL.out hn HA.out ?_; intro A' c' w' r1 r2 r3; have R1 := Lib.hid r1; have R2 := Lib.hid r2; have R3 := Lib.hid r3; clear r1 r2 r3)
    | fail)
  exact bodyPost_ret (v := .slice A' n c') (by simp [results, Try.results33, go_sem]) rfl ⟨A', c', by rw [HL.out], R1.out, R2.out, R3.out⟩
def pF (p : List ByteArray) (f : ByteArray) (i : Nat) : ByteArray := if 0 < i then at_ p (i - 1) else f
def pT (p : List ByteArray) (t : ByteArray) (i : Nat) : ByteArray := if i < p.length then at_ p i else t
set_option maxHeartbeats 1000000 in
theorem piece_any (A : Option Addr) (p : List ByteArray) (n c i : Nat) (f t : ByteArray) (w : World) (hl : p.length = n) (hn : n ≤ 1000) (hi : i ≤ n) (hr : RdS w A p) :
    Calls Try.prog 24 #[.slice A n c, .agg #[.string f, .string t], .int .i64 i] w fun e w' => e = .returned (.agg #[.string (pF p f i), .string (pT p t i)]) ∧ Below w.heap.size w w' := by
  have B0 : Below w.heap.size w ((w.alloc (rgc f t)).alloc (rgc emptyS emptyS)) := by go_grown
  have hi0 : (0 : Int) ≤ (i : Int) := by omega
  have hi9 : (i : Int) ≤ 1000 := by omega
  rcases Nat.eq_zero_or_pos i with h0 | h0
  · subst h0
    have e1 : pF p f 0 = f := rfl
    rw [e1]
    by_cases h8 : 0 < n
    · have e2 : pT p t 0 = at_ p 0 := by unfold pT; rw [if_pos (by omega)]
      rw [e2]
      obtain ⟨b, off, rfl, hlt, f0⟩ := rds_get hr (k := 0) (by omega)
      obtain ⟨x, hx⟩ : ∃ x, x = at_ p 0 := ⟨_, rfl⟩
      rw [← hx] at f0 ⊢
      have f0' : ((w.alloc (rgc f t)).alloc (rgc emptyS emptyS)).cell? ⟨b, off, none⟩ = some (.string x) := bel_later B0 f0
      have j1 : (0 : Int) < (n : Int) := by omega
      clear hr hl hx e1 e2 f0
      go_enter Try.func24, Try.ntmps24
      go_wp2_with fail
      exact bodyPost_ret (v := .agg #[.string f, .string x]) (by simp [results, Try.results24, go_sem]) rfl ⟨rfl, by go_grown⟩
    · have e2 : pT p t 0 = t := by unfold pT; rw [if_neg (by omega)]
      have e0 : n = 0 := by omega
      subst e0
      rw [e2]
      clear hr hl e1 e2
      go_enter Try.func24, Try.ntmps24
      go_wp2_with fail
      exact bodyPost_ret (v := .agg #[.string f, .string t]) (by simp [results, Try.results24, go_sem]) rfl ⟨rfl, by go_grown⟩
  · have e1 : pF p f i = at_ p (i - 1) := by unfold pF; rw [if_pos h0]
    rw [e1]
    obtain ⟨b, off, rfl, hlt, f0⟩ := rds_get hr (k := i - 1) (by omega)
    obtain ⟨y, hy⟩ : ∃ y, y = at_ p (i - 1) := ⟨_, rfl⟩
    rw [← hy] at f0 ⊢
    have f0' : ((w.alloc (rgc f t)).alloc (rgc emptyS emptyS)).cell? ⟨b, off + (i - 1), none⟩ = some (.string y) := bel_later B0 f0
    have j1 : (0 : Int) < (i : Int) := by omega
    have j2 : (0 : Int) ≤ (i : Int) - 1 := by omega
    have j3 : (i : Int) - 1 < (n : Int) := by omega
    have j4 : ((i : Int) - 1).toNat = i - 1 := by omega
    have hb : ¬ b = w.heap.size := by omega
    have hb2 : ¬ w.heap.size = b := by omega
    by_cases h8 : i < n
    · have e2 : pT p t i = at_ p i := by unfold pT; rw [if_pos (by omega)]
      rw [e2]
      obtain ⟨b2, off2, e3, _, f1⟩ := rds_get hr (k := i) (by omega)
      cases e3
      obtain ⟨x, hx⟩ : ∃ x, x = at_ p i := ⟨_, rfl⟩
      rw [← hx] at f1 ⊢
      have f1' : ((w.alloc (rgc f t)).alloc (rgc emptyS emptyS)).cell? ⟨b, off + i, none⟩ = some (.string x) := bel_later B0 f1
      have f1'' : ((w.alloc (rgc y t)).alloc (rgc emptyS emptyS)).cell? ⟨b, off + i, none⟩ = some (.string x) := bel_later (w := w) (by go_grown) f1
      have j5 : (i : Int) < (n : Int) := by omega
      clear hr hl hx hy e1 e2 f0 f1 hlt
      go_enter Try.func24, Try.ntmps24
      go_wp2_with fail
      exact bodyPost_ret (v := .agg #[.string y, .string x]) (by simp [results, Try.results24, go_sem]) rfl ⟨rfl, by go_grown⟩
    · have e2 : pT p t i = t := by unfold pT; rw [if_neg (by omega)]
      rw [e2]
      have j5 : ¬ (i : Int) < (n : Int) := by omega
      clear hr hl hy e1 e2 f0 hlt
      go_enter Try.func24, Try.ntmps24
      go_wp2_with fail
      exact bodyPost_ret (v := .agg #[.string y, .string t]) (by simp [results, Try.results24, go_sem]) rfl ⟨rfl, by go_grown⟩
end Go.Proofs.Ytngldfheneegcaa
