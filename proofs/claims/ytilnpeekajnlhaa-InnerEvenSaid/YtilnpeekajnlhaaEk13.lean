/- Texts of the proof, one behind the other. -/
import Derived.Test.YtilnpeekajnlhaaEk12
import Derived.RangeFuncNested
import Derived.RangeFuncBound
import Derived.RangeFuncCalls
import Derived.RangeFuncLeaves
import Derived.Shelf.Abstract
import Derived.Shelf.RegionOpen
import Derived.OwnWalkIn
import Derived.TacticsInMore
import Derived.LoopNIn
import Derived.LoopIn
import Derived.Maps.AppendAt
import Derived.Maps.OwnIn
import Derived.RangeFuncWrites
set_option linter.unusedVariables false
set_option linter.unusedSimpArgs false
namespace Go.Proofs.Ytilnpeekajnlhaa.Pv
open Go.RowKit

theorem info9 : (Try.prog.info? 9).map (fun i => (i.zero, i.size, i.bytes)) = some (some (.string ⟨#[]⟩), 1, 16) := by kernel_rfl
theorem put_nothing (A0 A : Option Addr) (n0 c0 c : Nat) (hle : n0 ≤ c0) (ty : TypeId) (w : World) : (Builtin.append_ #[23, 23] ty #[.slice A0 n0 c0, .slice A 0 c]).run Try.prog w = .ok (.slice A0 (n0 + 0) c0) w := by
  obtain ⟨i0, hI0, hI1, hI2, hI3⟩ := info_parts info9
  have hf : ∀ a : Addr, (Builtin.firstCells i0.size 0 (.slice (some a) 0 c)).run Try.prog w = .ok #[] w := fun a => run_firstCells_some (P := Try.prog) w i0.size 0 a 0 c [] (by simp) (fun j v hv => by simp at hv)
  have hg : (Builtin.firstCells i0.size 0 (.slice none 0 c)).run Try.prog w = .ok #[] w := run_firstCells_none w i0.size 0 0 c
  cases A with
  | none => cases A0 <;> simp [Builtin.append_, run_underlying Try.underlying23, sizeOf, typeInfo, hI0, Builtin.lenOf, storeCells, hle, hg]
  | some a => cases A0 <;> simp [Builtin.append_, run_underlying Try.underlying23, sizeOf, typeInfo, hI0, Builtin.lenOf, storeCells, hle, hf a]
theorem rds_news {w : World} {b off : Nat} {l : List ByteArray} (h : RdS w (some ⟨b, off, none⟩) l) : ∀ j u, (l.map Value.string)[j]? = some u → w.cell? ((⟨b, off, none⟩ : Addr).add j) = some u := by
  intro j u hu
  rcases h with h | ⟨b', off', e, hlt, hc⟩
  · rw [h] at hu; simp at hu
  · cases e
    have := hc j u hu
    by_cases z : j = 0
    · subst z; simpa [Addr.add] using this
    · simpa [Addr.add, z] using this
/-- A row of texts in new memory, or an empty one. -/
def NewS (w : World) (l : List ByteArray) (e : Ending) (w' : World) : Prop := ∃ A c, e = .returned (.slice A l.length c) ∧ RdS w' A l ∧ (l = [] ∨ ∃ g, A = some ⟨g, 0, none⟩ ∧ w.heap.size ≤ g) ∧ Below w.heap.size w w'
theorem own_put {w : World} (A0 : Option Addr) (A : Option Addr) (c : Nat) (l : List ByteArray) (hm : l.length ≤ 1000000) (hr : RdS w A l) (ty : TypeId) :
    ∃ A' c' w', (Builtin.append_ #[23, 23] ty #[.slice A0 0 0, .slice A l.length c]).run Try.prog w = .ok (.slice A' l.length c') w' ∧ RdS w' A' l ∧ (l = [] ∨ ∃ g, A' = some ⟨g, 0, none⟩ ∧ w.heap.size ≤ g) ∧ Below w.heap.size w w' := by
  obtain ⟨i0, hI0, hI1, hI2, hI3⟩ := info_parts info9
  by_cases hl : l = []
  · subst hl
    exact ⟨A0, 0, w, put_nothing A0 A 0 0 c (Nat.le_refl _) ty w, .inl rfl, .inl rfl, Below.refl _ _⟩
  · have hlp : 0 < l.length := List.length_pos_iff.2 hl
    rcases hr with hr | ⟨b, off, rfl, hlt, hc⟩
    · exact absurd (List.map_eq_nil_iff.1 hr) hl
    · have hnews := rds_news (.inr ⟨b, off, rfl, hlt, hc⟩ : RdS w (some ⟨b, off, none⟩) l)
      have hrun : (Builtin.append_ #[23, 23] ty #[.slice A0 0 0, .slice (some ⟨b, off, none⟩) l.length c]).run Try.prog w =
          .ok (.slice (some ⟨w.heap.size, 0, none⟩) l.length (grownCap w l.length 0 9)) (w.drew.alloc (.cells ((l.map Value.string).toArray ++ Builtin.zeroCells (Value.string ⟨#[]⟩).cells (grownCap w l.length 0 9 - l.length)) 9)) := by
        cases A0 with
        | none => exact run_append_nil (P := Try.prog) w 23 ty 9 i0 (.string ⟨#[]⟩) Try.underlying23 hI0 hI1 ⟨b, off, none⟩ l.length c (l.map Value.string) (by rw [List.length_map, hI2, Nat.mul_one]) hnews hlp (by omega) (by rw [hI3]; omega)
        | some a =>
          have h := run_append_grow (P := Try.prog) w 23 ty 9 i0 (.string ⟨#[]⟩) Try.underlying23 hI0 hI1 a 0 0 [] (by simp) (fun j v hv => by simp at hv) ⟨b, off, none⟩ l.length c (l.map Value.string) (by rw [List.length_map, hI2, Nat.mul_one]) hnews (by omega) (by omega) (by rw [Nat.zero_add, nextslicecap_zero hlp, hI3]; omega)
          simpa using h
      refine ⟨_, _, _, hrun, ?_, .inr ⟨w.heap.size, rfl, Nat.le_refl _⟩, by go_grown⟩
      refine .inr ⟨w.heap.size, 0, rfl, by simp, fun j u hj => ?_⟩
      refine (cell_of_row (w.drew.alloc _) w.heap.size (0 + j) _ _ _ (heap_alloc_new w.drew _)).trans ?_
      rw [Nat.zero_add, Array.getElem?_append, if_pos (by have := (List.getElem?_eq_some_iff.1 hj).1; simpa using this)]
      simpa using hj
theorem wpList_own_put (w : World) {ops : Array Oper} {rest : List Oper} {o : Oper} {a : Act} {Q : Exit → Act → World → Prop} (hg : o.guard = none) (s x : Operand)
    (hop : o.op = Op.call { callee := Callee.builtin Builtin.append, args := #[s, x], argTypes := #[23, 23] }) (A0 A : Option Addr) (m c : Nat) (l : List ByteArray) (hs : a.eval s = .slice A0 0 0) (hx : a.eval x = .slice A m c)
    (hl : l.length = m) (hm : m ≤ 1000000) (hr : RdS w A l)
    (hK : ∀ A' c' w', RdS w' A' l → (l = [] ∨ ∃ g, A' = some ⟨g, 0, none⟩ ∧ w.heap.size ≤ g) → Below w.heap.size w w' → wpList Try.prog ops Q rest (a.put o.dst (.slice A' m c')) w') :
    wpList Try.prog ops Q (o :: rest) a w := by
  subst hl
  refine wpList_plain hg fun K' hK' => ?_
  obtain ⟨A', c', w', hrun, r1, r2, r3⟩ := own_put A0 A c l hm hr o.type
  unfold Oper.wp
  simp [execOp, hop, resolve, invoke, builtin, hs, hx, hrun, Result.andThen]
  exact hK' _ _ (hK A' c' w' r1 r2 r3)
theorem own_any (A : Option Addr) (n c : Nat) (l : List ByteArray) (w : World) (hl : l.length = n) (hn : n ≤ 1000000) (hA : RdS w A l) :
    Calls Try.prog 94 #[.slice A n c] w (NewS w l) := by
  have HA := Lib.hid hA
  have HL := Lib.hid hl
  clear hA hl
  go_enter Try.func94, Try.ntmps94
  go_wp2_with (first
    | (at_builtin; refine wpList_own_put _ rfl (.tmp 4) (.tmp 5) rfl A A n c l rfl rfl HL.out hn HA.out ?_; intro A' c' w' r1 r2 r3; have R1 := Lib.hid r1; have R2 := Lib.hid r2; have R3 := Lib.hid r3; clear r1 r2 r3)
    | fail)
  exact bodyPost_ret (v := .slice A' n c') (by simp [results, Try.results94, go_sem]) rfl ⟨A', c', by rw [HL.out], R1.out, R2.out, R3.out⟩
def pF (p : List ByteArray) (f : ByteArray) (i : Nat) : ByteArray := if 0 < i then at_ p (i - 1) else f
def pT (p : List ByteArray) (t : ByteArray) (i : Nat) : ByteArray := if i < p.length then at_ p i else t
set_option maxHeartbeats 1000000 in
theorem piece_any (A : Option Addr) (p : List ByteArray) (n c i : Nat) (f t : ByteArray) (w : World) (hl : p.length = n) (hn : n ≤ 1000) (hi : i ≤ n) (hr : RdS w A p) :
    Calls Try.prog 101 #[.slice A n c, .agg #[.string f, .string t], .int .i64 i] w fun e w' => e = .returned (.agg #[.string (pF p f i), .string (pT p t i)]) ∧ Below w.heap.size w w' := by
  have B0 : Below w.heap.size w ((w.alloc (rgc f t)).alloc (rgc emptyS emptyS)) := by go_grown
  have hi0 : (0 : Int) ≤ (i : Int) := by omega
  have hi9 : (i : Int) ≤ 1000 := by omega
  rcases Nat.eq_zero_or_pos i with h0 | h0
  · subst h0
    have e1 : pF p f 0 = f := rfl
    rw [e1]
    by_cases h8 : 0 < n
    · have e2 : pT p t 0 = at_ p 0 := by unfold pT; rw [if_pos (by omega)]
      rw [e2]
      obtain ⟨b, off, rfl, hlt, f0⟩ := rds_get hr (k := 0) (by omega)
      obtain ⟨x, hx⟩ : ∃ x, x = at_ p 0 := ⟨_, rfl⟩
      rw [← hx] at f0 ⊢
      have f0' : ((w.alloc (rgc f t)).alloc (rgc emptyS emptyS)).cell? ⟨b, off, none⟩ = some (.string x) := bel_later B0 f0
      have j1 : (0 : Int) < (n : Int) := by omega
      clear hr hl hx e1 e2 f0
      go_enter Try.func101, Try.ntmps101
      go_wp2_with fail
      exact bodyPost_ret (v := .agg #[.string f, .string x]) (by simp [results, Try.results101, go_sem]) rfl ⟨rfl, by go_grown⟩
    · have e2 : pT p t 0 = t := by unfold pT; rw [if_neg (by omega)]
      have e0 : n = 0 := by omega
      subst e0
      rw [e2]
      clear hr hl e1 e2
      go_enter Try.func101, Try.ntmps101
      go_wp2_with fail
      exact bodyPost_ret (v := .agg #[.string f, .string t]) (by simp [results, Try.results101, go_sem]) rfl ⟨rfl, by go_grown⟩
  · have e1 : pF p f i = at_ p (i - 1) := by unfold pF; rw [if_pos h0]
    rw [e1]
    obtain ⟨b, off, rfl, hlt, f0⟩ := rds_get hr (k := i - 1) (by omega)
    obtain ⟨y, hy⟩ : ∃ y, y = at_ p (i - 1) := ⟨_, rfl⟩
    rw [← hy] at f0 ⊢
    have f0' : ((w.alloc (rgc f t)).alloc (rgc emptyS emptyS)).cell? ⟨b, off + (i - 1), none⟩ = some (.string y) := bel_later B0 f0
    have j1 : (0 : Int) < (i : Int) := by omega
    have j2 : (0 : Int) ≤ (i : Int) - 1 := by omega
    have j3 : (i : Int) - 1 < (n : Int) := by omega
    have j4 : ((i : Int) - 1).toNat = i - 1 := by omega
    have hb : ¬ b = w.heap.size := by omega
    have hb2 : ¬ w.heap.size = b := by omega
    by_cases h8 : i < n
    · have e2 : pT p t i = at_ p i := by unfold pT; rw [if_pos (by omega)]
      rw [e2]
      obtain ⟨b2, off2, e3, _, f1⟩ := rds_get hr (k := i) (by omega)
      cases e3
      obtain ⟨x, hx⟩ : ∃ x, x = at_ p i := ⟨_, rfl⟩
      rw [← hx] at f1 ⊢
      have f1' : ((w.alloc (rgc f t)).alloc (rgc emptyS emptyS)).cell? ⟨b, off + i, none⟩ = some (.string x) := bel_later B0 f1
      have f1'' : ((w.alloc (rgc y t)).alloc (rgc emptyS emptyS)).cell? ⟨b, off + i, none⟩ = some (.string x) := bel_later (w := w) (by go_grown) f1
      have j5 : (i : Int) < (n : Int) := by omega
      clear hr hl hx hy e1 e2 f0 f1 hlt
      go_enter Try.func101, Try.ntmps101
      go_wp2_with fail
      exact bodyPost_ret (v := .agg #[.string y, .string x]) (by simp [results, Try.results101, go_sem]) rfl ⟨rfl, by go_grown⟩
    · have e2 : pT p t i = t := by unfold pT; rw [if_neg (by omega)]
      rw [e2]
      have j5 : ¬ (i : Int) < (n : Int) := by omega
      clear hr hl hy e1 e2 f0 hlt
      go_enter Try.func101, Try.ntmps101
      go_wp2_with fail
      exact bodyPost_ret (v := .agg #[.string y, .string t]) (by simp [results, Try.results101, go_sem]) rfl ⟨rfl, by go_grown⟩
end Go.Proofs.Ytilnpeekajnlhaa.Pv
namespace Go.Proofs.Ytilnpeekajnlhaa.Pv
open Go.RowKit

/-- How many parts there are. -/
def many (p : List ByteArray) (f t : ByteArray) : Nat := if rightB p f t = true then p.length + 1 else 0
/-- What the iterator's boxes hold: how many, the pivots, the range; all of them below hi and not below lo. -/
structure It (w : World) (lo hi : Nat) (B1 B2 B3 : Nat) (p : List ByteArray) (f t : ByteArray) : Prop where
  b1 : lo ≤ B1 ∧ B1 < hi
  b2 : lo ≤ B2 ∧ B2 < hi
  b3 : lo ≤ B3 ∧ B3 < hi
  hs : hi ≤ w.heap.size
  c1 : w.cell? ⟨B1, 0, none⟩ = some (.int .i64 (many p f t : Nat))
  c2 : ∃ A c, w.cell? ⟨B2, 0, none⟩ = some (.slice A p.length c) ∧ RdS w A p ∧ (p = [] ∨ ∃ g, A = some ⟨g, 0, none⟩ ∧ lo ≤ g ∧ g < hi)
  c3 : w.cell? ⟨B3, 0, none⟩ = some (.string f) ∧ w.cell? ⟨B3, 1, none⟩ = some (.string t)
def itv (B1 B2 B3 : Nat) : Value := .func (.func 117) #[] #[.pointer (some ⟨B1, 0, none⟩), .pointer (some ⟨B2, 0, none⟩), .pointer (some ⟨B3, 0, none⟩)]
def AllPost (w : World) (p : List ByteArray) (f t : ByteArray) (e : Ending) (w' : World) : Prop := ∃ B1 B2 B3, e = .returned (itv B1 B2 B3) ∧ It w' w.heap.size w'.heap.size B1 B2 B3 p f t ∧ Below w.heap.size w w'
theorem rds_set {w : World} {A : Option Addr} {p : List ByteArray} {N j : Nat} {v : Value} (h : RdS w A p) (hne : p = [] ∨ ∃ g, A = some ⟨g, 0, none⟩ ∧ N < g) : RdS (w.setCell ⟨N, j, none⟩ v) A p := by
  rcases hne with hne | ⟨g, rfl, hg⟩
  · subst hne; exact .inl rfl
  · rcases h with h | ⟨b, off, e, hlt, hc⟩
    · exact .inl h
    · cases e
      exact .inr ⟨g, 0, rfl, by simpa using hlt, fun j' u hu => (World.cell?_setCell_other _ _ _ _ (by first | (simp; done) | (simp; omega))).trans (hc j' u hu)⟩
abbrev W3 (w : World) (A : Option Addr) (n c : Nat) (f t : ByteArray) : World := (((w.alloc (.cells #[.slice A n c] 23)).alloc (rgc f t)).alloc (.cells #[.int .i64 0] 3))
theorem all_end {w wo w2 : World} {A' : Option Addr} {c' n : Nat} {p : List ByteArray} {f t : ByteArray} (hl : p.length = n) (hb0 : Below w.heap.size w wo) (hsz : w.heap.size + 3 ≤ wo.heap.size)
    (c1 : wo.cell? ⟨w.heap.size + 1 + 1, 0, none⟩ = some (.int .i64 (many p f t : Nat))) (c2 : wo.cell? ⟨w.heap.size, 0, none⟩ = some (.slice A' n c') ∨ True) (z2 : ∃ v, wo.cell? ⟨w.heap.size, 0, none⟩ = some v) (c3 : wo.cell? ⟨w.heap.size + 1, 0, none⟩ = some (.string f) ∧ wo.cell? ⟨w.heap.size + 1, 1, none⟩ = some (.string t))
    (r1 : RdS w2 A' p) (r2 : p = [] ∨ ∃ g, A' = some ⟨g, 0, none⟩ ∧ wo.heap.size ≤ g) (hb : Below wo.heap.size wo w2) :
    AllPost w p f t (.returned (itv (w.heap.size + 1 + 1) w.heap.size (w.heap.size + 1))) (w2.setCell ⟨w.heap.size, 0, none⟩ (.slice A' n c')) := by
  have hs2 := hb.size
  refine ⟨_, _, _, rfl, ⟨⟨by omega, by simp; omega⟩, ⟨by omega, by simp; omega⟩, ⟨by omega, by simp; omega⟩, Nat.le_refl _, ?_, ⟨A', c', ?_, rds_set r1 ?_, ?_⟩, ?_, ?_⟩, ?_⟩
  · exact (World.cell?_setCell_other _ _ _ _ (by first | (simp; done) | (simp; omega))).trans (bel_later hb c1)
  · obtain ⟨v, hv⟩ := z2
    rw [hl]
    exact World.cell?_setCell_same _ _ _ (bel_later hb hv)
  · rcases r2 with h | ⟨g, h1, h2⟩
    · exact .inl h
    · exact .inr ⟨g, h1, by omega⟩
  · by_cases hp : p = []
    · exact .inl hp
    rcases r2 with h | ⟨g, h1, h2⟩
    · exact .inl h
    · right
      subst h1
      rcases r1 with h | ⟨b, off, e, hlt, _⟩
      · exact absurd (List.map_eq_nil_iff.1 h) hp
      · cases e
        exact ⟨g, rfl, by omega, by simpa using hlt⟩
  · exact (World.cell?_setCell_other _ _ _ _ (by simp)).trans (bel_later hb c3.1)
  · exact (World.cell?_setCell_other _ _ _ _ (by simp)).trans (bel_later hb c3.2)
  · exact (hb0.trans (hb.mono hb0.size)).setCell (p := ⟨w.heap.size, 0, none⟩) (Nat.le_refl _) _
set_option maxHeartbeats 1000000 in
theorem all_any (A : Option Addr) (p : List ByteArray) (n c : Nat) (f t : ByteArray) (w : World) (hl : p.length = n) (hn : n ≤ 1000) (hr : RdS w A p) :
    Calls Try.prog 99 #[.slice A n c, .agg #[.string f, .string t]] w (AllPost w p f t) := by
  have B0 : Hid (Below w.heap.size w (W3 w A n c f t)) := Lib.hid (by unfold W3; go_grown)
  have Q0 : Hid ((W3 w A n c f t).cell? ⟨w.heap.size, 0, none⟩ = some (.slice A n c)) := Lib.hid (by simp [W3, go_sem])
  have Q1 : Hid ((W3 w A n c f t).cell? ⟨w.heap.size + 1, 0, none⟩ = some (.string f) ∧ (W3 w A n c f t).cell? ⟨w.heap.size + 1, 1, none⟩ = some (.string t)) := Lib.hid (by simp [W3, go_sem])
  have Q3 : Hid ((W3 w A n c f t).cell? ⟨w.heap.size + 1 + 1, 0, none⟩ = some (.int .i64 0)) := Lib.hid (by simp [W3, go_sem])
  have F0 : Hid ((W3 w A n c f t).frozen? ⟨w.heap.size, 0, none⟩ = false ∧ (W3 w A n c f t).frozen? ⟨w.heap.size + 1 + 1, 0, none⟩ = false) := Lib.hid (by simp [W3, go_sem])
  have Z0 : Hid ((W3 w A n c f t).heap.size = w.heap.size + 3) := Lib.hid (by simp [W3])
  have O := Lib.hid (fun W (hb : Below w.heap.size w W) => own_any A n c p W hl (by omega) (Rd.later hr hb))
  have HL := Lib.hid hl
  have R := Lib.hid (fun W (hb : Below w.heap.size w W) => right_any A p n c f t W hl hn (Rd.later hr hb))
  have hn0 : (0 : Int) ≤ (n : Int) := by omega
  have hn9 : (n : Int) ≤ 1000 := by omega
  clear hr hl
  cases hv : rightB p f t
  · have HM : Hid (((many p f t : Nat) : Int) = 0) := Lib.hid (by unfold many; rw [hv]; rfl)
    rw [hv] at R
    clear hv
    go_enter Try.func99, Try.ntmps99
    go_wp2_with (first
      | (go_at_call 43; ((with_reducible refine (R.out _ B0.out).mono ?_); rintro e w1 ⟨rfl, b1⟩; have B1 := Lib.hid (B0.out.trans (b1.mono B0.out.size)); have C1 := Lib.hid b1; have q0 := bel_later b1 Q0.out; have z0 : w1.frozen? ⟨w.heap.size, 0, none⟩ = false := (bel_frozen b1 (by rw [Z0.out]; omega)).trans F0.out.1; clear b1))
      | (go_at_call 94; ((with_reducible refine (O.out _ B1.out).mono ?_); rintro e w2 ⟨A', c', rfl, r1, r2, b2⟩; have y0 := bel_later b2 q0; have y1 : w2.frozen? ⟨w.heap.size, 0, none⟩ = false := (bel_frozen b2 (World.block_lt_of_cell? w1 _ q0)).trans z0; have R1 := Lib.hid r1; have R2 := Lib.hid r2; have B2 := Lib.hid b2; clear r1 r2 b2))
      | fail)
    exact bodyPost_ret (v := itv (w.heap.size + 1 + 1) w.heap.size (w.heap.size + 1)) (by simp [results, Try.results99, go_sem, itv]) rfl (by
      rw [HL.out]
      refine all_end HL.out B1.out (by have := C1.out.size; rw [Z0.out] at this; omega) (by rw [HM.out]; exact bel_later C1.out Q3.out) (.inr trivial) ⟨_, q0⟩ ⟨bel_later C1.out Q1.out.1, bel_later C1.out Q1.out.2⟩ R1.out R2.out B2.out)
  · have HM : Hid (((many p f t : Nat) : Int) = (n : Int) + 1) := Lib.hid (by unfold many; rw [hv, if_pos rfl, HL.out]; omega)
    rw [hv] at R
    clear hv
    go_enter Try.func99, Try.ntmps99
    go_wp2_with (first
      | (go_at_call 43; ((with_reducible refine (R.out _ B0.out).mono ?_); rintro e w1 ⟨rfl, b1⟩; have B1 := Lib.hid (B0.out.trans (b1.mono B0.out.size)); have C1 := Lib.hid b1; have q0 := bel_later b1 Q0.out; have z0 : w1.frozen? ⟨w.heap.size, 0, none⟩ = false := (bel_frozen b1 (by rw [Z0.out]; omega)).trans F0.out.1; have q3 := bel_later b1 Q3.out; have z3 : w1.frozen? ⟨w.heap.size + 1 + 1, 0, none⟩ = false := (bel_frozen b1 (by rw [Z0.out]; omega)).trans F0.out.2; have B1s : Hid (Below w.heap.size w (w1.setCell ⟨w.heap.size + 1 + 1, 0, none⟩ (.int .i64 ((n : Int) + 1)))) := Lib.hid (B1.out.setCell (p := ⟨w.heap.size + 1 + 1, 0, none⟩) (by simp; omega) _); have q0' : (w1.setCell ⟨w.heap.size + 1 + 1, 0, none⟩ (.int .i64 ((n : Int) + 1))).cell? ⟨w.heap.size, 0, none⟩ = some (.slice A n c) := (World.cell?_setCell_other _ _ _ _ (by first | (simp; done) | (simp; omega))).trans q0; clear b1))
      | (go_at_call 94; ((with_reducible refine (O.out _ B1s.out).mono ?_); rintro e w2 ⟨A', c', rfl, r1, r2, b2⟩; have y0 := bel_later b2 q0'; have y1 : w2.frozen? ⟨w.heap.size, 0, none⟩ = false := (bel_frozen b2 (World.block_lt_of_cell? _ _ q0')).trans (by rw [World.frozen?_setCell]; exact z0); have R1 := Lib.hid r1; have R2 := Lib.hid r2; have B2 := Lib.hid b2; clear r1 r2 b2))
      | fail)
    exact bodyPost_ret (v := itv (w.heap.size + 1 + 1) w.heap.size (w.heap.size + 1)) (by simp [results, Try.results99, go_sem, itv]) rfl (by
      rw [HL.out]
      refine all_end HL.out B1s.out (by have := C1.out.size; rw [Z0.out] at this; simp; omega) (by rw [HM.out]; exact World.cell?_setCell_same _ _ _ q3) (.inr trivial) ⟨_, q0'⟩ ⟨(World.cell?_setCell_other _ _ _ _ (by simp)).trans (bel_later C1.out Q1.out.1), (World.cell?_setCell_other _ _ _ _ (by simp)).trans (bel_later C1.out Q1.out.2)⟩ R1.out R2.out B2.out)
end Go.Proofs.Ytilnpeekajnlhaa.Pv
namespace Go.Proofs.Ytilnpeekajnlhaa.Pv
open Go.RowKit Go.Shelf
attribute [local go_sem] Oper.semAt_some

/-- The blocks from lo to hi are kept. -/
def KpR (lo hi : Nat) (W W' : World) : Prop := W.heap.size ≤ W'.heap.size ∧ ∀ g, lo ≤ g → g < hi → W'.heap[g]? = W.heap[g]?
theorem KpR.refl (lo hi : Nat) (W : World) : KpR lo hi W W := ⟨Nat.le_refl _, fun _ _ _ => rfl⟩
theorem KpR.trans {lo hi : Nat} {A B C : World} (h : KpR lo hi A B) (k : KpR lo hi B C) : KpR lo hi A C := ⟨Nat.le_trans h.1 k.1, fun g a b => (k.2 g a b).trans (h.2 g a b)⟩
theorem KpR.of_below {lo hi : Nat} {W W' : World} (h : Below W.heap.size W W') (hh : hi ≤ W.heap.size) : KpR lo hi W W' := ⟨h.size, fun g a b => h.block g (by omega)⟩
theorem kp_cell {lo hi : Nat} {W W' : World} (h : KpR lo hi W W') {g o : Nat} {v : Value} (a : lo ≤ g) (b : g < hi) (hc : W.cell? ⟨g, o, none⟩ = some v) : W'.cell? ⟨g, o, none⟩ = some v := (World.cell?_of_block (h.2 g a b)).trans hc
theorem It.kp {w w' : World} {lo hi B1 B2 B3 : Nat} {p : List ByteArray} {f t : ByteArray} (h : It w lo hi B1 B2 B3 p f t) (k : KpR lo hi w w') : It w' lo hi B1 B2 B3 p f t := by
  obtain ⟨A, c, h1, h2, h3⟩ := h.c2
  refine ⟨h.b1, h.b2, h.b3, Nat.le_trans h.hs k.1, kp_cell k h.b1.1 h.b1.2 h.c1, ⟨A, c, kp_cell k h.b2.1 h.b2.2 h1, ?_, h3⟩, kp_cell k h.b3.1 h.b3.2 h.c3.1, kp_cell k h.b3.1 h.b3.2 h.c3.2⟩
  rcases h3 with h3 | ⟨g, rfl, g1, g2⟩
  · subst h3; exact .inl rfl
  · rcases h2 with h2 | ⟨b, off, e, hlt, hc⟩
    · exact .inl h2
    · cases e
      exact .inr ⟨g, 0, rfl, Nat.lt_of_lt_of_le hlt k.1, fun j u hj => kp_cell k g1 g2 (hc j u hj)⟩
theorem It.later {w w' : World} {lo hi B1 B2 B3 : Nat} {p : List ByteArray} {f t : ByteArray} (h : It w lo hi B1 B2 B3 p f t) (k : Below w.heap.size w w') : It w' lo hi B1 B2 B3 p f t := h.kp (.of_below k h.hs)
abbrev Part := Nat × ByteArray × ByteArray
def prtOf (p : List ByteArray) (f t : ByteArray) (i : Nat) : Part := (i, pF p f i, pT p t i)
def upto (p : List ByteArray) (f t : ByteArray) (k : Nat) : List Part := (List.range k).map (prtOf p f t)
theorem upto_succ (p : List ByteArray) (f t : ByteArray) (k : Nat) : upto p f t (k + 1) = upto p f t k ++ [prtOf p f t k] := by simp [upto, List.range_succ]
theorem upto_length (p : List ByteArray) (f t : ByteArray) (k : Nat) : (upto p f t k).length = k := by simp [upto]
abbrev encs (x : Part) : Array Value := #[.int .i64 (x.1 : Int), .agg #[.string x.2.1, .string x.2.2]]
theorem many_le (p : List ByteArray) (f t : ByteArray) : many p f t ≤ p.length + 1 := by unfold many; split <;> omega

set_option maxRecDepth 100000 in
set_option maxHeartbeats 2000000 in
theorem it_rounds (l lo hi B1 B2 B3 : Nat) (p : List ByteArray) (f t : ByteArray) (hn : p.length ≤ 1000) (J Jx : List Part → World → Prop) (W : World) (hI : It W lo hi B1 B2 B3 p f t)
    (hJ : AbidesFrom W.heap.size J)
    (hY : ∀ pre x W1, J pre W1 → pre.length < many p f t → YieldAt Fence.wide 2 Try.prog l (encs x) W1 fun e W' =>
      (e = .returned (.bool true) ∧ J (pre ++ [x]) W' ∧ KpR lo hi W1 W') ∨ (e = .returned (.bool false) ∧ Jx (pre ++ [x]) W'))
    (h0 : J [] W) :
    CallsIn Fence.wide 3 Try.prog 117 #[.func (.yield l) #[] #[], .pointer (some ⟨B1, 0, none⟩), .pointer (some ⟨B2, 0, none⟩), .pointer (some ⟨B3, 0, none⟩)] W fun e W' => (∃ v, e = .returned v) ∧
      ((∃ ys, ys = upto p f t (many p f t) ∧ J ys W') ∨ (∃ pre, (∃ k, k ≤ many p f t ∧ pre = upto p f t k) ∧ Jx pre W')) := by
  have c1 := hI.c1
  have HI := Lib.hid hI
  have hm := many_le p f t
  clear hI
  refine callsIn_of_wp Try.func117 rfl trivial ?_ rfl
  simp only [Try.ntmps117, List.size_toArray, List.length_cons, List.length_nil, Nat.reduceAdd, Nat.reduceSub, Array.replicate_succ, Array.replicate_zero, List.push_toArray, List.append_toArray, List.nil_append, List.cons_append]
  gi_wp2
  gi_loopw [5, 7] (fun _ iv wr => ∃ k : Nat, k ≤ many p f t ∧ iv = .int .i64 k ∧ J (upto p f t k) wr ∧ KpR lo hi W wr)
    (fun _ i _ => many p f t - (intOf i).toNat)
  case atStart => exact ⟨0, Nat.zero_le _, rfl, h0, KpR.refl _ _ _⟩
  case round =>
    obtain ⟨k, hk, rfl, hJs, hkp⟩ := hrel
    by_cases hlt : k < many p f t
    · have hk1 : (k : Int) < (many p f t : Int) := by omega
      have hk0 : (0 : Int) ≤ (k : Int) := by omega
      have hk9 : (k : Int) ≤ 1000 := by omega
      have HIr := Lib.hid (HI.out.kp hkp)
      obtain ⟨A, c, g1, g2, _⟩ := HIr.out.c2
      have g3 := HIr.out.c3.1
      have g4 := HIr.out.c3.2
      have PC := Lib.hid (piece_any A p p.length c k f t wr rfl hn (by omega) g2)
      have HJS := Lib.hid hJs
      have HKP := Lib.hid hkp
      clear g2 hJs hkp
      gi_wp2_with (first
        | (refine ⟨trivial, ?_⟩; gi_at_call 101; refine (callsIn_wide.2 PC.out).mono ?_; rintro e w3 ⟨rfl, b3⟩; have BX := Lib.hid b3; obtain ⟨fn, tmps, assign, body, hy, hR⟩ := hY (upto p f t k) (prtOf p f t k) w3 (hJ _ _ _ none HJS.out (bel_grown b3 none) (fun r e => by cases e)) (by rw [upto_length]; exact hlt); simp only [encs, prtOf] at hy; clear b3)
        | (gi_at_call 101; refine (callsIn_wide.2 PC.out).mono ?_; rintro e w3 ⟨rfl, b3⟩; have BX := Lib.hid b3; obtain ⟨fn, tmps, assign, body, hy, hR⟩ := hY (upto p f t k) (prtOf p f t k) w3 (hJ _ _ _ none HJS.out (bel_grown b3 none) (fun r e => by cases e)) (by rw [upto_length]; exact hlt); simp only [encs, prtOf] at hy; clear b3)
        | fail)
      refine hR.mono ?_
      rintro e W3 (⟨rfl, hJ3, hk3⟩ | ⟨rfl, hJx3⟩)
      · gi_wp2
        go_roundw
        case rel => exact ⟨k + 1, by omega, by simp, by rw [upto_succ]; exact hJ3, HKP.out.trans ((KpR.of_below BX.out HIr.out.hs).trans hk3)⟩
        case measure => simp [intOf]; omega
      · gi_wp2
        refine bodyPost_ret (results_none rfl _ _ _) rfl ?_
        exact ⟨⟨_, rfl⟩, .inr ⟨_, ⟨k + 1, by omega, (upto_succ _ _ _ _).symm⟩, hJx3⟩⟩
    · have hk1 : ¬ (k : Int) < (many p f t : Int) := by omega
      have e : k = many p f t := by omega
      subst e
      gi_wp2
      go_end0
      exact ⟨⟨_, rfl⟩, .inl hJs⟩
/-- **The iterator's contract.** -/
theorem it_stops {lo hi B1 B2 B3 : Nat} {p : List ByteArray} {f t : ByteArray} (hn : p.length ≤ 1000) (w : World) (hI : It w lo hi B1 B2 B3 p f t) :
    SeqStopsK Fence.wide 3 Try.prog 117 #[.pointer (some ⟨B1, 0, none⟩), .pointer (some ⟨B2, 0, none⟩), .pointer (some ⟨B3, 0, none⟩)] encs (KpR lo hi) (fun ys => ys = upto p f t (many p f t)) (fun pre => ∃ k, k ≤ many p f t ∧ pre = upto p f t k) (many p f t) w :=
  fun l J Jx W hW hJ _ hY h0 => it_rounds l lo hi B1 B2 B3 p f t hn J Jx W (hI.later hW) hJ hY h0
end Go.Proofs.Ytilnpeekajnlhaa.Pv
namespace Go.Proofs.Ytilnpeekajnlhaa.Pv
open Go.RowKit Go.Shelf
attribute [local go_sem] Oper.semAt_some

theorem info24 : (Try.prog.info? 30).map (fun i => (i.zero, i.size, i.bytes)) = some (some (.agg #[.string ⟨#[]⟩, .string ⟨#[]⟩]), 2, 32) := by kernel_rfl
/-- The cells of parts in a row. -/
def flt (ps : List (ByteArray × ByteArray)) : List Value := ps.flatMap fun x => [.string x.1, .string x.2]
theorem flt_snoc (ps : List (ByteArray × ByteArray)) (x : ByteArray × ByteArray) : flt (ps ++ [x]) = flt ps ++ [.string x.1, .string x.2] := by simp [flt]
abbrev ends (pre : List Part) : List (ByteArray × ByteArray) := pre.map (·.2)
def okL (pre : List Part) : Bool := (pre.zipIdx).all fun x => x.1.1 == x.2
theorem okL_snoc (pre : List Part) (x : Part) : okL (pre ++ [x]) = (okL pre && x.1 == pre.length) := by simp [okL, List.zipIdx_append]
theorem okL_upto (p : List ByteArray) (f t : ByteArray) : ∀ k, okL (upto p f t k) = true
  | 0 => rfl
  | k + 1 => by rw [upto_succ, okL_snoc, okL_upto p f t k, upto_length]; simp [prtOf]
/-- A row that may be written to does not touch the iterator's blocks. -/
def Far (lo hi : Nat) (v : Value) : Prop := ∀ k, v.ownBlock = some k → k < lo ∨ hi ≤ k
structure SpI (w : World) (lo hi : Nat) (pre : List Part) (W : World) : Prop where
  out : ∃ v, Boxed W (w.heap.size + 1 + 1) 73 v ∧ W.ownsRow w.heap.size 30 2 v pre.length (flt (ends pre)) ∧ Far lo hi v
  ok : Boxed W (w.heap.size + 1 + 1 + 1) 4 (.bool (okL pre))
  bel : Below w.heap.size w W
  hs : hi ≤ W.heap.size
theorem spI_own (w : World) (lo hi B : Nat) (hB : w.heap.size ≤ B) : OwnFrom B (SpI w lo hi) := by
  intro s X Y row hs hg hr
  refine ⟨?_, ?_, ?_, Nat.le_trans hs.hs hg.size⟩
  · exact (Own.from (holdsRow_own w.heap.size (w.heap.size + 1 + 1) 73 30 2 (fun pre : List Part => pre.length) (fun pre => flt (ends pre)) (fun _ v => Far lo hi v)) B) s X Y row hs.out hg hr
  · exact (Own.from (boxed_own (w.heap.size + 1 + 1 + 1) 4 (fun pre : List Part => Value.bool (okL pre))) B) s X Y row hs.ok hg hr
  · exact (ownFrom_below (β := List Part) (Nat.le_refl _) hB) s X Y row hs.bel hg hr
def RdP (w : World) (A : Option Addr) (ps : List (ByteArray × ByteArray)) : Prop := Rd w w.heap.size A (flt ps)
def SpansPost (w : World) (ps : List (ByteArray × ByteArray)) (e : Ending) (w' : World) : Prop := ∃ A c, e = .returned (.tuple #[.slice A ps.length c, .bool true]) ∧ RdP w' A ps ∧ Below w.heap.size w w'
def parts (p : List ByteArray) (f t : ByteArray) : List (ByteArray × ByteArray) := (List.range (many p f t)).map fun i => (pF p f i, pT p t i)
theorem ends_upto (p : List ByteArray) (f t : ByteArray) : ends (upto p f t (many p f t)) = parts p f t := by simp [ends, upto, parts, prtOf, List.map_map, Function.comp_def]

theorem two_new (w : World) (a b : ByteArray) : ∀ j u, [Value.string a, .string b][j]? = some u → (w.alloc (rgc a b)).cell? ((⟨w.heap.size, 0, none⟩ : Addr).add j) = some u := by
  intro j u hj
  match j, hj with
  | 0, hj => simp at hj; subst hj; exact (rgcell (w := w) a b).1
  | 1, hj => simp at hj; subst hj; exact (rgcell (w := w) a b).2

theorem kpR_b {lo hi : Nat} {B : Nat} (hB : hi ≤ B) : ∀ (W : World) (l : Nat) (o o' : Obj), B ≤ l → W.heap[l]? = some o → o.isCells = false → o.isWalk = false → KpR lo hi W (W.putObj l o') := by
  intro W l o o' h1 h2 h3 h4
  have hg := grownBy_putObj' W l o'
  exact ⟨hg.size, fun g a b => hg.block g (Nat.lt_of_lt_of_le b (by have := (Array.getElem?_eq_some_iff.1 h2).1; omega)) (fun e => by cases e; omega)⟩
theorem own_shape {w : World} {base : Nat} {e : TypeId} {size : Nat} {v : Value} {n : Nat} {xs : List Value} (h : w.ownsRow base e size v n xs) : ∃ a c, v = .slice a n c := by
  rcases h.2 with ⟨rfl, rfl⟩ | ⟨g, cap, cur, rfl, _⟩
  · exact ⟨_, _, rfl⟩
  · exact ⟨_, _, rfl⟩
theorem two_new2 (w : World) (N : Nat) (a b : ByteArray) (h : N = w.heap.size) : ∀ j u, [Value.string a, .string b][j]? = some u → (w.alloc (rgc a b)).cell? ((⟨N, 0, none⟩ : Addr).add j) = some u := by subst h; exact two_new w a b
theorem kpR_grown {lo hi : Nat} {A B : World} {v : Value} (h : A.grownBy B v.ownBlock) (hf : Far lo hi v) (hh : hi ≤ A.heap.size) : KpR lo hi A B := ⟨h.size, fun g a b => h.block g (by omega) (fun e => by have := hf g e.symm; omega)⟩
theorem kpR_set {lo hi b : Nat} (W : World) (h : b < lo) (v : Value) : KpR lo hi W (W.setCell ⟨b, 0, none⟩ v) := by
  have hg := grownBy_setCell' W b v
  exact ⟨hg.size, fun g a c => (Below.heap_setCell W ⟨b, 0, none⟩ v g (by simp; omega))⟩
/-- One more part is appended. -/
theorem app_end {w W w1 : World} {lo hi : Nat} {pre : List Part} {x : Part} {b : Bool} {v v' : Value} (hlo : lo = w.heap.size + 4) (hhi : w.heap.size ≤ hi)
    (hI : SpI w lo hi pre W) (hb : okL (pre ++ [x]) = b) (hv : Boxed W (w.heap.size + 1 + 1) 73 v) (hrow : W.ownsRow w.heap.size 30 2 v pre.length (flt (ends pre))) (hf : Far lo hi v)
    (hown' : w1.ownsRow w.heap.size 30 2 v' (pre.length + 1) (flt (ends pre) ++ [.string x.2.1, .string x.2.2]))
    (hgrow : ((W.setCell ⟨w.heap.size + 1 + 1 + 1, 0, none⟩ (.bool b)).alloc (rgc x.2.1 x.2.2)).grownBy w1 v.ownBlock)
    (hat : v'.ownBlock = v.ownBlock ∨ v'.ownBlock = some ((W.setCell ⟨w.heap.size + 1 + 1 + 1, 0, none⟩ (.bool b)).alloc (rgc x.2.1 x.2.2)).heap.size) :
    Boxed w1 (w.heap.size + 1 + 1) 73 v ∧ KeepsFrom hi W (w1.setCell ⟨w.heap.size + 1 + 1, 0, none⟩ v') ∧ KpR lo hi W (w1.setCell ⟨w.heap.size + 1 + 1, 0, none⟩ v') ∧ SpI w lo hi (pre ++ [x]) (w1.setCell ⟨w.heap.size + 1 + 1, 0, none⟩ v') := by
  have hsz := hI.bel.size
  have hsi := hI.hs
  have hv2 : Boxed (W.setCell ⟨w.heap.size + 1 + 1 + 1, 0, none⟩ (.bool b)) (w.heap.size + 1 + 1) 73 v := hv.other (by omega) _
  have hne : v.ownBlock ≠ some (w.heap.size + 1 + 1 + 1) := (hI.ok.not_row (by decide) hrow).symm
  have hrow2 := own_set hrow hne (.bool b) (o := 0)
  have hok2 : Boxed (W.setCell ⟨w.heap.size + 1 + 1 + 1, 0, none⟩ (.bool b)) (w.heap.size + 1 + 1 + 1) 4 (.bool b) := hI.ok.set _
  obtain ⟨q1, q2, q3, q4, q5⟩ := hv2.appended (n₀ := w.heap.size) (by decide) hrow2 (by simp; omega) (by omega) hown' hgrow
  have hok3 : Boxed (w1.setCell ⟨w.heap.size + 1 + 1, 0, none⟩ v') (w.heap.size + 1 + 1 + 1) 4 (.bool b) := (((hok2.alloc _).kept hgrow hne.symm).other (by omega) _)
  have hB : Below w.heap.size W (W.setCell ⟨w.heap.size + 1 + 1 + 1, 0, none⟩ (.bool b)) := (Below.refl _ W).setCell (p := ⟨w.heap.size + 1 + 1 + 1, 0, none⟩) (by simp; omega) _
  have k1 : KpR lo hi W (W.setCell ⟨w.heap.size + 1 + 1 + 1, 0, none⟩ (.bool b)) := kpR_set _ (by omega) _
  have k2 : KpR lo hi (W.setCell ⟨w.heap.size + 1 + 1 + 1, 0, none⟩ (.bool b)) ((W.setCell ⟨w.heap.size + 1 + 1 + 1, 0, none⟩ (.bool b)).alloc (rgc x.2.1 x.2.2)) := .of_below ((Below.refl _ _).alloc (Nat.le_refl _) _) (by simp; omega)
  have k3 := kpR_grown hgrow hf (by simp; omega)
  have k4 : KpR lo hi w1 (w1.setCell ⟨w.heap.size + 1 + 1, 0, none⟩ v') := kpR_set _ (by omega) _
  have k := (k1.trans k2).trans (k3.trans k4)
  refine ⟨q1, ((KeepsOthers.setCell _ _ _).trans q4).from _, k, ⟨⟨v', q2, ?_, ?_⟩, ?_, hI.bel.trans (hB.trans q5), Nat.le_trans hsi k.1⟩⟩
  · rw [show ends (pre ++ [x]) = ends pre ++ [x.2] by simp, flt_snoc, show (pre ++ [x]).length = pre.length + 1 by simp]
    exact q3
  · intro k' e
    rcases hat with h | h
    · exact hf k' (h ▸ e)
    · rw [h] at e; cases e; right; simp; omega
  · rw [hb]; exact hok3
end Go.Proofs.Ytilnpeekajnlhaa.Pv
namespace Go.Proofs.Ytilnpeekajnlhaa.Pv
open Go.RowKit Go.Shelf
attribute [local go_sem] Oper.semAt_some

/-- The first part that meets a range, and how many do. -/
def mtS (a b : ByteArray) (s : Nat × Nat) (x : Part) : Nat × Nat := if (meetF x.2.1 x.2.2 a b).2.2 = true then (if s.2 = 0 then x.1 else s.1, s.2 + 1) else s
def mts (a b : ByteArray) (pre : List Part) : Nat × Nat := pre.foldl (mtS a b) (0, 0)
theorem mts_snoc (a b : ByteArray) (pre : List Part) (x : Part) : mts a b (pre ++ [x]) = mtS a b (mts a b pre) x := by simp [mts]
theorem mts_le (a b : ByteArray) (pre : List Part) : (mts a b pre).2 ≤ pre.length := by
  have h : ∀ (l : List Part) (s : Nat × Nat), (l.foldl (mtS a b) s).2 ≤ s.2 + l.length := by
    intro l
    induction l with
    | nil => intro s; exact Nat.le_refl _
    | cons x l ih =>
      intro s
      have h1 := ih (mtS a b s x)
      have h2 : (mtS a b s x).2 ≤ s.2 + 1 := by unfold mtS; split <;> simp
      simp only [List.foldl_cons, List.length_cons]
      omega
  have := h pre (0, 0)
  simpa [mts] using this
structure MtI (w : World) (lo hi : Nat) (a b : ByteArray) (s : Nat × Nat) (W : World) : Prop where
  first : Boxed W (w.heap.size + 1 + 1) 3 (.int .i64 (s.1 : Int))
  cnt : Boxed W (w.heap.size + 1 + 1 + 1) 3 (.int .i64 (s.2 : Int))
  box : W.heap[w.heap.size + 1]? = some (rgc a b)
  bel : Below w.heap.size w W
  hs : hi ≤ W.heap.size
theorem rg_kept {W W' : World} {row : Option Nat} {B : Nat} {a b : ByteArray} (h : W.heap[B]? = some (rgc a b)) (hg : W.grownBy W' row) (hr : ∀ r, row = some r → ∃ o : Obj, W.heap[r]? = some o ∧ o.isCells = false) : W'.heap[B]? = some (rgc a b) :=
  (hg.block B (Array.getElem?_eq_some_iff.1 h).1 (fun e => by obtain ⟨o, ho, hc⟩ := hr B e.symm; rw [h] at ho; cases ho; cases hc)).trans h
theorem mtI_own (w : World) (lo hi B : Nat) (a b : ByteArray) (hB : w.heap.size ≤ B) : OwnFrom B (fun pre => MtI w lo hi a b (mts a b pre)) := by
  intro s X Y row hs hg hr
  refine ⟨?_, ?_, rg_kept hs.box hg (fun r e => (hr r e).2), ?_, Nat.le_trans hs.hs hg.size⟩
  · exact (Own.from (boxed_own (w.heap.size + 1 + 1) 3 (fun pre : List Part => Value.int .i64 ((mts a b pre).1 : Int))) B) s X Y row hs.first hg hr
  · exact (Own.from (boxed_own (w.heap.size + 1 + 1 + 1) 3 (fun pre : List Part => Value.int .i64 ((mts a b pre).2 : Int))) B) s X Y row hs.cnt hg hr
  · exact (ownFrom_below (β := List Part) (Nat.le_refl _) hB) s X Y row hs.bel hg hr
theorem MtI.later {w W W' : World} {lo hi : Nat} {a b : ByteArray} {s : Nat × Nat} (h : MtI w lo hi a b s W) (hb : Below W.heap.size W W') : MtI w lo hi a b s W' :=
  ⟨(hb.block _ h.first.lt).trans h.first, (hb.block _ h.cnt.lt).trans h.cnt, (hb.block _ (Array.getElem?_eq_some_iff.1 h.box).1).trans h.box, h.bel.trans (hb.mono h.bel.size), Nat.le_trans h.hs hb.size⟩
theorem MtI.set1 {w W : World} {lo hi : Nat} {a b : ByteArray} {s : Nat × Nat} (h : MtI w lo hi a b s W) (k : Nat) : MtI w lo hi a b (k, s.2) (W.setCell ⟨w.heap.size + 1 + 1, 0, none⟩ (.int .i64 (k : Int))) :=
  ⟨h.first.set _, h.cnt.other (by omega) _, (Below.heap_setCell W ⟨w.heap.size + 1 + 1, 0, none⟩ _ _ (by simp)).trans h.box, h.bel.setCell (p := ⟨w.heap.size + 1 + 1, 0, none⟩) (by simp; omega) _, by simpa using h.hs⟩
theorem MtI.set2 {w W : World} {lo hi : Nat} {a b : ByteArray} {s : Nat × Nat} (h : MtI w lo hi a b s W) (k : Nat) : MtI w lo hi a b (s.1, k) (W.setCell ⟨w.heap.size + 1 + 1 + 1, 0, none⟩ (.int .i64 (k : Int))) :=
  ⟨h.first.other (by omega) _, h.cnt.set _, (Below.heap_setCell W ⟨w.heap.size + 1 + 1 + 1, 0, none⟩ _ _ (by simp)).trans h.box, h.bel.setCell (p := ⟨w.heap.size + 1 + 1 + 1, 0, none⟩) (by simp; omega) _, by simpa using h.hs⟩
/-- What a round keeps. -/
def Rnd (lo hi : Nat) (W W' : World) : Prop := KeepsFrom hi W W' ∧ KpR lo hi W W'
theorem Rnd.below {lo hi : Nat} {W W' : World} (hb : Below W.heap.size W W') (h : hi ≤ W.heap.size) : Rnd lo hi W W' :=
  ⟨(KeepsOthers.of_grownBy (bel_grown hb none) (fun j o e _ => by cases e)).from _, .of_below hb h⟩
theorem Rnd.set {lo hi k : Nat} {W W' : World} (h : Rnd lo hi W W') (hk : k < lo) (v : Value) : Rnd lo hi W (W'.setCell ⟨k, 0, none⟩ v) :=
  ⟨h.1.trans ((KeepsOthers.setCell _ _ _).from _), h.2.trans (kpR_set _ hk _)⟩
theorem mtS_no {a b : ByteArray} {s : Nat × Nat} {x : Part} (h : (meetF x.2.1 x.2.2 a b).2.2 = false) : mtS a b s x = s := by unfold mtS; rw [h]; rfl
theorem mtS_yes {a b : ByteArray} {s : Nat × Nat} {x : Part} (h : (meetF x.2.1 x.2.2 a b).2.2 = true) : mtS a b s x = (if s.2 = 0 then x.1 else s.1, s.2 + 1) := by unfold mtS; rw [h]; rfl
def MeetsPost (w : World) (s : Nat × Nat) (e : Ending) (w' : World) : Prop := e = .returned (.tuple #[.int .i64 (s.1 : Int), .int .i64 (s.2 : Int)]) ∧ Below w.heap.size w w'

end Go.Proofs.Ytilnpeekajnlhaa.Pv
