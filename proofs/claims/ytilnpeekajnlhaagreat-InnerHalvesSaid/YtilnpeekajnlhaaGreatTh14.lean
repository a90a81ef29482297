/- Texts of the proof, one behind the other. -/
import Derived.Test.YtilnpeekajnlhaaGreatTh13
import Derived.RangeFuncNested
import Derived.RangeFuncBound
import Derived.RangeFuncCalls
import Derived.RangeFuncLeaves
import Derived.Shelf.Abstract
import Derived.Shelf.RegionOpen
import Derived.OwnWalkIn
import Derived.TacticsInMore
import Derived.LoopNIn
import Derived.LoopIn
import Derived.Maps.AppendAt
import Derived.Maps.OwnIn
import Derived.RangeFuncWrites
import Derived.Test.YtilnpeekajnlhaaGreatTh02
set_option linter.unusedVariables false
set_option linter.unusedSimpArgs false
namespace Go.Proofs.YtilnpeekajnlhaaGreat.Pv
open Go.RowKit

theorem info9 : (Tryz.prog.info? 9).map (fun i => (i.zero, i.size, i.bytes)) = some (some (.string ⟨#[]⟩), 1, 16) := by kernel_rfl
theorem put_nothing (A0 A : Option Addr) (n0 c0 c : Nat) (hle : n0 ≤ c0) (ty : TypeId) (w : World) : (Builtin.append_ #[23, 23] ty #[.slice A0 n0 c0, .slice A 0 c]).run Tryz.prog w = .ok (.slice A0 (n0 + 0) c0) w := by
  obtain ⟨i0, hI0, hI1, hI2, hI3⟩ := info_parts info9
  have hf : ∀ a : Addr, (Builtin.firstCells i0.size 0 (.slice (some a) 0 c)).run Tryz.prog w = .ok #[] w := fun a => run_firstCells_some (P := Tryz.prog) w i0.size 0 a 0 c [] (by simp) (fun j v hv => by simp at hv)
  have hg : (Builtin.firstCells i0.size 0 (.slice none 0 c)).run Tryz.prog w = .ok #[] w := run_firstCells_none w i0.size 0 0 c
  cases A with
  | none => cases A0 <;> simp [Builtin.append_, run_underlying Tryz.underlying23, sizeOf, typeInfo, hI0, Builtin.lenOf, storeCells, hle, hg]
  | some a => cases A0 <;> simp [Builtin.append_, run_underlying Tryz.underlying23, sizeOf, typeInfo, hI0, Builtin.lenOf, storeCells, hle, hf a]
theorem rds_news {w : World} {b off : Nat} {l : List ByteArray} (h : RdS w (some ⟨b, off, none⟩) l) : ∀ j u, (l.map Value.string)[j]? = some u → w.cell? ((⟨b, off, none⟩ : Addr).add j) = some u := by
  intro j u hu
  rcases h with h | ⟨b', off', e, hlt, hc⟩
  · rw [h] at hu; simp at hu
  · cases e
    have := hc j u hu
    by_cases z : j = 0
    · subst z; simpa [Addr.add] using this
    · simpa [Addr.add, z] using this
/-- A row of texts in new memory, or an empty one. -/
def NewS (w : World) (l : List ByteArray) (e : Ending) (w' : World) : Prop := ∃ A c, e = .returned (.slice A l.length c) ∧ RdS w' A l ∧ (l = [] ∨ ∃ g, A = some ⟨g, 0, none⟩ ∧ w.heap.size ≤ g) ∧ Below w.heap.size w w'
theorem own_put {w : World} (A0 : Option Addr) (A : Option Addr) (c : Nat) (l : List ByteArray) (hm : l.length ≤ 1000000) (hr : RdS w A l) (ty : TypeId) :
    ∃ A' c' w', (Builtin.append_ #[23, 23] ty #[.slice A0 0 0, .slice A l.length c]).run Tryz.prog w = .ok (.slice A' l.length c') w' ∧ RdS w' A' l ∧ (l = [] ∨ ∃ g, A' = some ⟨g, 0, none⟩ ∧ w.heap.size ≤ g) ∧ Below w.heap.size w w' := by
  obtain ⟨i0, hI0, hI1, hI2, hI3⟩ := info_parts info9
  by_cases hl : l = []
  · subst hl
    exact ⟨A0, 0, w, put_nothing A0 A 0 0 c (Nat.le_refl _) ty w, .inl rfl, .inl rfl, Below.refl _ _⟩
  · have hlp : 0 < l.length := List.length_pos_iff.2 hl
    rcases hr with hr | ⟨b, off, rfl, hlt, hc⟩
    · exact absurd (List.map_eq_nil_iff.1 hr) hl
    · have hnews := rds_news (.inr ⟨b, off, rfl, hlt, hc⟩ : RdS w (some ⟨b, off, none⟩) l)
      have hrun : (Builtin.append_ #[23, 23] ty #[.slice A0 0 0, .slice (some ⟨b, off, none⟩) l.length c]).run Tryz.prog w =
          .ok (.slice (some ⟨w.heap.size, 0, none⟩) l.length (grownCap w l.length 0 9)) (w.drew.alloc (.cells ((l.map Value.string).toArray ++ Builtin.zeroCells (Value.string ⟨#[]⟩).cells (grownCap w l.length 0 9 - l.length)) 9)) := by
        cases A0 with
        | none => exact run_append_nil (P := Tryz.prog) w 23 ty 9 i0 (.string ⟨#[]⟩) Tryz.underlying23 hI0 hI1 ⟨b, off, none⟩ l.length c (l.map Value.string) (by rw [List.length_map, hI2, Nat.mul_one]) hnews hlp (by omega) (by rw [hI3]; omega)
        | some a =>
          have h := run_append_grow (P := Tryz.prog) w 23 ty 9 i0 (.string ⟨#[]⟩) Tryz.underlying23 hI0 hI1 a 0 0 [] (by simp) (fun j v hv => by simp at hv) ⟨b, off, none⟩ l.length c (l.map Value.string) (by rw [List.length_map, hI2, Nat.mul_one]) hnews (by omega) (by omega) (by rw [Nat.zero_add, nextslicecap_zero hlp, hI3]; omega)
          simpa using h
      refine ⟨_, _, _, hrun, ?_, .inr ⟨w.heap.size, rfl, Nat.le_refl _⟩, by go_grown⟩
      refine .inr ⟨w.heap.size, 0, rfl, by simp, fun j u hj => ?_⟩
      refine (cell_of_row (w.drew.alloc _) w.heap.size (0 + j) _ _ _ (heap_alloc_new w.drew _)).trans ?_
      rw [Nat.zero_add, Array.getElem?_append, if_pos (by have := (List.getElem?_eq_some_iff.1 hj).1; simpa using this)]
      simpa using hj
theorem wpList_own_put (w : World) {ops : Array Oper} {rest : List Oper} {o : Oper} {a : Act} {Q : Exit → Act → World → Prop} (hg : o.guard = none) (s x : Operand)
    (hop : o.op = Op.call { callee := Callee.builtin Builtin.append, args := #[s, x], argTypes := #[23, 23] }) (A0 A : Option Addr) (m c : Nat) (l : List ByteArray) (hs : a.eval s = .slice A0 0 0) (hx : a.eval x = .slice A m c)
    (hl : l.length = m) (hm : m ≤ 1000000) (hr : RdS w A l)
    (hK : ∀ A' c' w', RdS w' A' l → (l = [] ∨ ∃ g, A' = some ⟨g, 0, none⟩ ∧ w.heap.size ≤ g) → Below w.heap.size w w' → wpList Tryz.prog ops Q rest (a.put o.dst (.slice A' m c')) w') :
    wpList Tryz.prog ops Q (o :: rest) a w := by
  subst hl
  refine wpList_plain hg fun K' hK' => ?_
  obtain ⟨A', c', w', hrun, r1, r2, r3⟩ := own_put A0 A c l hm hr o.type
  unfold Oper.wp
  simp [execOp, hop, resolve, invoke, builtin, hs, hx, hrun, Result.andThen]
  exact hK' _ _ (hK A' c' w' r1 r2 r3)
theorem own_any (A : Option Addr) (n c : Nat) (l : List ByteArray) (w : World) (hl : l.length = n) (hn : n ≤ 1000000) (hA : RdS w A l) :
    Calls Tryz.prog 94 #[.slice A n c] w (NewS w l) := by
  have HA := Lib.hid hA
  have HL := Lib.hid hl
  clear hA hl
  go_enter Tryz.func94, Tryz.ntmps94
  go_wp2_with (first
    | (at_builtin; refine wpList_own_put _ rfl (.tmp 4) (.tmp 5) rfl A A n c l rfl rfl HL.out hn HA.out ?_; intro A' c' w' r1 r2 r3; have R1 := Lib.hid r1; have R2 := Lib.hid r2; have R3 := Lib.hid r3; clear r1 r2 r3)
    | fail)
  exact bodyPost_ret (v := .slice A' n c') (by simp [results, Tryz.results94, go_sem]) rfl ⟨A', c', by rw [HL.out], R1.out, R2.out, R3.out⟩
def pF (p : List ByteArray) (f : ByteArray) (i : Nat) : ByteArray := if 0 < i then at_ p (i - 1) else f
def pT (p : List ByteArray) (t : ByteArray) (i : Nat) : ByteArray := if i < p.length then at_ p i else t
set_option maxHeartbeats 1000000 in
theorem piece_any (A : Option Addr) (p : List ByteArray) (n c i : Nat) (f t : ByteArray) (w : World) (hl : p.length = n) (hn : n ≤ 1000) (hi : i ≤ n) (hr : RdS w A p) :
    Calls Tryz.prog 93 #[.slice A n c, .agg #[.string f, .string t], .int .i64 i] w fun e w' => e = .returned (.agg #[.string (pF p f i), .string (pT p t i)]) ∧ Below w.heap.size w w' := by
  have B0 : Below w.heap.size w ((w.alloc (rgc f t)).alloc (rgc emptyS emptyS)) := by go_grown
  have hi0 : (0 : Int) ≤ (i : Int) := by omega
  have hi9 : (i : Int) ≤ 1000 := by omega
  rcases Nat.eq_zero_or_pos i with h0 | h0
  · subst h0
    have e1 : pF p f 0 = f := rfl
    rw [e1]
    by_cases h8 : 0 < n
    · have e2 : pT p t 0 = at_ p 0 := by unfold pT; rw [if_pos (by omega)]
      rw [e2]
      obtain ⟨b, off, rfl, hlt, f0⟩ := rds_get hr (k := 0) (by omega)
      obtain ⟨x, hx⟩ : ∃ x, x = at_ p 0 := ⟨_, rfl⟩
      rw [← hx] at f0 ⊢
      have f0' : ((w.alloc (rgc f t)).alloc (rgc emptyS emptyS)).cell? ⟨b, off, none⟩ = some (.string x) := bel_later B0 f0
      have j1 : (0 : Int) < (n : Int) := by omega
      clear hr hl hx e1 e2 f0
      go_enter Tryz.func93, Tryz.ntmps93
      go_wp2_with fail
      exact bodyPost_ret (v := .agg #[.string f, .string x]) (by simp [results, Tryz.results93, go_sem]) rfl ⟨rfl, by go_grown⟩
    · have e2 : pT p t 0 = t := by unfold pT; rw [if_neg (by omega)]
      have e0 : n = 0 := by omega
      subst e0
      rw [e2]
      clear hr hl e1 e2
      go_enter Tryz.func93, Tryz.ntmps93
      go_wp2_with fail
      exact bodyPost_ret (v := .agg #[.string f, .string t]) (by simp [results, Tryz.results93, go_sem]) rfl ⟨rfl, by go_grown⟩
  · have e1 : pF p f i = at_ p (i - 1) := by unfold pF; rw [if_pos h0]
    rw [e1]
    obtain ⟨b, off, rfl, hlt, f0⟩ := rds_get hr (k := i - 1) (by omega)
    obtain ⟨y, hy⟩ : ∃ y, y = at_ p (i - 1) := ⟨_, rfl⟩
    rw [← hy] at f0 ⊢
    have f0' : ((w.alloc (rgc f t)).alloc (rgc emptyS emptyS)).cell? ⟨b, off + (i - 1), none⟩ = some (.string y) := bel_later B0 f0
    have j1 : (0 : Int) < (i : Int) := by omega
    have j2 : (0 : Int) ≤ (i : Int) - 1 := by omega
    have j3 : (i : Int) - 1 < (n : Int) := by omega
    have j4 : ((i : Int) - 1).toNat = i - 1 := by omega
    have hb : ¬ b = w.heap.size := by omega
    have hb2 : ¬ w.heap.size = b := by omega
    by_cases h8 : i < n
    · have e2 : pT p t i = at_ p i := by unfold pT; rw [if_pos (by omega)]
      rw [e2]
      obtain ⟨b2, off2, e3, _, f1⟩ := rds_get hr (k := i) (by omega)
      cases e3
      obtain ⟨x, hx⟩ : ∃ x, x = at_ p i := ⟨_, rfl⟩
      rw [← hx] at f1 ⊢
      have f1' : ((w.alloc (rgc f t)).alloc (rgc emptyS emptyS)).cell? ⟨b, off + i, none⟩ = some (.string x) := bel_later B0 f1
      have f1'' : ((w.alloc (rgc y t)).alloc (rgc emptyS emptyS)).cell? ⟨b, off + i, none⟩ = some (.string x) := bel_later (w := w) (by go_grown) f1
      have j5 : (i : Int) < (n : Int) := by omega
      clear hr hl hx hy e1 e2 f0 f1 hlt
      go_enter Tryz.func93, Tryz.ntmps93
      go_wp2_with fail
      exact bodyPost_ret (v := .agg #[.string y, .string x]) (by simp [results, Tryz.results93, go_sem]) rfl ⟨rfl, by go_grown⟩
    · have e2 : pT p t i = t := by unfold pT; rw [if_neg (by omega)]
      rw [e2]
      have j5 : ¬ (i : Int) < (n : Int) := by omega
      clear hr hl hy e1 e2 f0 hlt
      go_enter Tryz.func93, Tryz.ntmps93
      go_wp2_with fail
      exact bodyPost_ret (v := .agg #[.string y, .string t]) (by simp [results, Tryz.results93, go_sem]) rfl ⟨rfl, by go_grown⟩
end Go.Proofs.YtilnpeekajnlhaaGreat.Pv
namespace Go.Proofs.YtilnpeekajnlhaaGreat.Pv
open Go.RowKit

/-- How many parts there are. -/
def many (p : List ByteArray) (f t : ByteArray) : Nat := if rightB p f t = true then p.length + 1 else 0
/-- What the iterator's boxes hold: how many, the pivots, the range; all of them below hi and not below lo. -/
structure It (w : World) (lo hi : Nat) (B1 B2 B3 : Nat) (p : List ByteArray) (f t : ByteArray) : Prop where
  b1 : lo ≤ B1 ∧ B1 < hi
  b2 : lo ≤ B2 ∧ B2 < hi
  b3 : lo ≤ B3 ∧ B3 < hi
  hs : hi ≤ w.heap.size
  c1 : w.cell? ⟨B1, 0, none⟩ = some (.int .i64 (many p f t : Nat))
  c2 : ∃ A c, w.cell? ⟨B2, 0, none⟩ = some (.slice A p.length c) ∧ RdS w A p ∧ (p = [] ∨ ∃ g, A = some ⟨g, 0, none⟩ ∧ lo ≤ g ∧ g < hi)
  c3 : w.cell? ⟨B3, 0, none⟩ = some (.string f) ∧ w.cell? ⟨B3, 1, none⟩ = some (.string t)
def itv (B1 B2 B3 : Nat) : Value := .func (.func 95) #[] #[.pointer (some ⟨B1, 0, none⟩), .pointer (some ⟨B2, 0, none⟩), .pointer (some ⟨B3, 0, none⟩)]
def AllPost (w : World) (p : List ByteArray) (f t : ByteArray) (e : Ending) (w' : World) : Prop := ∃ B1 B2 B3, e = .returned (itv B1 B2 B3) ∧ It w' w.heap.size w'.heap.size B1 B2 B3 p f t ∧ Below w.heap.size w w'
theorem rds_set {w : World} {A : Option Addr} {p : List ByteArray} {N j : Nat} {v : Value} (h : RdS w A p) (hne : p = [] ∨ ∃ g, A = some ⟨g, 0, none⟩ ∧ N < g) : RdS (w.setCell ⟨N, j, none⟩ v) A p := by
  rcases hne with hne | ⟨g, rfl, hg⟩
  · subst hne; exact .inl rfl
  · rcases h with h | ⟨b, off, e, hlt, hc⟩
    · exact .inl h
    · cases e
      exact .inr ⟨g, 0, rfl, by simpa using hlt, fun j' u hu => (World.cell?_setCell_other _ _ _ _ (by first | (simp; done) | (simp; omega))).trans (hc j' u hu)⟩
abbrev W3 (w : World) (A : Option Addr) (n c : Nat) (f t : ByteArray) : World := (((w.alloc (.cells #[.slice A n c] 23)).alloc (rgc f t)).alloc (.cells #[.int .i64 0] 3))
theorem all_end {w wo w2 : World} {A' : Option Addr} {c' n : Nat} {p : List ByteArray} {f t : ByteArray} (hl : p.length = n) (hb0 : Below w.heap.size w wo) (hsz : w.heap.size + 3 ≤ wo.heap.size)
    (c1 : wo.cell? ⟨w.heap.size + 1 + 1, 0, none⟩ = some (.int .i64 (many p f t : Nat))) (c2 : wo.cell? ⟨w.heap.size, 0, none⟩ = some (.slice A' n c') ∨ True) (z2 : ∃ v, wo.cell? ⟨w.heap.size, 0, none⟩ = some v) (c3 : wo.cell? ⟨w.heap.size + 1, 0, none⟩ = some (.string f) ∧ wo.cell? ⟨w.heap.size + 1, 1, none⟩ = some (.string t))
    (r1 : RdS w2 A' p) (r2 : p = [] ∨ ∃ g, A' = some ⟨g, 0, none⟩ ∧ wo.heap.size ≤ g) (hb : Below wo.heap.size wo w2) :
    AllPost w p f t (.returned (itv (w.heap.size + 1 + 1) w.heap.size (w.heap.size + 1))) (w2.setCell ⟨w.heap.size, 0, none⟩ (.slice A' n c')) := by
  have hs2 := hb.size
  refine ⟨_, _, _, rfl, ⟨⟨by omega, by simp; omega⟩, ⟨by omega, by simp; omega⟩, ⟨by omega, by simp; omega⟩, Nat.le_refl _, ?_, ⟨A', c', ?_, rds_set r1 ?_, ?_⟩, ?_, ?_⟩, ?_⟩
  · exact (World.cell?_setCell_other _ _ _ _ (by first | (simp; done) | (simp; omega))).trans (bel_later hb c1)
  · obtain ⟨v, hv⟩ := z2
    rw [hl]
    exact World.cell?_setCell_same _ _ _ (bel_later hb hv)
  · rcases r2 with h | ⟨g, h1, h2⟩
    · exact .inl h
    · exact .inr ⟨g, h1, by omega⟩
  · by_cases hp : p = []
    · exact .inl hp
    rcases r2 with h | ⟨g, h1, h2⟩
    · exact .inl h
    · right
      subst h1
      rcases r1 with h | ⟨b, off, e, hlt, _⟩
      · exact absurd (List.map_eq_nil_iff.1 h) hp
      · cases e
        exact ⟨g, rfl, by omega, by simpa using hlt⟩
  · exact (World.cell?_setCell_other _ _ _ _ (by simp)).trans (bel_later hb c3.1)
  · exact (World.cell?_setCell_other _ _ _ _ (by simp)).trans (bel_later hb c3.2)
  · exact (hb0.trans (hb.mono hb0.size)).setCell (p := ⟨w.heap.size, 0, none⟩) (Nat.le_refl _) _
set_option maxHeartbeats 1000000 in
theorem all_any (A : Option Addr) (p : List ByteArray) (n c : Nat) (f t : ByteArray) (w : World) (hl : p.length = n) (hn : n ≤ 1000) (hr : RdS w A p) :
    Calls Tryz.prog 77 #[.slice A n c, .agg #[.string f, .string t]] w (AllPost w p f t) := by
  have B0 : Hid (Below w.heap.size w (W3 w A n c f t)) := Lib.hid (by unfold W3; go_grown)
  have Q0 : Hid ((W3 w A n c f t).cell? ⟨w.heap.size, 0, none⟩ = some (.slice A n c)) := Lib.hid (by simp [W3, go_sem])
  have Q1 : Hid ((W3 w A n c f t).cell? ⟨w.heap.size + 1, 0, none⟩ = some (.string f) ∧ (W3 w A n c f t).cell? ⟨w.heap.size + 1, 1, none⟩ = some (.string t)) := Lib.hid (by simp [W3, go_sem])
  have Q3 : Hid ((W3 w A n c f t).cell? ⟨w.heap.size + 1 + 1, 0, none⟩ = some (.int .i64 0)) := Lib.hid (by simp [W3, go_sem])
  have F0 : Hid ((W3 w A n c f t).frozen? ⟨w.heap.size, 0, none⟩ = false ∧ (W3 w A n c f t).frozen? ⟨w.heap.size + 1 + 1, 0, none⟩ = false) := Lib.hid (by simp [W3, go_sem])
  have Z0 : Hid ((W3 w A n c f t).heap.size = w.heap.size + 3) := Lib.hid (by simp [W3])
  have O := Lib.hid (fun W (hb : Below w.heap.size w W) => own_any A n c p W hl (by omega) (Rd.later hr hb))
  have HL := Lib.hid hl
  have R := Lib.hid (fun W (hb : Below w.heap.size w W) => right_any A p n c f t W hl hn (Rd.later hr hb))
  have hn0 : (0 : Int) ≤ (n : Int) := by omega
  have hn9 : (n : Int) ≤ 1000 := by omega
  clear hr hl
  cases hv : rightB p f t
  · have HM : Hid (((many p f t : Nat) : Int) = 0) := Lib.hid (by unfold many; rw [hv]; rfl)
    rw [hv] at R
    clear hv
    go_enter Tryz.func77, Tryz.ntmps77
    go_wp2_with (first
      | (go_at_call 29; ((with_reducible refine (R.out _ B0.out).mono ?_); rintro e w1 ⟨rfl, b1⟩; have B1 := Lib.hid (B0.out.trans (b1.mono B0.out.size)); have C1 := Lib.hid b1; have q0 := bel_later b1 Q0.out; have z0 : w1.frozen? ⟨w.heap.size, 0, none⟩ = false := (bel_frozen b1 (by rw [Z0.out]; omega)).trans F0.out.1; clear b1))
      | (go_at_call 94; ((with_reducible refine (O.out _ B1.out).mono ?_); rintro e w2 ⟨A', c', rfl, r1, r2, b2⟩; have y0 := bel_later b2 q0; have y1 : w2.frozen? ⟨w.heap.size, 0, none⟩ = false := (bel_frozen b2 (World.block_lt_of_cell? w1 _ q0)).trans z0; have R1 := Lib.hid r1; have R2 := Lib.hid r2; have B2 := Lib.hid b2; clear r1 r2 b2))
      | fail)
    exact bodyPost_ret (v := itv (w.heap.size + 1 + 1) w.heap.size (w.heap.size + 1)) (by simp [results, Tryz.results77, go_sem, itv]) rfl (by
      rw [HL.out]
      refine all_end HL.out B1.out (by have := C1.out.size; rw [Z0.out] at this; omega) (by rw [HM.out]; exact bel_later C1.out Q3.out) (.inr trivial) ⟨_, q0⟩ ⟨bel_later C1.out Q1.out.1, bel_later C1.out Q1.out.2⟩ R1.out R2.out B2.out)
  · have HM : Hid (((many p f t : Nat) : Int) = (n : Int) + 1) := Lib.hid (by unfold many; rw [hv, if_pos rfl, HL.out]; omega)
    rw [hv] at R
    clear hv
    go_enter Tryz.func77, Tryz.ntmps77
    go_wp2_with (first
      | (go_at_call 29; ((with_reducible refine (R.out _ B0.out).mono ?_); rintro e w1 ⟨rfl, b1⟩; have B1 := Lib.hid (B0.out.trans (b1.mono B0.out.size)); have C1 := Lib.hid b1; have q0 := bel_later b1 Q0.out; have z0 : w1.frozen? ⟨w.heap.size, 0, none⟩ = false := (bel_frozen b1 (by rw [Z0.out]; omega)).trans F0.out.1; have q3 := bel_later b1 Q3.out; have z3 : w1.frozen? ⟨w.heap.size + 1 + 1, 0, none⟩ = false := (bel_frozen b1 (by rw [Z0.out]; omega)).trans F0.out.2; have B1s : Hid (Below w.heap.size w (w1.setCell ⟨w.heap.size + 1 + 1, 0, none⟩ (.int .i64 ((n : Int) + 1)))) := Lib.hid (B1.out.setCell (p := ⟨w.heap.size + 1 + 1, 0, none⟩) (by simp; omega) _); have q0' : (w1.setCell ⟨w.heap.size + 1 + 1, 0, none⟩ (.int .i64 ((n : Int) + 1))).cell? ⟨w.heap.size, 0, none⟩ = some (.slice A n c) := (World.cell?_setCell_other _ _ _ _ (by first | (simp; done) | (simp; omega))).trans q0; clear b1))
      | (go_at_call 94; ((with_reducible refine (O.out _ B1s.out).mono ?_); rintro e w2 ⟨A', c', rfl, r1, r2, b2⟩; have y0 := bel_later b2 q0'; have y1 : w2.frozen? ⟨w.heap.size, 0, none⟩ = false := (bel_frozen b2 (World.block_lt_of_cell? _ _ q0')).trans (by rw [World.frozen?_setCell]; exact z0); have R1 := Lib.hid r1; have R2 := Lib.hid r2; have B2 := Lib.hid b2; clear r1 r2 b2))
      | fail)
    exact bodyPost_ret (v := itv (w.heap.size + 1 + 1) w.heap.size (w.heap.size + 1)) (by simp [results, Tryz.results77, go_sem, itv]) rfl (by
      rw [HL.out]
      refine all_end HL.out B1s.out (by have := C1.out.size; rw [Z0.out] at this; simp; omega) (by rw [HM.out]; exact World.cell?_setCell_same _ _ _ q3) (.inr trivial) ⟨_, q0'⟩ ⟨(World.cell?_setCell_other _ _ _ _ (by simp)).trans (bel_later C1.out Q1.out.1), (World.cell?_setCell_other _ _ _ _ (by simp)).trans (bel_later C1.out Q1.out.2)⟩ R1.out R2.out B2.out)
end Go.Proofs.YtilnpeekajnlhaaGreat.Pv
namespace Go.Proofs.YtilnpeekajnlhaaGreat.Pv
open Go.RowKit Go.Shelf
attribute [local go_sem] Oper.semAt_some

/-- The blocks from lo to hi are kept. -/
def KpR (lo hi : Nat) (W W' : World) : Prop := W.heap.size ≤ W'.heap.size ∧ ∀ g, lo ≤ g → g < hi → W'.heap[g]? = W.heap[g]?
theorem KpR.refl (lo hi : Nat) (W : World) : KpR lo hi W W := ⟨Nat.le_refl _, fun _ _ _ => rfl⟩
theorem KpR.trans {lo hi : Nat} {A B C : World} (h : KpR lo hi A B) (k : KpR lo hi B C) : KpR lo hi A C := ⟨Nat.le_trans h.1 k.1, fun g a b => (k.2 g a b).trans (h.2 g a b)⟩
theorem KpR.of_below {lo hi : Nat} {W W' : World} (h : Below W.heap.size W W') (hh : hi ≤ W.heap.size) : KpR lo hi W W' := ⟨h.size, fun g a b => h.block g (by omega)⟩
theorem kp_cell {lo hi : Nat} {W W' : World} (h : KpR lo hi W W') {g o : Nat} {v : Value} (a : lo ≤ g) (b : g < hi) (hc : W.cell? ⟨g, o, none⟩ = some v) : W'.cell? ⟨g, o, none⟩ = some v := (World.cell?_of_block (h.2 g a b)).trans hc
theorem It.kp {w w' : World} {lo hi B1 B2 B3 : Nat} {p : List ByteArray} {f t : ByteArray} (h : It w lo hi B1 B2 B3 p f t) (k : KpR lo hi w w') : It w' lo hi B1 B2 B3 p f t := by
  obtain ⟨A, c, h1, h2, h3⟩ := h.c2
  refine ⟨h.b1, h.b2, h.b3, Nat.le_trans h.hs k.1, kp_cell k h.b1.1 h.b1.2 h.c1, ⟨A, c, kp_cell k h.b2.1 h.b2.2 h1, ?_, h3⟩, kp_cell k h.b3.1 h.b3.2 h.c3.1, kp_cell k h.b3.1 h.b3.2 h.c3.2⟩
  rcases h3 with h3 | ⟨g, rfl, g1, g2⟩
  · subst h3; exact .inl rfl
  · rcases h2 with h2 | ⟨b, off, e, hlt, hc⟩
    · exact .inl h2
    · cases e
      exact .inr ⟨g, 0, rfl, Nat.lt_of_lt_of_le hlt k.1, fun j u hj => kp_cell k g1 g2 (hc j u hj)⟩
theorem It.later {w w' : World} {lo hi B1 B2 B3 : Nat} {p : List ByteArray} {f t : ByteArray} (h : It w lo hi B1 B2 B3 p f t) (k : Below w.heap.size w w') : It w' lo hi B1 B2 B3 p f t := h.kp (.of_below k h.hs)
abbrev Part := Nat × ByteArray × ByteArray
def prtOf (p : List ByteArray) (f t : ByteArray) (i : Nat) : Part := (i, pF p f i, pT p t i)
def upto (p : List ByteArray) (f t : ByteArray) (k : Nat) : List Part := (List.range k).map (prtOf p f t)
theorem upto_length (p : List ByteArray) (f t : ByteArray) (k : Nat) : (upto p f t k).length = k := by simp [upto]
abbrev encs (x : Part) : Array Value := #[.int .i64 (x.1 : Int), .agg #[.string x.2.1, .string x.2.2]]
theorem many_le (p : List ByteArray) (f t : ByteArray) : many p f t ≤ p.length + 1 := by unfold many; split <;> omega

end Go.Proofs.YtilnpeekajnlhaaGreat.Pv
namespace Go.Proofs.YtilnpeekajnlhaaGreat.Pv
open Go.RowKit Go.Shelf
attribute [local go_sem] Oper.semAt_some

abbrev ends (pre : List Part) : List (ByteArray × ByteArray) := pre.map (·.2)
def parts (p : List ByteArray) (f t : ByteArray) : List (ByteArray × ByteArray) := (List.range (many p f t)).map fun i => (pF p f i, pT p t i)
theorem two_new (w : World) (a b : ByteArray) : ∀ j u, [Value.string a, .string b][j]? = some u → (w.alloc (rgc a b)).cell? ((⟨w.heap.size, 0, none⟩ : Addr).add j) = some u := by
  intro j u hj
  match j, hj with
  | 0, hj => simp at hj; subst hj; exact (rgcell (w := w) a b).1
  | 1, hj => simp at hj; subst hj; exact (rgcell (w := w) a b).2

theorem kpR_set {lo hi b : Nat} (W : World) (h : b < lo) (v : Value) : KpR lo hi W (W.setCell ⟨b, 0, none⟩ v) := by
  have hg := grownBy_setCell' W b v
  exact ⟨hg.size, fun g a c => (Below.heap_setCell W ⟨b, 0, none⟩ v g (by simp; omega))⟩
end Go.Proofs.YtilnpeekajnlhaaGreat.Pv
namespace Go.Proofs.YtilnpeekajnlhaaGreat.Pv
open Go.RowKit Go.Shelf
attribute [local go_sem] Oper.semAt_some

structure MtI (w : World) (lo hi : Nat) (a b : ByteArray) (s : Nat × Nat) (W : World) : Prop where
  first : Boxed W (w.heap.size + 1 + 1) 3 (.int .i64 (s.1 : Int))
  cnt : Boxed W (w.heap.size + 1 + 1 + 1) 3 (.int .i64 (s.2 : Int))
  box : W.heap[w.heap.size + 1]? = some (rgc a b)
  bel : Below w.heap.size w W
  hs : hi ≤ W.heap.size
theorem MtI.later {w W W' : World} {lo hi : Nat} {a b : ByteArray} {s : Nat × Nat} (h : MtI w lo hi a b s W) (hb : Below W.heap.size W W') : MtI w lo hi a b s W' :=
  ⟨(hb.block _ h.first.lt).trans h.first, (hb.block _ h.cnt.lt).trans h.cnt, (hb.block _ (Array.getElem?_eq_some_iff.1 h.box).1).trans h.box, h.bel.trans (hb.mono h.bel.size), Nat.le_trans h.hs hb.size⟩
/-- What a round keeps. -/
def Rnd (lo hi : Nat) (W W' : World) : Prop := KeepsFrom hi W W' ∧ KpR lo hi W W'
theorem Rnd.below {lo hi : Nat} {W W' : World} (hb : Below W.heap.size W W') (h : hi ≤ W.heap.size) : Rnd lo hi W W' :=
  ⟨(KeepsOthers.of_grownBy (bel_grown hb none) (fun j o e _ => by cases e)).from _, .of_below hb h⟩
theorem Rnd.set {lo hi k : Nat} {W W' : World} (h : Rnd lo hi W W') (hk : k < lo) (v : Value) : Rnd lo hi W (W'.setCell ⟨k, 0, none⟩ v) :=
  ⟨h.1.trans ((KeepsOthers.setCell _ _ _).from _), h.2.trans (kpR_set _ hk _)⟩
end Go.Proofs.YtilnpeekajnlhaaGreat.Pv
namespace Go.Proofs.YtilnpeekajnlhaaGreat.Pv
open Go.RowKit

end Go.Proofs.YtilnpeekajnlhaaGreat.Pv
namespace Go.Proofs.YtilnpeekajnlhaaGreat.Pv
open Go.RowKit

def spanB (p : List ByteArray) (f t : ByteArray) (i : Int) : Bool := decide (0 ≤ i) && (decide (i ≤ p.length) && rightB p f t)
def spanF (p : List ByteArray) (f t : ByteArray) (i : Int) : ByteArray × ByteArray := if spanB p f t i = true then (pF p f i.toNat, pT p t i.toNat) else (emptyS, emptyS)
abbrev spv (p : List ByteArray) (f t : ByteArray) (i : Int) : Value := .tuple #[.agg #[.string (spanF p f t i).1, .string (spanF p f t i).2], .bool (spanB p f t i)]
def SpanPost (w : World) (p : List ByteArray) (f t : ByteArray) (i : Int) (e : Ending) (w' : World) : Prop := e = .returned (spv p f t i) ∧ Below w.heap.size w w'
theorem span_no {p : List ByteArray} {f t : ByteArray} {i : Int} (h : spanB p f t i = false) : spv p f t i = .tuple #[.agg #[.string emptyS, .string emptyS], .bool false] := by unfold spv spanF; rw [h]; rfl
abbrev W2 (w : World) (f t : ByteArray) : World := (w.alloc (rgc f t)).alloc (rgc emptyS emptyS)
theorem set2_cells {W : World} {b : Nat} {u v : Value} (x y : Value) (z0 : W.cell? ⟨b, 0, none⟩ = some u) (z1 : W.cell? ⟨b, 1, none⟩ = some v) :
    ((W.setCell ⟨b, 0, none⟩ x).setCell ⟨b, 1, none⟩ y).cell? ⟨b, 0, none⟩ = some x ∧ ((W.setCell ⟨b, 0, none⟩ x).setCell ⟨b, 1, none⟩ y).cell? ⟨b, 1, none⟩ = some y :=
  ⟨(World.cell?_setCell_other _ _ _ _ (by simp)).trans (World.cell?_setCell_same _ _ _ z0), World.cell?_setCell_same _ _ _ ((World.cell?_setCell_other _ _ _ _ (by simp)).trans z1)⟩
theorem bel_set2 {B : Nat} {w W : World} {b : Nat} (h : Below B w W) (hb : B ≤ b) (x y : Value) : Below B w ((W.setCell ⟨b, 0, none⟩ x).setCell ⟨b, 1, none⟩ y) := (h.setCell (p := ⟨b, 0, none⟩) hb x).setCell (p := ⟨b, 1, none⟩) hb y
set_option maxHeartbeats 1000000 in
theorem span_any (A : Option Addr) (p : List ByteArray) (n c : Nat) (f t : ByteArray) (i : Int) (w : World) (hl : p.length = n) (hn : n ≤ 1000) (hr : RdS w A p) :
    Calls Tryz.prog 75 #[.slice A n c, .agg #[.string f, .string t], .int .i64 i] w (SpanPost w p f t i) := by
  have B0 : Hid (Below w.heap.size w (W2 w f t)) := Lib.hid (by unfold W2; go_grown)
  have hn0 : (0 : Int) ≤ (n : Int) := by omega
  have hn9 : (n : Int) ≤ 1000 := by omega
  have HL := Lib.hid hl
  have R := Lib.hid (fun W (hb : Below w.heap.size w W) => right_any A p n c f t W hl hn (Rd.later hr hb))
  have Q0 := (rgcell (w := w) f t)
  have q0 : (W2 w f t).cell? ⟨w.heap.size, 0, none⟩ = some (.string f) := bel_later (bel_alloc (Below.refl _ _) _) Q0.1
  have q1 : (W2 w f t).cell? ⟨w.heap.size, 1, none⟩ = some (.string t) := bel_later (bel_alloc (Below.refl _ _) _) Q0.2
  clear Q0
  by_cases h1 : i < 0
  · have e := span_no (p := p) (f := f) (t := t) (i := i) (by unfold spanB; rw [decide_eq_false (by omega)]; rfl)
    have E := Lib.hid e
    clear hr hl e
    go_enter Tryz.func75, Tryz.ntmps75
    go_wp2_with fail
    refine bodyPost_ret (v := .tuple #[.agg #[.string emptyS, .string emptyS], .bool false]) (by simp [results, Tryz.results75, go_sem]) rfl ⟨?_, ?_⟩
    · rw [E.out]
    · go_grown
  · by_cases h2 : (n : Int) < i
    · have e := span_no (p := p) (f := f) (t := t) (i := i) (by unfold spanB; rw [hl, decide_eq_false (p := i ≤ (n : Int)) (by omega)]; simp)
      have E := Lib.hid e
      clear hr hl e
      go_enter Tryz.func75, Tryz.ntmps75
      go_wp2_with fail
      refine bodyPost_ret (v := .tuple #[.agg #[.string emptyS, .string emptyS], .bool false]) (by simp [results, Tryz.results75, go_sem]) rfl ⟨?_, ?_⟩
      · rw [E.out]
      · go_grown
    · obtain ⟨k, rfl⟩ := Int.eq_ofNat_of_zero_le (by omega : 0 ≤ i)
      have hk0 : (0 : Int) ≤ (k : Int) := by omega
      have hk9 : (k : Int) ≤ 1000 := by omega
      have hb : spanB p f t (k : Int) = rightB p f t := by unfold spanB; rw [hl, decide_eq_true (p := (0 : Int) ≤ (k : Int)) (by omega), decide_eq_true (p := (k : Int) ≤ (n : Int)) (by omega)]; simp
      have PC := Lib.hid (fun W (hbb : Below w.heap.size w W) => piece_any A p n c k f t W hl hn (by omega) (Rd.later hr hbb))
      cases hv : rightB p f t
      · have E := Lib.hid (span_no (p := p) (f := f) (t := t) (i := (k : Int)) (by rw [hb, hv]))
        rw [hv] at R
        clear hr hl hv hb
        go_enter Tryz.func75, Tryz.ntmps75
        go_wp2_with (go_at_call 29; ((with_reducible refine (R.out _ B0.out).mono ?_); rintro e w1 ⟨rfl, b1⟩; have B1 := Lib.hid (B0.out.trans (b1.mono B0.out.size)); have z0 : ∃ u v, w1.cell? ⟨w.heap.size + 1, 0, none⟩ = some u ∧ w1.cell? ⟨w.heap.size + 1, 1, none⟩ = some v := ⟨.string emptyS, .string emptyS, bel_later b1 (by simp [W2, go_sem]), bel_later b1 (by simp [W2, go_sem])⟩; have y1 : w1.frozen? ⟨w.heap.size + 1, 0, none⟩ = false := (bel_frozen b1 (by simp)).trans (by simp [W2, go_sem]); have y2 : w1.frozen? ⟨w.heap.size + 1, 1, none⟩ = false := (bel_frozen b1 (by simp)).trans (by simp [W2, go_sem]); obtain ⟨u, v, z0, z1⟩ := z0; clear b1))
        obtain ⟨e0, e1⟩ := set2_cells (.string ⟨#[]⟩) (.string ⟨#[]⟩) z0 z1
        refine bodyPost_ret (v := .tuple #[.agg #[.string emptyS, .string emptyS], .bool false]) (by simp [results, Tryz.results75, go_sem, e0, e1]) rfl ⟨?_, bel_set2 B1.out (by omega) _ _⟩
        rw [E.out]
      · have E : Hid (spv p f t (k : Int) = .tuple #[.agg #[.string (pF p f k), .string (pT p t k)], .bool true]) := Lib.hid (by unfold spv spanF; rw [hb, hv]; rfl)
        rw [hv] at R
        clear hr hl hv hb
        obtain ⟨x, hx⟩ : ∃ x, x = pF p f k := ⟨_, rfl⟩
        obtain ⟨y, hy⟩ : ∃ y, y = pT p t k := ⟨_, rfl⟩
        rw [← hx, ← hy] at PC E
        clear hx hy
        go_enter Tryz.func75, Tryz.ntmps75
        go_wp2_with (first
          | (go_at_call 29; ((with_reducible refine (R.out _ B0.out).mono ?_); rintro e w1 ⟨rfl, b1⟩; have B1 := Lib.hid (B0.out.trans (b1.mono B0.out.size)); have q2 := bel_later b1 q0; have q3 := bel_later b1 q1; have z0 : ∃ u v, w1.cell? ⟨w.heap.size + 1, 0, none⟩ = some u ∧ w1.cell? ⟨w.heap.size + 1, 1, none⟩ = some v := ⟨.string emptyS, .string emptyS, bel_later b1 (by simp [W2, go_sem]), bel_later b1 (by simp [W2, go_sem])⟩; have y1 : w1.frozen? ⟨w.heap.size + 1, 0, none⟩ = false := (bel_frozen b1 (by simp)).trans (by simp [W2, go_sem]); have y2 : w1.frozen? ⟨w.heap.size + 1, 1, none⟩ = false := (bel_frozen b1 (by simp)).trans (by simp [W2, go_sem]); obtain ⟨u, v, z0, z1⟩ := z0; have hz1 := World.block_lt_of_cell? w1 _ z0; clear b1))
          | (go_at_call 93; ((with_reducible refine (PC.out _ B1.out).mono ?_); rintro e w2 ⟨rfl, b2⟩; have B2 := Lib.hid (B1.out.trans (b2.mono B1.out.size)); have z2 := bel_later b2 z0; have z3 := bel_later b2 z1; have y3 := (bel_frozen b2 hz1).trans y1; have y4 := (bel_frozen b2 hz1).trans y2; clear b2))
          | fail)
        obtain ⟨e0, e1⟩ := set2_cells (.string x) (.string y) z2 z3
        refine bodyPost_ret (v := .tuple #[.agg #[.string x, .string y], .bool true]) (by simp [results, Tryz.results75, go_sem, e0, e1]) rfl ⟨?_, bel_set2 B2.out (by omega) _ _⟩
        rw [E.out]
end Go.Proofs.YtilnpeekajnlhaaGreat.Pv
namespace Go.Proofs.YtilnpeekajnlhaaGreat
open Go.RowKit Go.Maps
def ES : RE ByteArray where
  st := 23
  et := 9
  k := 1
  by_ := 16
  z := .string ⟨#[]⟩
  cs := fun x => [.string x]
  kpos := by omega
  len := fun _ => rfl
  one := fun x u hu => by simp at hu; rcases hu with rfl; rfl
  und := Tryz.underlying23
  info := by kernel_rfl
  zk := rfl
  bmax := by omega
def EI : RE Int where
  st := 24
  et := 3
  k := 1
  by_ := 8
  z := .int .i64 0
  cs := fun x => [.int .i64 x]
  kpos := by omega
  len := fun _ => rfl
  one := fun x u hu => by simp at hu; rcases hu with rfl; rfl
  und := Tryz.underlying24
  info := by kernel_rfl
  zk := rfl
  bmax := by omega
def EB : RE Unit where
  st := 26
  et := 60
  k := 1
  by_ := 24
  z := .slice none 0 0
  cs := fun x => [.slice none 0 0]
  kpos := by omega
  len := fun _ => rfl
  one := fun x u hu => by simp at hu; rcases hu with rfl; rfl
  und := Tryz.underlying26
  info := by kernel_rfl
  zk := rfl
  bmax := by omega
theorem es_all (p : List ByteArray) : ES.all p = p.map Value.string := by
  induction p with
  | nil => rfl
  | cons x p ih => rw [RE.all_cons, ih]; rfl
theorem es_rd {w : World} {A : Option Addr} {p : List ByteArray} : ES.Rd w A p ↔ Pv.RdS w A p := by unfold RE.Rd; rw [es_all]
theorem rd_none {α : Type} {E : RE α} {w : World} {xs : List α} (h : E.Rd w none xs) : xs = [] := by
  rcases h with h | ⟨b, off, h, _⟩
  · exact E.all_empty h
  · cases h
theorem slnil23 (A : Option Addr) (m c : Nat) (W : World) : Sem.run Tryz.prog (Go.binOp BinOp.eql 23 (Value.slice A m c) (Value.slice none 0 0)) W = .ok (.bool A.isNone) W := by
  have h0 : ∀ d : Nat, (Op.equalIn (d + 1) 23 (Value.slice A m c) (Value.slice none 0 0)).run Tryz.prog W = .ok A.isNone W := fun d => by cases A <;> simp [Op.equalIn, run_underlying Tryz.underlying23]
  have h1 := h0 9999
  have e : Op.equal 23 (Value.slice A m c) (Value.slice none 0 0) = Op.equalIn (9999 + 1) 23 (Value.slice A m c) (Value.slice none 0 0) := rfl
  rw [← e] at h1
  simp [Go.binOp, go_sem, h1]
theorem slnil24 (A : Option Addr) (m c : Nat) (W : World) : Sem.run Tryz.prog (Go.binOp BinOp.eql 24 (Value.slice A m c) (Value.slice none 0 0)) W = .ok (.bool A.isNone) W := by
  have h0 : ∀ d : Nat, (Op.equalIn (d + 1) 24 (Value.slice A m c) (Value.slice none 0 0)).run Tryz.prog W = .ok A.isNone W := fun d => by cases A <;> simp [Op.equalIn, run_underlying Tryz.underlying24]
  have h1 := h0 9999
  have e : Op.equal 24 (Value.slice A m c) (Value.slice none 0 0) = Op.equalIn (9999 + 1) 24 (Value.slice A m c) (Value.slice none 0 0) := rfl
  rw [← e] at h1
  simp [Go.binOp, go_sem, h1]
theorem slnil25 (A : Option Addr) (m c : Nat) (W : World) : Sem.run Tryz.prog (Go.binOp BinOp.eql 25 (Value.slice A m c) (Value.slice none 0 0)) W = .ok (.bool A.isNone) W := by
  have h0 : ∀ d : Nat, (Op.equalIn (d + 1) 25 (Value.slice A m c) (Value.slice none 0 0)).run Tryz.prog W = .ok A.isNone W := fun d => by cases A <;> simp [Op.equalIn, run_underlying Tryz.underlying25]
  have h1 := h0 9999
  have e : Op.equal 25 (Value.slice A m c) (Value.slice none 0 0) = Op.equalIn (9999 + 1) 25 (Value.slice A m c) (Value.slice none 0 0) := rfl
  rw [← e] at h1
  simp [Go.binOp, go_sem, h1]
theorem slnil26 (A : Option Addr) (m c : Nat) (W : World) : Sem.run Tryz.prog (Go.binOp BinOp.eql 26 (Value.slice A m c) (Value.slice none 0 0)) W = .ok (.bool A.isNone) W := by
  have h0 : ∀ d : Nat, (Op.equalIn (d + 1) 26 (Value.slice A m c) (Value.slice none 0 0)).run Tryz.prog W = .ok A.isNone W := fun d => by cases A <;> simp [Op.equalIn, run_underlying Tryz.underlying26]
  have h1 := h0 9999
  have e : Op.equal 26 (Value.slice A m c) (Value.slice none 0 0) = Op.equalIn (9999 + 1) 26 (Value.slice A m c) (Value.slice none 0 0) := rfl
  rw [← e] at h1
  simp [Go.binOp, go_sem, h1]
set_option maxHeartbeats 2000000 in
theorem clone60 (A : Option Addr) (n c : Nat) (xs : List ByteArray) (w : World) (hl : xs.length = n) (hn : n ≤ 1000000) (hA : ES.Rd w A xs) :
    Calls Tryz.prog 48 #[.slice A n c] w fun e w' => ∃ A' c', e = .returned (.slice A' n c') ∧ ES.Row w' w.heap.size A' xs c' ∧ Below w.heap.size w w' := by
  cases A with
  | none =>
    have hx := rd_none hA
    subst hx
    simp at hl
    subst hl
    have hq := slnil23 none 0 c
    go_enter Tryz.func48, Tryz.ntmps48
    go_wp2
    go_ret
    exact ⟨none, 0, rfl, RE.Row.nil, Below.refl _ _⟩
  | some a =>
    have HA := Lib.hid hA
    have HL := Lib.hid hl
    have HB := Lib.hid (alb w (.cells #[] 9 (0, 0)))
    have hq := slnil23 (some a) n c
    have HR := Lib.hid ((RE.Row.nil : ES.Row (w.alloc (.cells #[] 9 (0, 0))) w.heap.size (some ⟨w.heap.size, 0, none⟩) [] 0))
    clear hA hl
    go_enter Tryz.func48, Tryz.ntmps48
    go_wp2_with (first
      | (at_builtin; refine RE.wpList_put ES _ rfl (.tmp 5) (.tmp 6) rfl (base := w.heap.size) (some ⟨w.heap.size, 0, none⟩) 0 0 [] (some a) n c xs rfl rfl HR.out rfl (by omega) HB.out.size HL.out (by omega) (HA.out.later HB.out) ?_; intro A2 k2 w2 r1 r2 r3; have R1 := Lib.hid r1; have BX := Lib.hid (HB.out.trans (RE.Row.below r2 HR.out (Nat.le_refl _) HB.out.size)); clear r1 r2 r3)
      | fail)
    go_ret
    exact ⟨A2, k2, by simp, R1.out, BX.out⟩
set_option maxHeartbeats 2000000 in
theorem clone61 (A : Option Addr) (n c : Nat) (xs : List Int) (w : World) (hl : xs.length = n) (hn : n ≤ 1000000) (hA : EI.Rd w A xs) :
    Calls Tryz.prog 49 #[.slice A n c] w fun e w' => ∃ A' c', e = .returned (.slice A' n c') ∧ EI.Row w' w.heap.size A' xs c' ∧ Below w.heap.size w w' := by
  cases A with
  | none =>
    have hx := rd_none hA
    subst hx
    simp at hl
    subst hl
    have hq := slnil24 none 0 c
    go_enter Tryz.func49, Tryz.ntmps49
    go_wp2
    go_ret
    exact ⟨none, 0, rfl, RE.Row.nil, Below.refl _ _⟩
  | some a =>
    have HA := Lib.hid hA
    have HL := Lib.hid hl
    have HB := Lib.hid (alb w (.cells #[] 3 (0, 0)))
    have hq := slnil24 (some a) n c
    have HR := Lib.hid ((RE.Row.nil : EI.Row (w.alloc (.cells #[] 3 (0, 0))) w.heap.size (some ⟨w.heap.size, 0, none⟩) [] 0))
    clear hA hl
    go_enter Tryz.func49, Tryz.ntmps49
    go_wp2_with (first
      | (at_builtin; refine RE.wpList_put EI _ rfl (.tmp 5) (.tmp 6) rfl (base := w.heap.size) (some ⟨w.heap.size, 0, none⟩) 0 0 [] (some a) n c xs rfl rfl HR.out rfl (by omega) HB.out.size HL.out (by omega) (HA.out.later HB.out) ?_; intro A2 k2 w2 r1 r2 r3; have R1 := Lib.hid r1; have BX := Lib.hid (HB.out.trans (RE.Row.below r2 HR.out (Nat.le_refl _) HB.out.size)); clear r1 r2 r3)
      | fail)
    go_ret
    exact ⟨A2, k2, by simp, R1.out, BX.out⟩
set_option maxHeartbeats 2000000 in
theorem clone62 (A : Option Addr) (n c : Nat) (xs : List MG) (w : World) (hl : xs.length = n) (hn : n ≤ 1000000) (hA : EG.Rd w A xs) :
    Calls Tryz.prog 50 #[.slice A n c] w fun e w' => ∃ A' c', e = .returned (.slice A' n c') ∧ EG.Row w' w.heap.size A' xs c' ∧ Below w.heap.size w w' := by
  cases A with
  | none =>
    have hx := rd_none hA
    subst hx
    simp at hl
    subst hl
    have hq := slnil25 none 0 c
    go_enter Tryz.func50, Tryz.ntmps50
    go_wp2
    go_ret
    exact ⟨none, 0, rfl, RE.Row.nil, Below.refl _ _⟩
  | some a =>
    have HA := Lib.hid hA
    have HL := Lib.hid hl
    have HB := Lib.hid (alb w (.cells #[] 50 (0, 0)))
    have hq := slnil25 (some a) n c
    have HR := Lib.hid ((RE.Row.nil : EG.Row (w.alloc (.cells #[] 50 (0, 0))) w.heap.size (some ⟨w.heap.size, 0, none⟩) [] 0))
    clear hA hl
    go_enter Tryz.func50, Tryz.ntmps50
    go_wp2_with (first
      | (at_builtin; refine RE.wpList_put EG _ rfl (.tmp 5) (.tmp 6) rfl (base := w.heap.size) (some ⟨w.heap.size, 0, none⟩) 0 0 [] (some a) n c xs rfl rfl HR.out rfl (by omega) HB.out.size HL.out (by omega) (HA.out.later HB.out) ?_; intro A2 k2 w2 r1 r2 r3; have R1 := Lib.hid r1; have BX := Lib.hid (HB.out.trans (RE.Row.below r2 HR.out (Nat.le_refl _) HB.out.size)); clear r1 r2 r3)
      | fail)
    go_ret
    exact ⟨A2, k2, by simp, R1.out, BX.out⟩
set_option maxHeartbeats 2000000 in
theorem clone63 (A : Option Addr) (n c : Nat) (xs : List Unit) (w : World) (hl : xs.length = n) (hn : n ≤ 1000000) (hA : EB.Rd w A xs) :
    Calls Tryz.prog 51 #[.slice A n c] w fun e w' => ∃ A' c', e = .returned (.slice A' n c') ∧ EB.Row w' w.heap.size A' xs c' ∧ Below w.heap.size w w' := by
  cases A with
  | none =>
    have hx := rd_none hA
    subst hx
    simp at hl
    subst hl
    have hq := slnil26 none 0 c
    go_enter Tryz.func51, Tryz.ntmps51
    go_wp2
    go_ret
    exact ⟨none, 0, rfl, RE.Row.nil, Below.refl _ _⟩
  | some a =>
    have HA := Lib.hid hA
    have HL := Lib.hid hl
    have HB := Lib.hid (alb w (.cells #[] 60 (0, 0)))
    have hq := slnil26 (some a) n c
    have HR := Lib.hid ((RE.Row.nil : EB.Row (w.alloc (.cells #[] 60 (0, 0))) w.heap.size (some ⟨w.heap.size, 0, none⟩) [] 0))
    clear hA hl
    go_enter Tryz.func51, Tryz.ntmps51
    go_wp2_with (first
      | (at_builtin; refine RE.wpList_put EB _ rfl (.tmp 5) (.tmp 6) rfl (base := w.heap.size) (some ⟨w.heap.size, 0, none⟩) 0 0 [] (some a) n c xs rfl rfl HR.out rfl (by omega) HB.out.size HL.out (by omega) (HA.out.later HB.out) ?_; intro A2 k2 w2 r1 r2 r3; have R1 := Lib.hid r1; have BX := Lib.hid (HB.out.trans (RE.Row.below r2 HR.out (Nat.le_refl _) HB.out.size)); clear r1 r2 r3)
      | fail)
    go_ret
    exact ⟨A2, k2, by simp, R1.out, BX.out⟩
end Go.Proofs.YtilnpeekajnlhaaGreat
