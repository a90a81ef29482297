/- Pivots: one more pivot: what becomes of the parts; texts appended. -/
import Derived.Test.YtngldfheneegcaaQ8
import Derived.ArgAppend
namespace Go.Proofs.Ytngldfheneegcaa
set_option linter.unusedSimpArgs false
open Go.RowKit
set_option linter.unusedVariables false

/-- One more pivot. -/
def ins (p : List ByteArray) (i : Nat) (s : ByteArray) : List ByteArray := p.take i ++ s :: p.drop i
theorem ins_length {p : List ByteArray} {i : Nat} (s : ByteArray) (hi : i ≤ p.length) : (ins p i s).length = p.length + 1 := by simp [ins]; omega
theorem at_ins_lt {p : List ByteArray} {i j : Nat} (s : ByteArray) (hi : i ≤ p.length) (h : j < i) : at_ (ins p i s) j = at_ p j := by
  unfold at_ ins
  rw [List.getD_eq_getElem?_getD, List.getD_eq_getElem?_getD, List.getElem?_append_left (by simp; omega), List.getElem?_take, if_pos h]
theorem at_ins_eq {p : List ByteArray} {i : Nat} (s : ByteArray) (hi : i ≤ p.length) : at_ (ins p i s) i = s := by
  unfold at_ ins
  rw [List.getD_eq_getElem?_getD, List.getElem?_append_right (by simp; omega)]
  have : i - (p.take i).length = 0 := by simp; omega
  rw [this]; rfl
theorem at_ins_gt {p : List ByteArray} {i j : Nat} (s : ByteArray) (hi : i ≤ p.length) (h : i < j) : at_ (ins p i s) j = at_ p (j - 1) := by
  unfold at_ ins
  rw [List.getD_eq_getElem?_getD, List.getD_eq_getElem?_getD, List.getElem?_append_right (by simp; omega)]
  have e : j - (p.take i).length = (j - 1 - i) + 1 := by simp; omega
  rw [e, List.getElem?_cons_succ, List.getElem?_drop, show i + (j - 1 - i) = j - 1 by omega]
theorem ins_part1 {p : List ByteArray} {i : Nat} (f t s : ByteArray) (hi : i ≤ p.length) : (pF (ins p i s) f i, pT (ins p i s) t i) = (pF p f i, s) := by
  have h2 : pT (ins p i s) t i = s := by unfold pT; rw [if_pos (by rw [ins_length s hi]; omega), at_ins_eq s hi]
  rw [h2]
  unfold pF
  split
  · rw [at_ins_lt s hi (by omega)]
  · rfl
theorem ins_part2 {p : List ByteArray} {i : Nat} (f t s : ByteArray) (hi : i ≤ p.length) : (pF (ins p i s) f (i + 1), pT (ins p i s) t (i + 1)) = (s, pT p t i) := by
  have h1 : pF (ins p i s) f (i + 1) = s := by unfold pF; rw [if_pos (by omega), show i + 1 - 1 = i by omega, at_ins_eq s hi]
  rw [h1]
  unfold pT
  rw [ins_length s hi]
  by_cases h : i < p.length
  · rw [if_pos (by omega), if_pos h, at_ins_gt s hi (by omega), show i + 1 - 1 = i by omega]
  · rw [if_neg (by omega), if_neg h]
theorem ins_before {p : List ByteArray} {i : Nat} (f t s : ByteArray) (hi : i ≤ p.length) : (pcs (ins p i s) f t (p.length + 2)).take i = (pcs p f t (p.length + 1)).take i := by
  refine List.ext_getElem? fun j => ?_
  rw [List.getElem?_take, List.getElem?_take]
  by_cases h : j < i
  · rw [if_pos h, if_pos h, pcs_get _ _ _ (by omega), pcs_get _ _ _ (by omega)]
    have h1 : pF (ins p i s) f j = pF p f j := by
      unfold pF
      split
      · rw [at_ins_lt s hi (by omega)]
      · rfl
    have h2 : pT (ins p i s) t j = pT p t j := by
      unfold pT
      rw [ins_length s hi, if_pos (by omega), if_pos (by omega), at_ins_lt s hi h]
    rw [h1, h2]
  · rw [if_neg h, if_neg h]
theorem ins_behind {p : List ByteArray} {i : Nat} (f t s : ByteArray) (hi : i ≤ p.length) : (pcs (ins p i s) f t (p.length + 2)).drop (i + 2) = (pcs p f t (p.length + 1)).drop (i + 1) := by
  refine List.ext_getElem? fun j => ?_
  rw [List.getElem?_drop, List.getElem?_drop]
  by_cases h : i + 1 + j < p.length + 1
  · rw [pcs_get _ _ _ (by omega), pcs_get _ _ _ h]
    have h1 : pF (ins p i s) f (i + 2 + j) = pF p f (i + 1 + j) := by
      unfold pF
      rw [if_pos (by omega), if_pos (by omega), at_ins_gt s hi (by omega), show i + 2 + j - 1 - 1 = i + 1 + j - 1 by omega]
    have h2 : pT (ins p i s) t (i + 2 + j) = pT p t (i + 1 + j) := by
      unfold pT
      rw [ins_length s hi]
      by_cases h3 : i + 1 + j < p.length
      · rw [if_pos (by omega), if_pos h3, at_ins_gt s hi (by omega), show i + 2 + j - 1 = i + 1 + j by omega]
      · rw [if_neg (by omega), if_neg h3]
    rw [h1, h2]
  · rw [List.getElem?_eq_none (by rw [pcs_length]; omega), List.getElem?_eq_none (by rw [pcs_length]; omega)]
theorem ins_drop {p : List ByteArray} {i : Nat} (s : ByteArray) (hi : i ≤ p.length) : (ins p i s).take i ++ (ins p i s).drop (i + 1) = p := by
  have h1 : (ins p i s).take i = p.take i := by unfold ins; rw [List.take_append_of_le_length (by simp; omega), List.take_take, Nat.min_self]
  have h2 : (ins p i s).drop (i + 1) = p.drop i := by
    unfold ins
    have e : i + 1 = (p.take i).length + 1 := by simp; omega
    rw [e, List.drop_append]
    simp
  rw [h1, h2, List.take_append_drop]
/-- Where one more pivot parts the range still, it lies within the part that it parts. -/
theorem ins_split {p : List ByteArray} {f t s : ByteArray} {i : Nat} (hi : i ≤ p.length) (h : rightB (ins p i s) f t = true) : lt (pF p f i) s = true ∧ sb s (pT p t i) = true ∧ sb (pF p f i) (pT p t i) = true := by
  unfold rightB at h
  simp only [Bool.and_eq_true] at h
  obtain ⟨hin, _, hr⟩ := h
  have hin' := in_iff.1 hin
  have hL := ins_length s hi
  have R : ∀ a b, a < b → b < (ins p i s).length → lt (at_ (ins p i s) a) (at_ (ins p i s) b) = true := fun a b h1 h2 => rise_all hr a b h1 h2
  have h1 : lt (pF p f i) s = true := by
    unfold pF
    split
    · have := R (i - 1) i (by omega) (by omega); rw [at_ins_lt s hi (by omega), at_ins_eq s hi] at this; exact this
    · have := (hin' i (by omega)).1; rw [at_ins_eq s hi] at this; exact this
  have h2 : sb s (pT p t i) = true := by
    unfold pT
    split
    · have := R i (i + 1) (by omega) (by omega); rw [at_ins_eq s hi, at_ins_gt s hi (by omega), show i + 1 - 1 = i by omega] at this; unfold sb; rw [this]; simp
    · rcases (hin' i (by omega)).2 with h3 | h3
      · unfold sb; rw [h3]; rfl
      · rw [at_ins_eq s hi] at h3; unfold sb; rw [h3]; simp
  refine ⟨h1, h2, ?_⟩
  unfold sb at h2 ⊢
  rw [Bool.or_eq_true] at h2 ⊢
  rcases h2 with h3 | h3
  · exact .inl h3
  · exact .inr (lt_trans h1 h3)
theorem one_strs (l : List ByteArray) : ∀ u ∈ l.map Value.string, u.oneCell' = true := by intro u hu; obtain ⟨x, _, rfl⟩ := List.mem_map.1 hu; rfl
/-- Texts are appended to an owned row. -/
theorem putS_any {w : World} {base n : Nat} {v : Value} {xs : List Value} (h : w.ownsRow base 9 1 v n xs) (hn : n ≤ 1000000) (hb : base ≤ w.heap.size) (A : Option Addr) (m c : Nat) (l : List ByteArray) (hl : l.length = m) (hm : m ≤ 1000000) (hr : RdS w A l) (ty : TypeId) :
    ∃ v' w', (Builtin.append_ #[22, 22] ty #[v, .slice A m c]).run Try.prog w = .ok v' w' ∧ w'.ownsRow base 9 1 v' (n + m) (xs ++ l.map Value.string) ∧ w.grownBy w' v.ownBlock := by
  obtain ⟨i0, hI0, hI1, hI2, hI3⟩ := info_parts info9
  cases A with
  | none =>
    have h0 : l = [] := by
      rcases hr with h | ⟨b, off, e, _⟩
      · exact List.map_eq_nil_iff.1 h
      · cases e
    subst h0
    subst hl
    refine ⟨v, w, ?_, by simpa using h, ⟨rfl, rfl, rfl, Nat.le_refl _, fun _ _ _ => rfl⟩⟩
    rcases h.2 with ⟨rfl, h0⟩ | ⟨g, cap, cur, rfl, _, _, hcap, _⟩
    · simp [Builtin.append_, run_underlying Try.underlying22, sizeOf, typeInfo, hI0, Builtin.lenOf, Builtin.firstCells]
    · simp [Builtin.append_, run_underlying Try.underlying22, sizeOf, typeInfo, hI0, Builtin.lenOf, Builtin.firstCells, hcap, storeCells]
  | some a =>
    have hnews : ∀ j u, (l.map Value.string)[j]? = some u → w.cell? (a.add j) = some u := by
      rcases hr with h | ⟨b, off, e, hlt, hc⟩
      · intro j u hu; rw [h] at hu; simp at hu
      · cases e; exact rds_news (.inr ⟨b, off, rfl, hlt, hc⟩)
    obtain ⟨v', w', hr', h2, h3, _, h5⟩ := run_append_own_at (P := Try.prog) w base 22 ty 9 i0 (.string ⟨#[]⟩) 1 16 Try.underlying22 hI0 hI1 hI2 hI3 rfl (by decide) v n xs h a m c (l.map Value.string) (by rw [List.length_map, hl, Nat.mul_one]) hnews (one_strs _) (by unfold maxLen; omega) (by omega) hb
    exact ⟨v', w', hr', h2, h3⟩
theorem step_putS (w : World) {ops : Array Oper} {o : Oper} {a : Act} {K : Act → World → Prop} {Q : Exit → Act → World → Prop} {E : Prop} (hg : o.guard = none) (s x : Operand)
    (hop : o.op = Op.call { callee := Callee.builtin Builtin.append, args := #[s, x], argTypes := #[22, 22] }) {base n : Nat} {v : Value} {xs : List Value} (A : Option Addr) (m c : Nat) (l : List ByteArray) (hs : a.eval s = v) (hx : a.eval x = .slice A m c)
    (h : w.ownsRow base 9 1 v n xs) (hn : n ≤ 1000000) (hb : base ≤ w.heap.size) (hl : l.length = m) (hm : m ≤ 1000000) (hr : RdS w A l)
    (hK : ∀ v' w', w'.ownsRow base 9 1 v' (n + m) (xs ++ l.map Value.string) → w.grownBy w' v.ownBlock → K (a.put o.dst v') w') :
    if Region.wanted o (yielded ops a.tmps) = true then Oper.wp Try.prog o a w K Q else E := by
  have hw : Region.wanted o (yielded ops a.tmps) = true := by simp [Region.wanted, hg]
  rw [if_pos hw]
  obtain ⟨v', w', hrun, r1, r2⟩ := putS_any h hn hb A m c l hl hm hr o.type
  unfold Oper.wp
  simp [execOp, hop, resolve, invoke, builtin, hs, hx, hrun, Result.andThen]
  exact hK v' w' r1 r2
/-- A text is appended to a full row that is not owned: the row is new. -/
theorem fullS_any {w : World} (A : Option Addr) (i : Nat) (l : List ByteArray) (hl : l.length = i) (hi : i ≤ 1000000) (hA : A = none → i = 0) (hr : RdS w A l) (a : Addr) (s : ByteArray) (hs : w.cell? (a.add 0) = some (.string s)) (ty : TypeId) :
    ∃ v' w', (Builtin.append_ #[22, 22] ty #[.slice A i i, .slice (some a) 1 1]).run Try.prog w = .ok v' w' ∧ w'.ownsRow w.heap.size 9 1 v' (i + 1) (l.map Value.string ++ [.string s]) ∧ w.grownBy w' none := by
  obtain ⟨i0, hI0, hI1, hI2, hI3⟩ := info_parts info9
  have hnews : ∀ j u, [Value.string s][j]? = some u → w.cell? (a.add j) = some u := by
    intro j u hu
    match j, hu with
    | 0, hu => simp at hu; subst hu; exact hs
  cases A with
  | none =>
    obtain rfl : i = 0 := hA rfl
    obtain rfl : l = [] := List.eq_nil_of_length_eq_zero hl
    obtain ⟨v', w', hrun, r1, r2, _⟩ := run_append_own (P := Try.prog) w w.heap.size 22 ty 9 i0 (.string ⟨#[]⟩) 1 16 Try.underlying22 hI0 hI1 hI2 hI3 rfl (by decide) (.slice none 0 0) 0 [] (World.ownsRow_nil w _ 9 1) a 1 1 [.string s] rfl hnews (by simp [Value.oneCell']) (by decide) (by decide) (Nat.le_refl _)
    exact ⟨v', w', hrun, r1, r2⟩
  | some b =>
    have holds : ∀ j u, (l.map Value.string)[j]? = some u → w.cell? (b.add j) = some u := by
      rcases hr with h | ⟨b', off, e, hlt, hc⟩
      · intro j u hu; rw [h] at hu; simp at hu
      · cases e; exact rds_news (.inr ⟨b', off, rfl, hlt, hc⟩)
    obtain ⟨v', w', hrun, r1, r2⟩ := run_append_arg_grows (P := Try.prog) w 22 ty 9 i0 (.string ⟨#[]⟩) 1 16 Try.underlying22 hI0 hI1 hI2 hI3 rfl (by decide) b i i (l.map Value.string) (by simp [hl]) holds a 1 1 [.string s] rfl hnews (by omega) (by unfold maxLen; omega) (by omega)
    exact ⟨v', w', hrun, r1, r2⟩
theorem step_fullS (w : World) {ops : Array Oper} {o : Oper} {a : Act} {K : Act → World → Prop} {Q : Exit → Act → World → Prop} {E : Prop} (hg : o.guard = none) (sl x : Operand)
    (hop : o.op = Op.call { callee := Callee.builtin Builtin.append, args := #[sl, x], argTypes := #[22, 22] }) (A : Option Addr) (i : Nat) (l : List ByteArray) (ad : Addr) (s : ByteArray) (hs : a.eval sl = .slice A i i) (hx : a.eval x = .slice (some ad) 1 1)
    (hl : l.length = i) (hi : i ≤ 1000000) (hA : A = none → i = 0) (hr : RdS w A l) (hc : w.cell? (ad.add 0) = some (.string s))
    (hK : ∀ v' w', w'.ownsRow w.heap.size 9 1 v' (i + 1) (l.map Value.string ++ [.string s]) → w.grownBy w' none → K (a.put o.dst v') w') :
    if Region.wanted o (yielded ops a.tmps) = true then Oper.wp Try.prog o a w K Q else E := by
  have hw : Region.wanted o (yielded ops a.tmps) = true := by simp [Region.wanted, hg]
  rw [if_pos hw]
  obtain ⟨v', w', hrun, r1, r2⟩ := fullS_any A i l hl hi hA hr ad s hc o.type
  unfold Oper.wp
  simp [execOp, hop, resolve, invoke, builtin, hs, hx, hrun, Result.andThen]
  exact hK v' w' r1 r2
end Go.Proofs.Ytngldfheneegcaa
