/- What is printed is parsed as it was: texts. -/
import Derived.Test.YtocbabckihcdmaaDoorT8
import Derived.Lib.SplitLaws
import Derived.Lib.AtoiAllCases
import Derived.Lib.ItoaMem
import Derived.WideShapes
namespace Go.Proofs.YtocbabckihcdmaaDoor
set_option linter.unusedSimpArgs false
open Go.RowKit Go.Maps
set_option linter.unusedVariables false
theorem ix_app (c : UInt8) : ∀ (a b : List UInt8), c ∉ a → Lib.index (a ++ c :: b) [c] = a.length
  | [], b, _ => by simp [Lib.index]
  | x :: a, b, h => by
    have h1 : ¬ c = x := fun e => h (by simp [e])
    have h2 : c ∉ a := fun e => h (by simp [e])
    show Lib.index (x :: (a ++ c :: b)) [c] = _
    have e1 : ([c] : List UInt8).isPrefixOf (x :: (a ++ c :: b)) = false := by simp [List.isPrefixOf, h1]
    have e2 := ix_app c a b h2
    have e3 : ((a.length : Int) == -1) = false := by simp
    unfold Lib.index
    rw [e1, e2, e3]
    simp
theorem ix_none (c : UInt8) : ∀ (a : List UInt8), c ∉ a → Lib.index a [c] = -1
  | [], _ => by simp [Lib.index]
  | x :: a, h => by
    have h1 : ¬ c = x := fun e => h (by simp [e])
    have h2 : c ∉ a := fun e => h (by simp [e])
    have e1 : ([c] : List UInt8).isPrefixOf (x :: a) = false := by simp [List.isPrefixOf, h1]
    unfold Lib.index
    rw [e1, ix_none c a h2]
    simp
theorem cut_app (c : UInt8) (a b : List UInt8) (h : c ∉ a) : Lib.cut (a ++ c :: b) [c] = (a, b, true) := by
  unfold Lib.cut
  rw [ix_app c a b h, if_pos (by omega)]
  simp [List.drop_append]
theorem join_two (p q : List UInt8) (qs : List (List UInt8)) (c : UInt8) : Lib.join (p :: q :: qs) [c] = p ++ c :: Lib.join (q :: qs) [c] := by
  simp [Lib.join, List.intercalate, List.intersperse]
theorem splitK_join (c : UInt8) : ∀ (ps : List (List UInt8)) (p : List UInt8), (∀ x ∈ p :: ps, c ∉ x) → Lib.splitK [c] 0 ps.length (Lib.join (p :: ps) [c]) = p :: ps
  | [], p, _ => by rw [Lib.join_one]; rfl
  | q :: qs, p, h => by
    have h1 : c ∉ p := h p (by simp)
    have h2 := splitK_join c qs q (fun x hx => h x (by simp at hx ⊢; right; exact hx))
    rw [join_two]
    show Lib.splitK [c] 0 (qs.length + 1) _ = _
    have e3 : ((p.length : Int) == -1) = false := by simp
    unfold Lib.splitK
    rw [ix_app c p _ h1, e3]
    simp only [Bool.false_eq_true, if_false, Int.toNat_natCast, Nat.add_zero, List.length_singleton]
    rw [List.take_left' rfl]
    have e4 : (p ++ c :: Lib.join (q :: qs) [c]).drop (p.length + 1) = Lib.join (q :: qs) [c] := by
      rw [List.drop_append]; simp
    rw [e4, h2]
theorem count_join (c : UInt8) : ∀ (ps : List (List UInt8)) (p : List UInt8), (∀ x ∈ p :: ps, c ∉ x) → (Lib.join (p :: ps) [c]).count c = ps.length
  | [], p, h => by rw [Lib.join_one]; exact List.count_eq_zero.2 (h p (by simp))
  | q :: qs, p, h => by
    have h1 : c ∉ p := h p (by simp)
    have h2 := count_join c qs q (fun x hx => h x (by simp at hx ⊢; right; exact hx))
    rw [join_two, List.count_append, List.count_eq_zero.2 h1, List.count_cons_self, h2]
    simp
/-- Digits. -/
theorem dd_digit : ∀ (u : Nat), ∀ c ∈ Lib.decDigits u, 48 ≤ c.toNat ∧ c.toNat ≤ 57 := by
  intro u
  induction u using Nat.strongRecOn with
  | _ u ih =>
    intro c hc
    rw [Lib.decDigits] at hc
    split at hc
    · rename_i h
      rw [List.mem_singleton] at hc; subst hc
      rw [UInt8.toNat_ofNat']; omega
    · rename_i h
      rcases List.mem_append.1 hc with hc | hc
      · exact ih (u / 10) (by omega) c hc
      · rw [List.mem_singleton] at hc; subst hc
        rw [UInt8.toNat_ofNat']; omega
theorem dd_ne (u : Nat) : Lib.decDigits u ≠ [] := by
  rw [Lib.decDigits]; split <;> simp
theorem dd_parse : ∀ (u : Nat), u < 9223372036854775808 → ∀ r, Lib.parseUint10 0 (Lib.decDigits u ++ r) = Lib.parseUint10 u r := by
  intro u
  induction u using Nat.strongRecOn with
  | _ u ih =>
    intro hu r
    rw [Lib.decDigits]
    split
    · rename_i h
      have e : (UInt8.ofNat (48 + u)).toNat = 48 + u := by rw [UInt8.toNat_ofNat']; omega
      show Lib.parseUint10 0 (UInt8.ofNat (48 + u) :: r) = _
      rw [Lib.parseUint10, e, if_pos (by omega), if_neg (by omega), if_neg (by omega)]
      congr 1; omega
    · rename_i h
      have e : (UInt8.ofNat (48 + u % 10)).toNat = 48 + u % 10 := by rw [UInt8.toNat_ofNat']; omega
      rw [List.append_assoc, ih (u / 10) (by omega) (by omega)]
      show Lib.parseUint10 (u / 10) (UInt8.ofNat (48 + u % 10) :: r) = _
      rw [Lib.parseUint10, e, if_pos (by omega), if_neg (by omega), if_neg (by omega)]
      congr 1; omega
theorem dd_atoi (u : Nat) (hu : u < 9223372036854775808) : Lib.atoiAll (Lib.decDigits u) = .ok (u : Int) := by
  cases e : Lib.decDigits u with
  | nil => exact absurd e (dd_ne u)
  | cons c r =>
    have hd := dd_digit u c (by rw [e]; simp)
    rw [Lib.atoiAll_plain c r (by omega) (by omega)]
    have hp : Lib.parseMag (c :: r) = .ok u := by
      unfold Lib.parseMag
      rw [if_neg (by simp), ← e]
      have := dd_parse u hu []
      rw [List.append_nil] at this
      rw [this]; rfl
    rw [hp]
    unfold Lib.signless
    simp only
    rw [if_neg (by omega)]
theorem itoa_dd {v : Int} (h : 0 ≤ v) : Lib.itoa v = Lib.decDigits v.toNat := by unfold Lib.itoa; rw [if_neg (by omega)]
theorem itoa_no {v : Int} (h : 0 ≤ v) (c : UInt8) (hc : c.toNat < 48) : c ∉ Lib.itoa v := by
  rw [itoa_dd h]
  intro hm
  have := dd_digit _ c hm
  omega
theorem can_itoa {v : Int} (h0 : 0 ≤ v) (h1 : v ≤ 1099511627776) : canB ⟨(Lib.itoa v).toArray⟩ = some v := by
  unfold canB
  have e : (⟨(Lib.itoa v).toArray⟩ : ByteArray).data.toList = Lib.itoa v := by simp
  rw [e]
  have g : Lib.atoiAll (Lib.itoa v) = .ok v := by
    rw [itoa_dd h0, dd_atoi _ (by omega)]
    congr 1; omega
  rw [g]
  simp
theorem word_ix : ∀ j, j < 17 → ixW (wordF ((j : Nat) : Int)) = (j : Int) ∧ (32 : UInt8) ∉ (wordF ((j : Nat) : Int)).data.toList ∧ (10 : UInt8) ∉ (wordF ((j : Nat) : Int)).data.toList := by
  decide +kernel
structure Told (x : MV) : Prop where
  s0 : 0 ≤ x.s
  s1 : x.s ≤ 2147483647
  w1 : x.w < 17
  n0 : 0 ≤ x.n
  n1 : x.n ≤ 2147483647
  v0 : 0 ≤ x.v
  v1 : x.v ≤ 1099511627776
  e0 : 0 ≤ x.e
  e1 : x.e ≤ 2147483647
theorem told_of {x : MV} (h : toldB x = true) : Told x := by
  unfold toldB numB wokB at h
  simp only [Bool.and_eq_true, decide_eq_true_eq] at h
  exact ⟨h.1.1, h.1.2, h.2.1, h.2.2.1.1, h.2.2.1.2, h.2.2.2.1.1, h.2.2.2.1.2, h.2.2.2.2.1, h.2.2.2.2.2⟩
theorem parts_no {x : MV} (h : Told x) (hw : 0 ≤ x.w) (c : UInt8) (hc : c = 32 ∨ c = 10) : ∀ y ∈ (partsL x).map (·.data.toList), c ∉ y := by
  have hc4 : c.toNat < 48 := by rcases hc with rfl | rfl <;> decide
  obtain ⟨k, hk⟩ : ∃ k : Nat, x.w = k := ⟨x.w.toNat, by omega⟩
  have hw1 := h.w1
  have hwi := word_ix k (by omega)
  intro y hy
  unfold partsL at hy
  simp only [List.map_cons, List.map_nil, List.mem_cons, List.not_mem_nil, or_false] at hy
  rcases hy with rfl | rfl | rfl | rfl | rfl
  · exact itoa_no h.s0 c hc4
  · rw [hk]; rcases hc with rfl | rfl
    · exact hwi.2.1
    · exact hwi.2.2
  · exact itoa_no h.n0 c hc4
  · exact itoa_no h.v0 c hc4
  · exact itoa_no h.e0 c hc4
theorem split_line {x : MV} (h : Told x) (hw : 0 ≤ x.w) : splitW ⟨(bodyL x).toArray⟩ = partsL x := by
  have hn := parts_no h hw 32 (.inl rfl)
  have eb : (⟨(bodyL x).toArray⟩ : ByteArray).data.toList = bodyL x := by simp
  have es : SP.data.toList = [32] := rfl
  obtain ⟨p, ps, hp⟩ : ∃ p ps, (partsL x).map (·.data.toList) = p :: ps := ⟨_, _, rfl⟩
  have hl : ps.length = 4 := by
    have := congrArg List.length hp
    simp [partsL] at this; omega
  have hb : bodyL x = Lib.join (p :: ps) [32] := by unfold bodyL; rw [hp, es]
  rw [hp] at hn
  have hct : Lib.countB ⟨(bodyL x).toArray⟩ SP = ps.length := by
    show Lib.count _ _ = _
    rw [eb, es, Lib.count_one, hb, count_join 32 ps p hn]
  have hd : (splitW ⟨(bodyL x).toArray⟩).map (·.data.toList) = (partsL x).map (·.data.toList) := by
    unfold splitW
    rw [Lib.splitB_data, hct, es, eb, hb, splitK_join 32 ps p hn, hp]
  exact (List.map_inj_right (fun a b e => Go.WideShapes.bytes_inj e)).1 hd
theorem move_line {x : MV} (h : toldB x = true) (hw : 0 ≤ x.w) : moveF (partsL x) = some x := by
  have T := told_of h
  obtain ⟨k, hk⟩ : ∃ k : Nat, x.w = k := ⟨x.w.toNat, by omega⟩
  have hw1 := T.w1
  have hwi := (word_ix k (by omega)).1
  rw [← hk] at hwi
  have c0 : canB (wdA (partsL x) 0) = some x.s := can_itoa T.s0 (by have := T.s1; omega)
  have c1 : ixW (wdA (partsL x) 1) = x.w := hwi
  have c2 : canB (wdA (partsL x) 2) = some x.n := can_itoa T.n0 (by have := T.n1; omega)
  have c3 : canB (wdA (partsL x) 3) = some x.v := can_itoa T.v0 T.v1
  have c4 : canB (wdA (partsL x) 4) = some x.e := can_itoa T.e0 (by have := T.e1; omega)
  have hm : moveM (partsL x) = x := by
    unfold moveM
    rw [c0, c1, c2, c3, c4]
    have : max x.w 0 = x.w := by omega
    rw [this]; rfl
  have ho : okK (partsL x) 5 = true := by
    simp [okK, c0, c1, c2, c3, c4, hw]
  unfold moveF
  rw [if_pos ⟨rfl, ho, by rw [hm]; exact h⟩, hm]
theorem toList_ba (l : List UInt8) : (⟨l.toArray⟩ : ByteArray).toList.isEmpty = l.isEmpty := by
  cases l with
  | nil => decide +kernel
  | cons c r =>
    cases e : (⟨(c :: r).toArray⟩ : ByteArray).toList.isEmpty with
    | false => rfl
    | true =>
      exfalso
      unfold ByteArray.toList at e
      rw [ByteArray.toList.loop] at e
      rw [if_pos (by rw [ba_size]; simp)] at e
      have keep : ∀ (f : Nat) (b : ByteArray) (i : Nat) (acc : List UInt8), b.size - i = f → acc ≠ [] → (ByteArray.toList.loop b i acc).isEmpty = false := by
        intro f
        induction f with
        | zero => intro b i acc h1 h2; rw [ByteArray.toList.loop, if_neg (by omega)]; simpa using h2
        | succ f ih => intro b i acc h1 h2; rw [ByteArray.toList.loop, if_pos (by omega)]; exact ih b (i + 1) _ (by omega) (by simp)
      rw [keep _ _ _ _ rfl (by simp)] at e
      cases e
/-- ████ What lines are, is what was printed. -/
theorem parse_text : ∀ (xs : List MV) (f : Nat) (ln : Int) (acc : List MV), (∀ x ∈ xs, toldB x = true ∧ 0 ≤ x.w) → xs.length < f → parseG f ⟨(textL xs).toArray⟩ ln acc = (acc ++ xs, 0, 0)
  | [], f + 1, ln, acc, _, _ => by
    unfold parseG
    rw [toList_ba]
    simp [textL]
  | x :: xs, f + 1, ln, acc, h, hf => by
    have hx := h x (by simp)
    have T := told_of hx.1
    have et : textL (x :: xs) = bodyL x ++ (10 :: textL xs) := by simp [textL, lineL]
    have ed : (⟨(textL (x :: xs)).toArray⟩ : ByteArray).data.toList = bodyL x ++ (10 :: textL xs) := by rw [et]
    have es : NL.data.toList = [10] := rfl
    have hn := parts_no T hx.2 10 (.inr rfl)
    have hb : (10 : UInt8) ∉ bodyL x := by
      unfold bodyL
      obtain ⟨p, ps, hp⟩ : ∃ p ps, (partsL x).map (·.data.toList) = p :: ps := ⟨_, _, rfl⟩
      rw [hp] at hn ⊢
      have gen : ∀ (ps : List (List UInt8)) (p : List UInt8), (∀ y ∈ p :: ps, (10 : UInt8) ∉ y) → (10 : UInt8) ∉ Lib.join (p :: ps) [32] := by
        intro ps
        induction ps with
        | nil => intro p h; rw [Lib.join_one]; exact h p (by simp)
        | cons q qs ih =>
          intro p h
          rw [join_two]
          intro hm
          rcases List.mem_append.1 hm with hm | hm
          · exact h p (by simp) hm
          · rcases List.mem_cons.1 hm with hm | hm
            · exact absurd hm (by decide)
            · exact ih q (fun y hy => h y (by simp at hy ⊢; right; exact hy)) hm
      exact gen ps p hn
    have hc := cut_app 10 (bodyL x) (textL xs) hb
    have ih := parse_text xs f (ln + 1) (acc ++ [x]) (fun y hy => h y (by simp [hy])) (by simp only [List.length_cons] at hf; omega)
    unfold parseG
    rw [toList_ba, et]
    have e0 : (bodyL x ++ 10 :: textL xs).isEmpty = false := by cases bodyL x <;> rfl
    rw [e0]
    have ed2 : (⟨(bodyL x ++ 10 :: textL xs).toArray⟩ : ByteArray).data.toList = bodyL x ++ (10 :: textL xs) := by simp
    rw [ed2, es, hc]
    simp only [Bool.false_eq_true, if_false, Bool.true_eq_false]
    rw [split_line T hx.2, move_line hx.1 hx.2]
    simp only
    rw [ih, List.append_assoc]; rfl
end Go.Proofs.YtocbabckihcdmaaDoor
