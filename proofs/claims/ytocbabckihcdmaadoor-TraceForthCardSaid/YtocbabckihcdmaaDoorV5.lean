/- What is parsed is printed as that text: texts. -/
import Derived.Test.YtocbabckihcdmaaDoorV1
namespace Go.Proofs.YtocbabckihcdmaaDoor
set_option linter.unusedSimpArgs false
open Go.RowKit Go.Maps
set_option linter.unusedVariables false
theorem ix_hit (c : UInt8) : ∀ (s : List UInt8), (Lib.index s [c] = -1 ∧ c ∉ s) ∨ ∃ i : Nat, Lib.index s [c] = i ∧ s = s.take i ++ c :: s.drop (i + 1) ∧ c ∉ s.take i
  | [] => .inl ⟨by simp [Lib.index], by simp⟩
  | x :: s => by
    by_cases e : c = x
    · subst e
      right
      exact ⟨0, by simp [Lib.index, List.isPrefixOf], by simp, by simp⟩
    · have e1 : ([c] : List UInt8).isPrefixOf (x :: s) = false := by simp [List.isPrefixOf, e]
      rcases ix_hit c s with ⟨h1, h2⟩ | ⟨i, h1, h2, h3⟩
      · left
        refine ⟨?_, ?_⟩
        · unfold Lib.index; rw [e1, h1]; simp
        · intro hm
          rcases List.mem_cons.1 hm with hm | hm
          · exact e hm
          · exact h2 hm
      · right
        refine ⟨i + 1, ?_, ?_, ?_⟩
        · unfold Lib.index
          have e3 : ((i : Int) == -1) = false := by simp
          rw [e1, h1, e3]; simp
        · show x :: s = x :: (s.take i ++ c :: s.drop (i + 1))
          rw [← h2]
        · intro hm
          rcases List.mem_cons.1 hm with hm | hm
          · exact e hm
          · exact h3 hm
theorem splitK_ne (c : UInt8) : ∀ (k : Nat) (s : List UInt8), ∃ q qs, Lib.splitK [c] 0 k s = q :: qs
  | 0, s => ⟨s, [], rfl⟩
  | k + 1, s => by
    unfold Lib.splitK
    split
    · exact ⟨_, _, rfl⟩
    · exact ⟨_, _, rfl⟩
theorem splitK_back (c : UInt8) : ∀ (k : Nat) (s : List UInt8), Lib.join (Lib.splitK [c] 0 k s) [c] = s
  | 0, s => by show Lib.join [s] [c] = s; exact Lib.join_one _ _
  | k + 1, s => by
    rcases ix_hit c s with ⟨h1, h2⟩ | ⟨i, h1, h2, h3⟩
    · have e : Lib.splitK [c] 0 (k + 1) s = [s] := by
        unfold Lib.splitK; rw [h1]; rfl
      rw [e, Lib.join_one]
    · have e3 : ((i : Int) == -1) = false := by simp
      have e : Lib.splitK [c] 0 (k + 1) s = s.take i :: Lib.splitK [c] 0 k (s.drop (i + 1)) := by
        conv => lhs; unfold Lib.splitK
        rw [h1, e3]
        simp
      have ih := splitK_back c k (s.drop (i + 1))
      obtain ⟨q, qs, hq⟩ := splitK_ne c k (s.drop (i + 1))
      rw [hq] at ih
      rw [e, hq, join_two, ih]
      exact h2.symm
theorem split_back (t : ByteArray) : Lib.join ((splitW t).map (·.data.toList)) [32] = t.data.toList := by
  unfold splitW
  rw [Lib.splitB_data]
  exact splitK_back 32 _ _
theorem can_back {t : ByteArray} {v : Int} (h : canB t = some v) : (⟨(Lib.itoa v).toArray⟩ : ByteArray) = t ∧ -9223372036854775808 ≤ v ∧ v ≤ 9223372036854775807 := by
  unfold canB at h
  split at h
  · rename_i v' q
    split at h
    · rename_i e
      cases h
      refine ⟨Go.WideShapes.bytes_inj (by rw [← e]), Lib.atoiAll_bounds q⟩
    · cases h
  · cases h
theorem idx_back (x : ByteArray) : ∀ (zs : List ByteArray) (i : Nat), Lib.idxFromS zs x i = -1 ∨ ∃ j : Nat, Lib.idxFromS zs x i = ((i + j : Nat) : Int) ∧ zs[j]? = some x
  | [], i => .inl rfl
  | z :: zs, i => by
    unfold Lib.idxFromS
    split
    · rename_i e
      exact .inr ⟨0, by simp, by simp [e]⟩
    · rcases idx_back x zs (i + 1) with h | ⟨j, h, hj⟩
      · exact .inl h
      · exact .inr ⟨j + 1, by rw [h]; congr 1; omega, by simpa using hj⟩
theorem word_back {t : ByteArray} (h : 0 ≤ ixW t) : wordF (ixW t) = t := by
  rcases idx_back t wl 0 with e | ⟨j, e, hj⟩
  · have : ixW t = -1 := e
    omega
  · have e2 : ixW t = (j : Int) := by
      have : ixW t = ((0 + j : Nat) : Int) := e
      rw [this]; congr 1; omega
    rw [e2]
    unfold wordF
    rw [Int.toNat_natCast, hj]; rfl
theorem move_back {ws : List ByteArray} {m : MV} (h : moveF ws = some m) : partsL m = ws ∧ toldB m = true ∧ 0 ≤ m.w := by
  unfold moveF at h
  split at h
  · rename_i hc
    obtain ⟨hl, ho, ht⟩ := hc
    cases h
    match ws, hl with
    | [a, b, c, d, e], _ =>
      simp only [okK, wdA, Bool.and_eq_true, Bool.or_eq_true, decide_eq_true_eq] at ho
      simp at ho
      have hb : 0 ≤ ixW b := by simpa using ho.1.1.1.1
      obtain ⟨va, ha⟩ := Option.isSome_iff_exists.1 (show (canB a).isSome = true by simpa using ho.1.1.1.2)
      obtain ⟨vc, hcc⟩ := Option.isSome_iff_exists.1 (show (canB c).isSome = true by simpa using ho.1.1.2)
      obtain ⟨vd, hd⟩ := Option.isSome_iff_exists.1 (show (canB d).isSome = true by simpa using ho.1.2)
      obtain ⟨ve, he⟩ := Option.isSome_iff_exists.1 (show (canB e).isSome = true by simpa using ho.2)
      have em : moveM [a, b, c, d, e] = ⟨va, ixW b, vc, vd, ve⟩ := by
        unfold moveM
        have e0 : canB (wdA [a, b, c, d, e] 0) = some va := ha
        have e1 : ixW (wdA [a, b, c, d, e] 1) = ixW b := rfl
        have e2 : canB (wdA [a, b, c, d, e] 2) = some vc := hcc
        have e3 : canB (wdA [a, b, c, d, e] 3) = some vd := hd
        have e4 : canB (wdA [a, b, c, d, e] 4) = some ve := he
        rw [e0, e1, e2, e3, e4, show max (ixW b) 0 = ixW b by omega]; rfl
      refine ⟨?_, ht, ?_⟩
      · rw [em]
        unfold partsL
        simp only
        rw [(can_back ha).1, word_back hb, (can_back hcc).1, (can_back hd).1, (can_back he).1]
      · rw [em]; exact hb
  · cases h
theorem line_back {a : List UInt8} {m : MV} (h : moveF (splitW ⟨a.toArray⟩) = some m) : bodyL m = a ∧ toldB m = true ∧ 0 ≤ m.w := by
  obtain ⟨h1, h2, h3⟩ := move_back h
  refine ⟨?_, h2, h3⟩
  unfold bodyL
  rw [h1]
  have e : SP.data.toList = [32] := rfl
  rw [e, split_back]
theorem cut_hit {s a b : List UInt8} {c : UInt8} (h : Lib.cut s [c] = (a, b, true)) : s = a ++ c :: b ∧ c ∉ a := by
  unfold Lib.cut at h
  rcases ix_hit c s with ⟨h1, h2⟩ | ⟨i, h1, h2, h3⟩
  · rw [h1] at h; simp at h
  · rw [h1, if_pos (by omega)] at h
    simp at h
    rw [← h.1, ← h.2]
    exact ⟨h2, h3⟩
theorem cut_no {s : List UInt8} {c : UInt8} (h : (Lib.cut s [c]).2.2 = false) : c ∉ s := by
  unfold Lib.cut at h
  rcases ix_hit c s with ⟨h1, h2⟩ | ⟨i, h1, h2, h3⟩
  · exact h2
  · rw [h1, if_pos (by omega)] at h; cases h
/-- ████ Every text is lines, or lines and what is wrong. -/
theorem parse_any_text : ∀ (f : Nat) (t : ByteArray) (ln : Int) (acc : List MV), t.size < f →
    (∃ ys, (∀ y ∈ ys, toldB y = true ∧ 0 ≤ y.w) ∧ parseG f t ln acc = (acc ++ ys, 0, 0) ∧ t.data.toList = textL ys) ∨
    (∃ ys rest e, (∀ y ∈ ys, toldB y = true ∧ 0 ≤ y.w) ∧ t.data.toList = textL ys ++ rest ∧ rest ≠ [] ∧ parseG f t ln acc = ([], ln + ys.length, e) ∧ ((e = 5 ∧ (10 : UInt8) ∉ rest) ∨ (e = 3 ∧ (10 : UInt8) ∈ rest)))
  | f + 1, t, ln, acc, hf => by
    have es : NL.data.toList = [10] := rfl
    have et : t = ⟨t.data.toList.toArray⟩ := by cases t; simp
    have hs : t.size = t.data.toList.length := (Array.length_toList (xs := t.data)).symm
    obtain ⟨s, hse⟩ : ∃ s, t.data.toList = s := ⟨_, rfl⟩
    rw [hse] at et hs
    unfold parseG
    rw [hse, es]
    by_cases h0 : s = []
    · left
      refine ⟨[], (fun y hy => absurd hy (by simp)), ?_, by rw [h0]; rfl⟩
      have : t.toList.isEmpty = true := by rw [et, toList_ba, h0]; rfl
      rw [this]; simp
    · have e0 : t.toList.isEmpty = false := by rw [et, toList_ba]; cases s with
        | nil => exact absurd rfl h0
        | cons _ _ => rfl
      rw [e0]
      simp only [Bool.false_eq_true, if_false]
      cases hb : (Lib.cut s [10]).2.2 with
      | false =>
        right
        exact ⟨[], s, 5, (fun y hy => absurd hy (by simp)), by simp [textL], h0, by simp, .inl ⟨rfl, cut_no hb⟩⟩
      | true =>
        obtain ⟨a, ha⟩ : ∃ a, (Lib.cut s [10]).1 = a := ⟨_, rfl⟩
        obtain ⟨b, hbb⟩ : ∃ b, (Lib.cut s [10]).2.1 = b := ⟨_, rfl⟩
        have hc : Lib.cut s [10] = (a, b, true) := by rw [← ha, ← hbb, ← hb]
        obtain ⟨h1, h2⟩ := cut_hit hc
        rw [hc]
        simp only [Bool.true_eq_false, if_false]
        cases hm : moveF (splitW ⟨a.toArray⟩) with
        | none =>
          right
          refine ⟨[], s, 3, (fun y hy => absurd hy (by simp)), by simp [textL], h0, by simp, .inr ⟨rfl, ?_⟩⟩
          rw [h1]; simp
        | some m =>
          obtain ⟨m1, m2, m3⟩ := line_back hm
          have hlen : (⟨b.toArray⟩ : ByteArray).size < f := by
            rw [ba_size]
            have := congrArg List.length h1
            rw [List.length_append, List.length_cons] at this
            omega
          have hsb : s = lineL m ++ b := by
            rw [h1]; unfold lineL; rw [m1]; simp
          rcases parse_any_text f ⟨b.toArray⟩ (ln + 1) (acc ++ [m]) hlen with ⟨ys, g1, g2, g3⟩ | ⟨ys, rest, e, g1, g2, g3, g4, g5⟩
          · left
            refine ⟨m :: ys, ?_, ?_, ?_⟩
            · intro y hy
              rcases List.mem_cons.1 hy with rfl | hy
              · exact ⟨m2, m3⟩
              · exact g1 y hy
            · simp only; rw [g2]; simp
            · have e9 : (⟨b.toArray⟩ : ByteArray).data.toList = b := by simp
              rw [e9] at g3
              rw [hsb, g3]; simp [textL]
          · right
            have e9 : (⟨b.toArray⟩ : ByteArray).data.toList = b := by simp
            rw [e9] at g2
            refine ⟨m :: ys, rest, e, ?_, ?_, g3, ?_, g5⟩
            · intro y hy
              rcases List.mem_cons.1 hy with rfl | hy
              · exact ⟨m2, m3⟩
              · exact g1 y hy
            · rw [hsb, g2]; simp [textL]
            · simp only; rw [g4]; simp only [List.length_cons]; congr 1; congr 1; omega
end Go.Proofs.YtocbabckihcdmaaDoor
