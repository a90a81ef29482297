/- Texts of the proof, one behind the other. -/
import Derived.Lib.SplitLaws
import Derived.Lib.AtoiAllCases
import Derived.Lib.AtoiAllMem
import Derived.Lib.ParseIntB
import Derived.Lib.ParseIntBCases
import Derived.Lib.ItoaMem
import Derived.Lib.ItoaLen
import Derived.Lib.CutLaws
import Derived.Lib.Join
import Derived.WideShapes
import Derived.Test.YtdebedeebmmleaaGreatDoorRows
import Derived.Test.YtdebedeebmmleaaGreatDoorTc01
import Derived.Lib.AppendIntMem
import Derived.Deep.Cut
import Derived.Deep.DeepCutAuto
set_option linter.unusedVariables false
set_option linter.unusedSimpArgs false
namespace Go.Proofs.YtdebedeebmmleaaGreatDoor
def SP : ByteArray := ⟨#[32]⟩
def NL : ByteArray := ⟨#[10]⟩
theorem ba_inj {a b : ByteArray} (h : a.data.toList = b.data.toList) : a = b := Go.WideShapes.bytes_inj h
theorem ba_size (l : List UInt8) : (⟨l.toArray⟩ : ByteArray).size = l.length := by simp [ByteArray.size]
theorem ba_mk (t : ByteArray) : (⟨t.data.toList.toArray⟩ : ByteArray) = t := ba_inj (by simp)
theorem ba_list (l : List UInt8) : (⟨l.toArray⟩ : ByteArray).data.toList = l := by simp
theorem ba_len (t : ByteArray) : t.data.toList.length = t.size := by rw [Array.length_toList]; rfl
-- where a byte stands first
theorem ix_app (c : UInt8) : ∀ (a b : List UInt8), c ∉ a → Lib.index (a ++ c :: b) [c] = a.length
  | [], b, _ => by simp [Lib.index]
  | x :: a, b, h => by
    have h1 : ¬ c = x := fun e => h (by simp [e])
    have h2 : c ∉ a := fun e => h (by simp [e])
    show Lib.index (x :: (a ++ c :: b)) [c] = _
    have e1 : ([c] : List UInt8).isPrefixOf (x :: (a ++ c :: b)) = false := by simp [List.isPrefixOf, h1]
    have e2 := ix_app c a b h2
    have e3 : ((a.length : Int) == -1) = false := by simp
    unfold Lib.index
    rw [e1, e2, e3]
    simp
theorem ix_none (c : UInt8) : ∀ (a : List UInt8), c ∉ a → Lib.index a [c] = -1
  | [], _ => by simp [Lib.index]
  | x :: a, h => by
    have h1 : ¬ c = x := fun e => h (by simp [e])
    have h2 : c ∉ a := fun e => h (by simp [e])
    have e1 : ([c] : List UInt8).isPrefixOf (x :: a) = false := by simp [List.isPrefixOf, h1]
    unfold Lib.index
    rw [e1, ix_none c a h2]
    simp
theorem ix_hit (c : UInt8) : ∀ (s : List UInt8), (Lib.index s [c] = -1 ∧ c ∉ s) ∨ ∃ i : Nat, Lib.index s [c] = i ∧ s = s.take i ++ c :: s.drop (i + 1) ∧ c ∉ s.take i
  | [] => .inl ⟨by simp [Lib.index], by simp⟩
  | x :: s => by
    by_cases e : c = x
    · subst e
      right
      exact ⟨0, by simp [Lib.index, List.isPrefixOf], by simp, by simp⟩
    · have e1 : ([c] : List UInt8).isPrefixOf (x :: s) = false := by simp [List.isPrefixOf, e]
      rcases ix_hit c s with ⟨h1, h2⟩ | ⟨i, h1, h2, h3⟩
      · left
        refine ⟨?_, ?_⟩
        · unfold Lib.index; rw [e1, h1]; simp
        · intro hm
          rcases List.mem_cons.1 hm with hm | hm
          · exact e hm
          · exact h2 hm
      · right
        refine ⟨i + 1, ?_, ?_, ?_⟩
        · unfold Lib.index
          have e3 : ((i : Int) == -1) = false := by simp
          rw [e1, h1, e3]; simp
        · show x :: s = x :: (s.take i ++ c :: s.drop (i + 1))
          rw [← h2]
        · intro hm
          rcases List.mem_cons.1 hm with hm | hm
          · exact e hm
          · exact h3 hm
theorem cut_app (c : UInt8) (a b : List UInt8) (h : c ∉ a) : Lib.cut (a ++ c :: b) [c] = (a, b, true) := by
  unfold Lib.cut
  rw [ix_app c a b h, if_pos (by omega)]
  simp [List.drop_append]
theorem cut_none (c : UInt8) (a : List UInt8) (h : c ∉ a) : (Lib.cut a [c]).2.2 = false := by
  unfold Lib.cut
  rw [ix_none c a h, if_neg (by omega)]
/-- What a cut says of a text. -/
theorem cut_cases (c : UInt8) (s : List UInt8) : ((Lib.cut s [c]).2.2 = false ∧ c ∉ s) ∨ ((Lib.cut s [c]).2.2 = true ∧ s = (Lib.cut s [c]).1 ++ c :: (Lib.cut s [c]).2.1 ∧ c ∉ (Lib.cut s [c]).1) := by
  rcases ix_hit c s with ⟨h1, h2⟩ | ⟨i, h1, h2, h3⟩
  · left
    exact ⟨cut_none c s h2, h2⟩
  · right
    have e : Lib.cut s [c] = (s.take i, s.drop (i + 1), true) := by
      rw [h2, cut_app c _ _ h3]
      congr 1
      · rw [← h2]
      · rw [← h2]
    rw [e]
    exact ⟨rfl, h2, h3⟩
theorem join_two (p q : List UInt8) (qs : List (List UInt8)) (c : UInt8) : Lib.join (p :: q :: qs) [c] = p ++ c :: Lib.join (q :: qs) [c] := by
  simp [Lib.join, List.intercalate, List.intersperse]
theorem splitK_join (c : UInt8) : ∀ (ps : List (List UInt8)) (p : List UInt8), (∀ x ∈ p :: ps, c ∉ x) → Lib.splitK [c] 0 ps.length (Lib.join (p :: ps) [c]) = p :: ps
  | [], p, _ => by rw [Lib.join_one]; rfl
  | q :: qs, p, h => by
    have h1 : c ∉ p := h p (by simp)
    have h2 := splitK_join c qs q (fun x hx => h x (by simp at hx ⊢; right; exact hx))
    rw [join_two]
    show Lib.splitK [c] 0 (qs.length + 1) _ = _
    have e3 : ((p.length : Int) == -1) = false := by simp
    unfold Lib.splitK
    rw [ix_app c p _ h1, e3]
    simp only [Bool.false_eq_true, if_false, Int.toNat_natCast, Nat.add_zero, List.length_singleton]
    rw [List.take_left' rfl]
    have e4 : (p ++ c :: Lib.join (q :: qs) [c]).drop (p.length + 1) = Lib.join (q :: qs) [c] := by
      rw [List.drop_append]; simp
    rw [e4, h2]
theorem count_join (c : UInt8) : ∀ (ps : List (List UInt8)) (p : List UInt8), (∀ x ∈ p :: ps, c ∉ x) → (Lib.join (p :: ps) [c]).count c = ps.length
  | [], p, h => by rw [Lib.join_one]; exact List.count_eq_zero.2 (h p (by simp))
  | q :: qs, p, h => by
    have h1 : c ∉ p := h p (by simp)
    have h2 := count_join c qs q (fun x hx => h x (by simp at hx ⊢; right; exact hx))
    rw [join_two, List.count_append, List.count_eq_zero.2 h1, List.count_cons_self, h2]
    simp
theorem splitK_ne (c : UInt8) : ∀ (k : Nat) (s : List UInt8), ∃ q qs, Lib.splitK [c] 0 k s = q :: qs
  | 0, s => ⟨s, [], rfl⟩
  | k + 1, s => by
    unfold Lib.splitK
    split
    · exact ⟨_, _, rfl⟩
    · exact ⟨_, _, rfl⟩
theorem splitK_back (c : UInt8) : ∀ (k : Nat) (s : List UInt8), Lib.join (Lib.splitK [c] 0 k s) [c] = s
  | 0, s => by show Lib.join [s] [c] = s; exact Lib.join_one _ _
  | k + 1, s => by
    rcases ix_hit c s with ⟨h1, h2⟩ | ⟨i, h1, h2, h3⟩
    · have e : Lib.splitK [c] 0 (k + 1) s = [s] := by
        unfold Lib.splitK; rw [h1]; rfl
      rw [e, Lib.join_one]
    · have e3 : ((i : Int) == -1) = false := by simp
      have e : Lib.splitK [c] 0 (k + 1) s = s.take i :: Lib.splitK [c] 0 k (s.drop (i + 1)) := by
        conv => lhs; unfold Lib.splitK
        rw [h1, e3]
        simp
      have ih := splitK_back c k (s.drop (i + 1))
      obtain ⟨q, qs, hq⟩ := splitK_ne c k (s.drop (i + 1))
      rw [hq] at ih
      rw [e, hq, join_two, ih]
      exact h2.symm
def splitW (t : ByteArray) : List ByteArray := Lib.splitB SP 0 (Lib.countB t SP) t
theorem split_len (t : ByteArray) : (splitW t).length = Lib.countB t SP + 1 := Lib.splitB_all SP (by decide) 0 _ t rfl
theorem split_ne (t : ByteArray) : 0 < (splitW t).length := by rw [split_len]; omega
theorem split_sz (sep : ByteArray) : ∀ (k : Nat) (t x : ByteArray), x ∈ Lib.splitB sep 0 k t → x.size ≤ t.size
  | 0, t, x, h => by
    unfold Lib.splitB at h
    simp at h; rw [h]; exact Nat.le_refl _
  | k + 1, t, x, h => by
    unfold Lib.splitB at h
    split at h
    · simp at h; rw [h]; exact Nat.le_refl _
    · rcases List.mem_cons.1 h with h | h
      · rw [h, ByteArray.size_extract]; omega
      · have := split_sz sep k _ x h
        rw [ByteArray.size_extract] at this; omega
theorem split_back (t : ByteArray) : Lib.join ((splitW t).map (·.data.toList)) [32] = t.data.toList := by
  unfold splitW
  rw [Lib.splitB_data]
  exact splitK_back 32 _ _
/-- Words with no blank in them, put together, are split into themselves. -/
theorem split_words (ws : List ByteArray) (h0 : ws ≠ []) (h : ∀ x ∈ ws, (32 : UInt8) ∉ x.data.toList) : splitW ⟨(Lib.join (ws.map (·.data.toList)) [32]).toArray⟩ = ws := by
  obtain ⟨p, ps, hp⟩ : ∃ p ps, ws.map (·.data.toList) = p :: ps := by
    cases ws with
    | nil => exact absurd rfl h0
    | cons x xs => exact ⟨_, _, rfl⟩
  have hn : ∀ x ∈ p :: ps, (32 : UInt8) ∉ x := by
    rw [← hp]; intro x hx
    obtain ⟨y, hy, rfl⟩ := List.mem_map.1 hx
    exact h y hy
  have es : SP.data.toList = [32] := rfl
  have hct : Lib.countB ⟨(Lib.join (ws.map (·.data.toList)) [32]).toArray⟩ SP = ps.length := by
    show Lib.count _ _ = _
    rw [ba_list, es, Lib.count_one, hp, count_join 32 ps p hn]
  have hd : (splitW ⟨(Lib.join (ws.map (·.data.toList)) [32]).toArray⟩).map (·.data.toList) = ws.map (·.data.toList) := by
    unfold splitW
    rw [Lib.splitB_data, hct, es, ba_list, hp, splitK_join 32 ps p hn]
  exact (List.map_inj_right (fun a b e => ba_inj e)).1 hd
theorem join_no (c : UInt8) (hc : c ≠ 32) : ∀ (ps : List (List UInt8)), (∀ y ∈ ps, c ∉ y) → c ∉ Lib.join ps [32]
  | [], _ => by simp [Lib.join, List.intercalate]
  | [p], h => by rw [Lib.join_one]; exact h p (by simp)
  | p :: q :: qs, h => by
    rw [join_two]
    intro hm
    rcases List.mem_append.1 hm with hm | hm
    · exact h p (by simp) hm
    · rcases List.mem_cons.1 hm with hm | hm
      · exact hc hm
      · exact join_no c hc (q :: qs) (fun y hy => h y (by simp at hy ⊢; right; exact hy)) hm
-- digits
theorem dd_digit : ∀ (u : Nat), ∀ c ∈ Lib.decDigits u, 48 ≤ c.toNat ∧ c.toNat ≤ 57 := by
  intro u
  induction u using Nat.strongRecOn with
  | _ u ih =>
    intro c hc
    rw [Lib.decDigits] at hc
    split at hc
    · rename_i h
      rw [List.mem_singleton] at hc; subst hc
      rw [UInt8.toNat_ofNat']; omega
    · rename_i h
      rcases List.mem_append.1 hc with hc | hc
      · exact ih (u / 10) (by omega) c hc
      · rw [List.mem_singleton] at hc; subst hc
        rw [UInt8.toNat_ofNat']; omega
theorem dd_ne (u : Nat) : Lib.decDigits u ≠ [] := by
  rw [Lib.decDigits]; split <;> simp
theorem dd_parse : ∀ (u : Nat), u < 9223372036854775808 → ∀ r, Lib.parseUint10 0 (Lib.decDigits u ++ r) = Lib.parseUint10 u r := by
  intro u
  induction u using Nat.strongRecOn with
  | _ u ih =>
    intro hu r
    rw [Lib.decDigits]
    split
    · rename_i h
      have e : (UInt8.ofNat (48 + u)).toNat = 48 + u := by rw [UInt8.toNat_ofNat']; omega
      show Lib.parseUint10 0 (UInt8.ofNat (48 + u) :: r) = _
      rw [Lib.parseUint10, e, if_pos (by omega), if_neg (by omega), if_neg (by omega)]
      congr 1; omega
    · rename_i h
      have e : (UInt8.ofNat (48 + u % 10)).toNat = 48 + u % 10 := by rw [UInt8.toNat_ofNat']; omega
      rw [List.append_assoc, ih (u / 10) (by omega) (by omega)]
      show Lib.parseUint10 (u / 10) (UInt8.ofNat (48 + u % 10) :: r) = _
      rw [Lib.parseUint10, e, if_pos (by omega), if_neg (by omega), if_neg (by omega)]
      congr 1; omega
theorem dd_mag (u : Nat) (hu : u < 9223372036854775808) : Lib.parseMag (Lib.decDigits u) = .ok u := by
  unfold Lib.parseMag
  rw [if_neg (dd_ne u)]
  have := dd_parse u hu []
  rw [List.append_nil] at this
  rw [this]; rfl
theorem dd_atoi (u : Nat) (hu : u < 9223372036854775808) : Lib.atoiAll (Lib.decDigits u) = .ok (u : Int) := by
  cases e : Lib.decDigits u with
  | nil => exact absurd e (dd_ne u)
  | cons c r =>
    have hd := dd_digit u c (by rw [e]; simp)
    rw [Lib.atoiAll_plain c r (by omega) (by omega), ← e, dd_mag u hu]
    unfold Lib.signless
    simp only
    rw [if_neg (by omega)]
theorem dd_atoi_neg (u : Nat) (h1 : 1 ≤ u) (hu : u < 9223372036854775808) : Lib.atoiAll (45 :: Lib.decDigits u) = .ok (-(u : Int)) := by
  rw [Lib.atoiAll_minus, dd_mag u hu]
  unfold Lib.signed
  simp only
  rw [if_neg (by omega)]
theorem itoa_atoi (v : Int) (h0 : -9223372036854775807 ≤ v) (h1 : v ≤ 9223372036854775807) : Lib.atoiAll (Lib.itoa v) = .ok v := by
  rcases (show v < 0 ∨ 0 ≤ v by omega) with h | h
  · obtain ⟨u, rfl⟩ : ∃ u : Nat, v = -(u : Int) := ⟨(-v).toNat, by omega⟩
    rw [Lib.itoa_neg u (by omega)]
    exact dd_atoi_neg u (by omega) (by omega)
  · obtain ⟨u, rfl⟩ : ∃ u : Nat, v = (u : Int) := ⟨v.toNat, by omega⟩
    rw [Lib.itoa_nonneg]
    exact dd_atoi u (by omega)
theorem itoa_no (v : Int) (c : UInt8) (hc : c.toNat < 45) : c ∉ Lib.itoa v := by
  rcases (show v < 0 ∨ 0 ≤ v by omega) with h | h
  · obtain ⟨u, rfl⟩ : ∃ u : Nat, v = -(u : Int) := ⟨(-v).toNat, by omega⟩
    rw [Lib.itoa_neg u (by omega)]
    intro hm
    rcases List.mem_cons.1 hm with hm | hm
    · subst hm; exact absurd hc (by decide)
    · have := dd_digit _ c hm; omega
  · obtain ⟨u, rfl⟩ : ∃ u : Nat, v = (u : Int) := ⟨v.toNat, by omega⟩
    rw [Lib.itoa_nonneg]
    intro hm
    have := dd_digit _ c hm; omega
-- the numbers of an Add
theorem dd_pm : ∀ (u : Nat), u ≤ 18446744073709551615 → ∀ r, Lib.parseUintM (2 ^ 64 - 1) 0 (Lib.decDigits u ++ r) = Lib.parseUintM (2 ^ 64 - 1) u r := by
  intro u
  induction u using Nat.strongRecOn with
  | _ u ih =>
    intro hu r
    rw [Lib.decDigits]
    split
    · rename_i h
      have e : (UInt8.ofNat (48 + u)).toNat = 48 + u := by rw [UInt8.toNat_ofNat']; omega
      show Lib.parseUintM (2 ^ 64 - 1) 0 (UInt8.ofNat (48 + u) :: r) = _
      rw [Lib.parseUintM, e, if_pos (by omega), if_neg (by omega), if_neg (by omega)]
      congr 1; omega
    · rename_i h
      have e : (UInt8.ofNat (48 + u % 10)).toNat = 48 + u % 10 := by rw [UInt8.toNat_ofNat']; omega
      rw [List.append_assoc, ih (u / 10) (by omega) (by omega)]
      show Lib.parseUintM (2 ^ 64 - 1) (u / 10) (UInt8.ofNat (48 + u % 10) :: r) = _
      rw [Lib.parseUintM, e, if_pos (by omega), if_neg (by omega), if_neg (by omega)]
      congr 1; omega
theorem dd_uint (u : Nat) (hu : u ≤ 18446744073709551615) : Lib.parseUintB 64 (Lib.decDigits u) = .ok u := by
  unfold Lib.parseUintB
  rw [if_neg (dd_ne u)]
  have := dd_pm u hu []
  rw [List.append_nil] at this
  rw [this]; rfl
/-- The number that a word is. -/
def canB (t : ByteArray) : Option Int := match Lib.atoiAll t.data.toList with
  | .ok v => if Lib.itoa v = t.data.toList then some v else none
  | _ => none
def inR (v : Int) : Bool := decide (-2147483647 ≤ v) && decide (v ≤ 2147483647)
def delB (t : ByteArray) : Option Nat := match Lib.parseUintB 64 t.data.toList with
  | .ok u => if Lib.decDigits u = t.data.toList then some u else none
  | _ => none
def itoaB (v : Int) : ByteArray := ⟨(Lib.itoa v).toArray⟩
def utoaB (u : Nat) : ByteArray := ⟨(Lib.decDigits u).toArray⟩
theorem can_back {t : ByteArray} {v : Int} (h : canB t = some v) : itoaB v = t ∧ -9223372036854775808 ≤ v ∧ v ≤ 9223372036854775807 := by
  unfold canB at h
  split at h
  · rename_i v' q
    split at h
    · rename_i e
      cases h
      refine ⟨ba_inj (by rw [← e]; exact ba_list _), Lib.atoiAll_bounds q⟩
    · cases h
  · cases h
theorem can_itoa {v : Int} (h0 : -9223372036854775807 ≤ v) (h1 : v ≤ 9223372036854775807) : canB (itoaB v) = some v := by
  unfold canB itoaB
  rw [ba_list, itoa_atoi v h0 h1]
  simp
theorem del_back {t : ByteArray} {u : Nat} (h : delB t = some u) : utoaB u = t ∧ u ≤ 18446744073709551615 := by
  unfold delB at h
  split at h
  · rename_i v q
    split at h
    · rename_i e
      cases h
      refine ⟨ba_inj (by rw [← e]; exact ba_list _), ?_⟩
      have := Lib.parseUintB_le q
      omega
    · cases h
  · cases h
theorem del_utoa {u : Nat} (h : u ≤ 18446744073709551615) : delB (utoaB u) = some u := by
  unfold delB utoaB
  rw [ba_list, dd_uint u h]
  simp
-- tokens
def hexd (n : Nat) : UInt8 := ((#[48, 49, 50, 51, 52, 53, 54, 55, 56, 57, 97, 98, 99, 100, 101, 102] : Array UInt8)[n]?).getD 0
def tokP (l : List UInt8) : List UInt8 := l.flatMap (fun b => [hexd (b.toNat / 16), hexd (b.toNat % 16)])
def tokL (l : List UInt8) : List UInt8 := if l = [] then [45] else tokP l
def hexv (c : UInt8) : Option Nat := (List.range 16).find? (fun i => hexd i == c)
def unP : List UInt8 → Option (List UInt8)
  | [] => some []
  | [_] => none
  | a :: b :: r => match hexv a, hexv b with
    | some x, some y => (unP r).map (UInt8.ofNat (x * 16 + y) :: ·)
    | _, _ => none
def unL (l : List UInt8) : Option (List UInt8) := if l = [45] then some [] else if l = [] then none else unP l
theorem hexd_v : ∀ n, n < 16 → hexv (hexd n) = some n := by decide +kernel
theorem hexd_no : ∀ n, n < 16 → hexd n ≠ 45 ∧ hexd n ≠ 32 ∧ hexd n ≠ 10 := by decide +kernel
theorem hexv_some {c : UInt8} {x : Nat} (h : hexv c = some x) : x < 16 ∧ hexd x = c := by
  unfold hexv at h
  have h1 := List.find?_some h
  have h2 := List.mem_of_find?_eq_some h
  exact ⟨by simpa using h2, by simpa using h1⟩
theorem tokP_cons (b : UInt8) (l : List UInt8) : tokP (b :: l) = hexd (b.toNat / 16) :: hexd (b.toNat % 16) :: tokP l := rfl
theorem tokP_len (l : List UInt8) : (tokP l).length = 2 * l.length := by
  induction l with
  | nil => rfl
  | cons b l ih => rw [tokP_cons]; simp only [List.length_cons, ih]; omega
theorem unP_tok (l : List UInt8) : unP (tokP l) = some l := by
  induction l with
  | nil => rfl
  | cons b l ih =>
    have hb := b.toNat_lt
    rw [tokP_cons]
    unfold unP
    rw [hexd_v _ (by omega), hexd_v _ (by omega), ih]
    simp only [Option.map_some]
    have e : b.toNat / 16 * 16 + b.toNat % 16 = b.toNat := by omega
    rw [e]
    simp
theorem unL_tok (l : List UInt8) : unL (tokL l) = some l := by
  unfold tokL
  split
  · rename_i h; subst h; rfl
  · rename_i h
    obtain ⟨b, r, rfl⟩ := List.exists_cons_of_ne_nil h
    have hb := b.toNat_lt
    have h0 := (hexd_no (b.toNat / 16) (by omega)).1
    unfold unL
    rw [if_neg (by rw [tokP_cons]; simp), if_neg (by rw [tokP_cons]; simp)]
    exact unP_tok _
theorem unP_back : ∀ (k : Nat) (l x : List UInt8), l.length ≤ k → unP l = some x → tokP x = l
  | _, [], x, _, h => by unfold unP at h; cases h; rfl
  | _, [_], x, _, h => by unfold unP at h; cases h
  | 0, a :: b :: r, x, hk, h => by simp at hk
  | k + 1, a :: b :: r, x, hk, h => by
    unfold unP at h
    split at h
    · rename_i p q hp hq
      obtain ⟨y, hy, rfl⟩ := Option.map_eq_some_iff.1 h
      have ih := unP_back k r y (by simp at hk ⊢; omega) hy
      obtain ⟨p1, p2⟩ := hexv_some hp
      obtain ⟨q1, q2⟩ := hexv_some hq
      have e : (UInt8.ofNat (p * 16 + q)).toNat = p * 16 + q := by rw [UInt8.toNat_ofNat']; omega
      rw [tokP_cons, e, ih, show (p * 16 + q) / 16 = p by omega, show (p * 16 + q) % 16 = q by omega, p2, q2]
    · cases h
theorem unL_back {l x : List UInt8} (h : unL l = some x) : tokL x = l := by
  unfold unL at h
  split at h
  · rename_i e; cases h; rw [e]; rfl
  · rename_i e
    split at h
    · cases h
    · rename_i e2
      have := unP_back _ l x (Nat.le_refl _) h
      unfold tokL
      rw [if_neg, this]
      rintro rfl
      exact e2 this.symm
theorem tok_no (l : List UInt8) (c : UInt8) (hc : c = 32 ∨ c = 10) : c ∉ tokL l := by
  unfold tokL
  split
  · rcases hc with rfl | rfl <;> decide
  · intro hm
    obtain ⟨b, _, hb⟩ := List.mem_flatMap.1 hm
    have h1 := b.toNat_lt
    have h2 := hexd_no (b.toNat / 16) (by omega)
    have h3 := hexd_no (b.toNat % 16) (by omega)
    simp only [List.mem_cons, List.not_mem_nil, or_false] at hb
    rcases hc with rfl | rfl <;> rcases hb with hb | hb
    · exact h2.2.1 hb.symm
    · exact h3.2.1 hb.symm
    · exact h2.2.2 hb.symm
    · exact h3.2.2 hb.symm
def tokB (t : ByteArray) : ByteArray := ⟨(tokL t.data.toList).toArray⟩
def txtB (t : ByteArray) : Option ByteArray := (unL t.data.toList).map (fun l => ⟨l.toArray⟩)
theorem txt_back {t x : ByteArray} (h : txtB t = some x) : tokB x = t := by
  unfold txtB at h
  obtain ⟨l, hl, rfl⟩ := Option.map_eq_some_iff.1 h
  unfold tokB
  rw [ba_list, unL_back hl, ba_mk]
theorem txt_tok (t : ByteArray) : txtB (tokB t) = some t := by
  unfold txtB tokB
  rw [ba_list, unL_tok]
  simp [ba_mk]
theorem tok_size (t : ByteArray) : (tokB t).size ≤ 2 * t.size + 1 := by
  unfold tokB
  rw [ba_size]
  unfold tokL
  split
  · simp
  · rw [tokP_len, ba_len]; omega
theorem txt_size {t x : ByteArray} (h : txtB t = some x) : x.size ≤ t.size := by
  have h2 := txt_back h
  have e := ba_len x
  have e2 : t.size = (tokL x.data.toList).length := by rw [← h2]; exact ba_size _
  rw [e2]
  unfold tokL
  split
  · rename_i q; rw [q] at e; simp at e ⊢; omega
  · rw [tokP_len, e]; omega
end Go.Proofs.YtdebedeebmmleaaGreatDoor
namespace Go.Proofs.YtdebedeebmmleaaGreatDoor
open Go.RowKit

abbrev cfg (k v f b l bl n bu ch : Int) : Value := .agg #[.int .i64 k, .int .i64 v, .int .i64 f, .int .i64 b, .int .i64 l, .int .i64 bl, .int .i64 n, .int .i64 bu, .int .i64 ch]
def emp (a : ByteArray) : Bool := a.toList.isEmpty
def ltS (a b : ByteArray) : Bool := Op.bytesLess a.toList b.toList
def sbS (f t : ByteArray) : Bool := emp t || ltS f t
def rightS (s : ByteArray) (n : Int) : Bool := !emp s && decide ((s.size : Int) ≤ n)

theorem right_any (s : ByteArray) (n : Int) (w : World) :
    Calls Tryz.prog 99 #[.string s, .int .i64 n] w fun e w' => e = .returned (.bool (rightS s n)) ∧ w = w' := by
  go_enter Tryz.func99, Tryz.ntmps99
  go_wp2
  all_goals
    go_ret
    refine ⟨?_, rfl⟩
    simp_all [rightS, emp]
theorem sb_any (a b : ByteArray) (w : World) :
    Calls Tryz.prog 123 #[.string a, .string b] w fun e w' => e = .returned (.bool (sbS a b)) ∧ w = w' := by
  go_enter Tryz.func123, Tryz.ntmps123
  go_wp2
  all_goals
    go_ret
    refine ⟨?_, rfl⟩
    simp_all [sbS, emp, ltS]
theorem rightRange_any (a b : ByteArray) (w : World) :
    Calls Tryz.prog 100 #[.agg #[.string a, .string b]] w fun e w' => e = .returned (.bool (sbS a b)) ∧ Below w.heap.size w w' := by
  go_enter Tryz.func100, Tryz.ntmps100
  go_wp2_with (go_at_call 123; refine (sb_any _ _ _).mono ?_; rintro e w' ⟨rfl, rfl⟩)
  all_goals
    go_ret
    exact ⟨rfl, by go_grown⟩

/-- A message. -/
structure M where
  k : Int
  q : Int
  key : ByteArray
  too : ByteArray
  val : ByteArray
  dl : Int
def M.v (m : M) : Value := .agg #[.int .u8 m.k, .int .i64 m.q, .string m.key, .string m.too, .string m.val, .int .u64 m.dl]

theorem mpure_1 (q dl : Int) (key too val : ByteArray) (w : World)  :
    Calls Tryz.prog 98 #[.agg #[.int .u8 1, .int .i64 q, .string key, .string too, .string val, .int .u64 dl]] w fun e w' => e = .returned (.agg #[.int .u8 1, .int .i64 q, .string key, .string ⟨#[]⟩, .string val, .int .u64 0]) ∧ Below w.heap.size w w' := by
  go_enter Tryz.func98, Tryz.ntmps98
  go_wp2
  refine bodyPost_ret (v := .agg #[.int .u8 1, .int .i64 q, .string key, .string ⟨#[]⟩, .string val, .int .u64 0]) (by simp [results, Tryz.results98, go_sem]) rfl ⟨rfl, by go_grown⟩
theorem mpure_3 (q dl : Int) (key too val : ByteArray) (w : World)  :
    Calls Tryz.prog 98 #[.agg #[.int .u8 3, .int .i64 q, .string key, .string too, .string val, .int .u64 dl]] w fun e w' => e = .returned (.agg #[.int .u8 3, .int .i64 q, .string key, .string ⟨#[]⟩, .string ⟨#[]⟩, .int .u64 dl]) ∧ Below w.heap.size w w' := by
  go_enter Tryz.func98, Tryz.ntmps98
  go_wp2
  refine bodyPost_ret (v := .agg #[.int .u8 3, .int .i64 q, .string key, .string ⟨#[]⟩, .string ⟨#[]⟩, .int .u64 dl]) (by simp [results, Tryz.results98, go_sem]) rfl ⟨rfl, by go_grown⟩
theorem mpure_4 (q dl : Int) (key too val : ByteArray) (w : World)  :
    Calls Tryz.prog 98 #[.agg #[.int .u8 4, .int .i64 q, .string key, .string too, .string val, .int .u64 dl]] w fun e w' => e = .returned (.agg #[.int .u8 4, .int .i64 q, .string key, .string too, .string ⟨#[]⟩, .int .u64 0]) ∧ Below w.heap.size w w' := by
  go_enter Tryz.func98, Tryz.ntmps98
  go_wp2
  refine bodyPost_ret (v := .agg #[.int .u8 4, .int .i64 q, .string key, .string too, .string ⟨#[]⟩, .int .u64 0]) (by simp [results, Tryz.results98, go_sem]) rfl ⟨rfl, by go_grown⟩
theorem mpure_o (k q dl : Int) (key too val : ByteArray) (w : World) (h1 : k ≠ 1) (h3 : k ≠ 3) (h4 : k ≠ 4) :
    Calls Tryz.prog 98 #[.agg #[.int .u8 k, .int .i64 q, .string key, .string too, .string val, .int .u64 dl]] w fun e w' => e = .returned (.agg #[.int .u8 k, .int .i64 q, .string key, .string ⟨#[]⟩, .string ⟨#[]⟩, .int .u64 0]) ∧ Below w.heap.size w w' := by
  go_enter Tryz.func98, Tryz.ntmps98
  go_wp2
  refine bodyPost_ret (v := .agg #[.int .u8 k, .int .i64 q, .string key, .string ⟨#[]⟩, .string ⟨#[]⟩, .int .u64 0]) (by simp [results, Tryz.results98, go_sem]) rfl ⟨rfl, by go_grown⟩

theorem span_4 (q dl : Int) (key too val : ByteArray) (w : World) :
    Calls Tryz.prog 101 #[.agg #[.int .u8 4, .int .i64 q, .string key, .string too, .string val, .int .u64 dl]] w fun e w' => e = .returned (.agg #[.string key, .string too]) ∧ Below w.heap.size w w' := by
  have C : ∀ W, Calls Tryz.prog 124 #[.agg #[.int .u8 4, .int .i64 q, .string key, .string too, .string val, .int .u64 dl]] W fun e w' => e = .returned (.bool false) ∧ Below W.heap.size W w' := by
    intro W
    go_enter Tryz.func124, Tryz.ntmps124
    go_wp2
    go_ret
    exact ⟨rfl, by go_grown⟩
  have CC := Lib.hid C
  go_enter Tryz.func101, Tryz.ntmps101
  go_wp2_with fail
  refine (CC.out _).mono ?_
  rintro e w1 ⟨rfl, hb⟩
  have d0 : w1.cell? ⟨w.heap.size, 0, none⟩ = some (.int .u8 4) := bel_later hb (by simp [go_sem])
  have d2 : w1.cell? ⟨w.heap.size, 2, none⟩ = some (.string key) := bel_later hb (by simp [go_sem])
  have d3 : w1.cell? ⟨w.heap.size, 3, none⟩ = some (.string too) := bel_later hb (by simp [go_sem])
  have hb1 : Below w.heap.size w w1 := Below.trans (by go_grown) (hb.mono (by simp; try omega))
  have x0 : w1.cell? ⟨w.heap.size + 1, 0, none⟩ = some (.string ⟨#[]⟩) := bel_later hb (by simp [go_sem])
  have x1 : w1.cell? ⟨w.heap.size + 1, 1, none⟩ = some (.string ⟨#[]⟩) := bel_later hb (by simp [go_sem])
  have y0 : w1.frozen? ⟨w.heap.size + 1, 0, none⟩ = false := (hb.frozen (by simp)).trans (by simp [go_sem])
  have y1 : w1.frozen? ⟨w.heap.size + 1, 1, none⟩ = false := (hb.frozen (by simp)).trans (by simp [go_sem])
  go_wp2
  refine bodyPost_ret (v := .agg #[.string key, .string too]) (by simp [results, Tryz.results101, go_sem, x0, x1, y0, y1]) rfl ⟨rfl, (hb1.setCell (p := ⟨w.heap.size + 1, 0, none⟩) (by simp) _).setCell (p := ⟨w.heap.size + 1, 1, none⟩) (by simp) _⟩
end Go.Proofs.YtdebedeebmmleaaGreatDoor
namespace Go.Proofs.YtdebedeebmmleaaGreatDoor
open Go.RowKit Go.Maps
theorem alb (w : World) (o : Obj) : Below w.heap.size w (w.alloc o) := (Below.refl _ w).alloc (Nat.le_refl _) o
theorem keep_bel {w w' : World} (hb : Below w.heap.size w w') {b : Nat} {o : Obj} (h : w.heap[b]? = some o) : w'.heap[b]? = some o := by
  have hlt : b < w.heap.size := by
    rcases Nat.lt_or_ge b w.heap.size with h' | h'
    · exact h'
    · simp [Array.getElem?_eq_none h'] at h
  exact (hb.block b hlt).trans h
/-- What changes, and what stays. -/
structure Chg (D : Nat → Prop) (w w' : World) : Prop where
  os : w'.os = w.os
  tape : w'.tape = w.tape
  output : w'.output = w.output
  size : w.heap.size ≤ w'.heap.size
  block : ∀ g, g < w.heap.size → ¬ D g → w'.heap[g]? = w.heap[g]?
theorem Chg.refl (D : Nat → Prop) (w : World) : Chg D w w := ⟨rfl, rfl, rfl, Nat.le_refl _, fun _ _ _ => rfl⟩
theorem Chg.of_below {D : Nat → Prop} {w w' : World} (h : Below w.heap.size w w') : Chg D w w' := ⟨h.os, h.tape, h.output, h.size, fun g hg _ => h.block g hg⟩
theorem Chg.trans {F G : Nat → Prop} {w w1 w2 : World} (h : Chg F w w1) (k : Chg G w1 w2) (hG : ∀ g, G g → F g ∨ w.heap.size ≤ g) : Chg F w w2 :=
  ⟨k.os.trans h.os, k.tape.trans h.tape, k.output.trans h.output, Nat.le_trans h.size k.size, fun g hg hn => (k.block g (Nat.lt_of_lt_of_le hg h.size) (fun e => by rcases hG g e with x | x; exact hn x; omega)).trans (h.block g hg hn)⟩
theorem Chg.then {F : Nat → Prop} {w w1 w2 : World} (h : Chg F w w1) (k : Chg F w1 w2) : Chg F w w2 := h.trans k (fun _ e => .inl e)
theorem Chg.later {F : Nat → Prop} {w w1 w2 : World} (h : Chg F w w1) (k : Below w1.heap.size w1 w2) : Chg F w w2 := h.trans (Chg.of_below (D := fun _ => False) k) (fun _ e => e.elim)
theorem Chg.more {F G : Nat → Prop} {w w' : World} (h : Chg F w w') (hG : ∀ g, F g → G g ∨ w.heap.size ≤ g) : Chg G w w' := ⟨h.os, h.tape, h.output, h.size, fun g hg hn => h.block g hg (fun e => by rcases hG g e with x | x; exact hn x; omega)⟩
theorem Chg.below {F : Nat → Prop} {w w' : World} {lo : Nat} (h : Chg F w w') (hF : ∀ g, F g → lo ≤ g) (hlo : lo ≤ w.heap.size) : Below lo w w' :=
  ⟨h.os, h.tape, h.output, h.size, fun g hg => h.block g (by omega) (fun e => by have := hF g e; omega)⟩
theorem Chg.set {D : Nat → Prop} (w : World) {l o : Nat} (v : Value) (hl : D l) : Chg D w (w.setCell ⟨l, o, none⟩ v) :=
  ⟨rfl, rfl, rfl, by simp, fun g hg hn => by
    have : l ≠ g := fun e => hn (e ▸ hl)
    simp [World.setCell, Array.getElem?_modify, this]⟩
theorem Chg.drew {D : Nat → Prop} {w w' : World} (h : Chg D w w') : Chg D w w'.drew := ⟨h.os, h.tape, h.output, h.size, h.block⟩
theorem Chg.keep {D : Nat → Prop} {w w' : World} (h : Chg D w w') {b : Nat} {o : Obj} (hb : w.heap[b]? = some o) (hD : ¬ D b) : w'.heap[b]? = some o := by
  have hlt : b < w.heap.size := by
    rcases Nat.lt_or_ge b w.heap.size with h' | h'
    · exact h'
    · simp [Array.getElem?_eq_none h'] at hb
  exact (h.block b hlt hD).trans hb
/-- A slice's block is none of these. -/
def Nb (D : Nat → Prop) (A : Option Addr) : Prop := ∀ a, A = some a → ¬ D a.block
theorem Rd.chg {D : Nat → Prop} {w w' : World} {A : Option Addr} {xs : List Value} (h : Rd w w.heap.size A xs) (hc : Chg D w w') (hn : Nb D A) : Rd w' w'.heap.size A xs := by
  rcases h with h | ⟨b, off, e, hlt, h⟩
  · exact .inl h
  · refine .inr ⟨b, off, e, Nat.lt_of_lt_of_le hlt hc.size, fun j u hj => ?_⟩
    rw [World.cell?_of_block (a := ⟨b, off + j, none⟩) (hc.block b hlt (hn _ e))]
    exact h j u hj
theorem RE.Rd.chg {α : Type} {E : RE α} {D : Nat → Prop} {w w' : World} {A : Option Addr} {xs : List α} (h : E.Rd w A xs) (hc : Chg D w w') (hn : Nb D A) : E.Rd w' A xs := Go.Proofs.YtdebedeebmmleaaGreatDoor.Rd.chg h hc hn
theorem RE.Row.chg {α : Type} {E : RE α} {D : Nat → Prop} {w w' : World} {base : Nat} {A : Option Addr} {l : List α} {c : Nat} (h : E.Row w base A l c) (hc : Chg D w w') (hn : ∀ g, RE.fp A c = some g → ¬ D g) : E.Row w' base A l c := by
  rcases h with h | ⟨h0, h⟩
  · exact .inl h
  · refine .inr ⟨h0, h.1, ?_⟩
    rcases h.2 with h1 | ⟨g, cap, cur, e, hb, hg, rest⟩
    · exact .inl h1
    · refine .inr ⟨g, cap, cur, e, hb, hc.keep hg (hn g ?_), rest⟩
      injection e with e1 e2 e3
      have hc0 : ¬ c = 0 := by omega
      simp [RE.fp, hc0, e1]
def ES : RE ByteArray where
  st := 39
  et := 9
  k := 1
  by_ := 16
  z := .string ⟨#[]⟩
  cs := fun x => [.string x]
  kpos := by omega
  len := fun _ => rfl
  one := fun x u hu => by simp at hu; rcases hu with rfl; rfl
  und := Tryz.underlying39
  info := by kernel_rfl
  zk := rfl
  bmax := by omega
def EI : RE Int where
  st := 40
  et := 3
  k := 1
  by_ := 8
  z := .int .i64 0
  cs := fun x => [.int .i64 x]
  kpos := by omega
  len := fun _ => rfl
  one := fun x u hu => by simp at hu; rcases hu with rfl; rfl
  und := Tryz.underlying40
  info := by kernel_rfl
  zk := rfl
  bmax := by omega
def EB : RE UInt8 where
  st := 47
  et := 5
  k := 1
  by_ := 1
  z := .int .u8 0
  cs := fun x => [.int .u8 x.toNat]
  kpos := by omega
  len := fun _ => rfl
  one := fun x u hu => by simp at hu; rcases hu with rfl; rfl
  und := Tryz.underlying47
  info := by kernel_rfl
  zk := rfl
  bmax := by omega
def EM : RE M where
  st := 41
  et := 73
  k := 6
  by_ := 72
  z := .agg #[.int .u8 0, .int .i64 0, .string ⟨#[]⟩, .string ⟨#[]⟩, .string ⟨#[]⟩, .int .u64 0]
  cs := fun m => [.int .u8 m.k, .int .i64 m.q, .string m.key, .string m.too, .string m.val, .int .u64 m.dl]
  kpos := by omega
  len := fun _ => rfl
  one := fun x u hu => by simp at hu; rcases hu with rfl | rfl | rfl | rfl | rfl | rfl <;> rfl
  und := Tryz.underlying41
  info := by kernel_rfl
  zk := rfl
  bmax := by omega
theorem es_at {w : World} {A : Option Addr} {xs : List ByteArray} (h : ES.Rd w A xs) {i : Nat} {x : ByteArray} (hi : xs[i]? = some x) : ∃ b off, A = some ⟨b, off, none⟩ ∧ b < w.heap.size ∧ w.cell? ⟨b, off + i, none⟩ = some (.string x) := by
  obtain ⟨b, off, e, h1, h2⟩ := h.get hi
  exact ⟨b, off, e, h1, by simpa [ES] using h2 0 _ rfl⟩
theorem ei_at {w : World} {A : Option Addr} {xs : List Int} (h : EI.Rd w A xs) {i : Nat} {x : Int} (hi : xs[i]? = some x) : ∃ b off, A = some ⟨b, off, none⟩ ∧ b < w.heap.size ∧ w.cell? ⟨b, off + i, none⟩ = some (.int .i64 x) := by
  obtain ⟨b, off, e, h1, h2⟩ := h.get hi
  exact ⟨b, off, e, h1, by simpa [EI] using h2 0 _ rfl⟩
theorem es_all (xs : List ByteArray) : ES.all xs = xs.map Value.string := by
  induction xs with
  | nil => rfl
  | cons x xs ih => rw [RE.all_cons, ih]; rfl
/-- What the package's variables hold. -/
structure GW (w : World) : Prop where
  an : ∀ i v, ([2147483647, 2147483647, 0, 0, 0, 0, 0, 0, 0] : List Int)[i]? = some v → w.cell? ⟨0, i, none⟩ = some (.int .i64 v)
  mx : ∃ m, w.cell? ⟨2, 0, none⟩ = some (.int .i64 m)
  sy : ∃ ev, w.cell? ⟨3, 0, none⟩ = some ev ∧ (ev = .nilIface ∨ ∃ te pe, ev = .iface te pe)
  rg : ∃ ev, w.cell? ⟨4, 0, none⟩ = some ev ∧ (ev = .nilIface ∨ ∃ te pe, ev = .iface te pe)
  tb : Lib.TabIs Tryz.prog w "internal/strconv.uint64pow10" .u64 Lib.pow10Tab
theorem GW.later {w w' : World} (h : GW w) (b : Below w.heap.size w w') : GW w' := by
  obtain ⟨m, h1⟩ := h.mx
  obtain ⟨e2, h2, h3⟩ := h.sy
  obtain ⟨e4, h4, h5⟩ := h.rg
  exact ⟨fun i v hv => bel_later b (h.an i v hv), ⟨m, bel_later b h1⟩, ⟨e2, bel_later b h2, h3⟩, ⟨e4, bel_later b h4, h5⟩, Lib.tabBelow_of_tabIs h.tb _ b⟩
/-- They hold it as long as nothing changes below a mark. -/
structure GB (B : Nat) (w : World) : Prop where
  le : B ≤ w.heap.size
  all : ∀ W, Below B w W → GW W
theorem GB.of {w : World} (h : GW w) : GB w.heap.size w := ⟨Nat.le_refl _, fun W b => h.later b⟩
theorem GB.gw {B : Nat} {w : World} (h : GB B w) : GW w := h.all w (Below.refl _ _)
theorem GB.bel {B : Nat} {w w' : World} (h : GB B w) (b : Below B w w') : GB B w' := ⟨Nat.le_trans h.le b.size, fun W c => h.all W (b.trans c)⟩
theorem GB.later {B : Nat} {w w' : World} (h : GB B w) (b : Below w.heap.size w w') : GB B w' := h.bel (b.mono h.le)
theorem GB.chg {B g : Nat} {w w' : World} (h : GB B w) (hc : Chg (fun x => x = g) w w') (hg : B ≤ g) : GB B w' := h.bel (hc.below (fun x e => by omega) h.le)
variable {nV aV : Value}
/-- A reader's block. -/
def RB (nV aV : Value) (w : World) (g : Nat) (t : ByteArray) (ln : Int) : Prop := w.heap[g]? = some (.cells #[.string t, .int .i64 ln, nV, aV] 66 (0, 0))
theorem RB.lt {w : World} {g : Nat} {t : ByteArray} {ln : Int} (h : RB nV aV w g t ln) : g < w.heap.size := by
  rcases Nat.lt_or_ge g w.heap.size with h' | h'
  · exact h'
  · simp [RB, Array.getElem?_eq_none h'] at h
theorem RB.c0 {w : World} {g : Nat} {t : ByteArray} {ln : Int} (h : RB nV aV w g t ln) : w.cell? ⟨g, 0, none⟩ = some (.string t) := by
  unfold RB at h; simp [World.cell?, h]
theorem RB.c1 {w : World} {g : Nat} {t : ByteArray} {ln : Int} (h : RB nV aV w g t ln) : w.cell? ⟨g, 1, none⟩ = some (.int .i64 ln) := by
  unfold RB at h; simp [World.cell?, h]
theorem RB.c2 {w : World} {g : Nat} {t : ByteArray} {ln : Int} (h : RB nV aV w g t ln) : w.cell? ⟨g, 2, none⟩ = some nV := by
  unfold RB at h; simp [World.cell?, h]
theorem RB.c3 {w : World} {g : Nat} {t : ByteArray} {ln : Int} (h : RB nV aV w g t ln) : w.cell? ⟨g, 3, none⟩ = some aV := by
  unfold RB at h; simp [World.cell?, h]
theorem RB.fr {w : World} {g : Nat} {t : ByteArray} {ln : Int} (h : RB nV aV w g t ln) (j : Nat) : w.frozen? ⟨g, j, none⟩ = false := by
  unfold RB at h; simp [World.frozen?, h]
theorem RB.set0 {w : World} {g : Nat} {t : ByteArray} {ln : Int} (h : RB nV aV w g t ln) (t' : ByteArray) : RB nV aV (w.setCell ⟨g, 0, none⟩ (.string t')) g t' ln := by
  unfold RB at h ⊢; simp [World.setCell, Array.getElem?_modify, h]
theorem RB.set1 {w : World} {g : Nat} {t : ByteArray} {ln : Int} (h : RB nV aV w g t ln) (ln' : Int) : RB nV aV (w.setCell ⟨g, 1, none⟩ (.int .i64 ln')) g t ln' := by
  unfold RB at h ⊢; simp [World.setCell, Array.getElem?_modify, h]
theorem RB.set2 {w : World} {g : Nat} {t : ByteArray} {ln : Int} (h : RB nV aV w g t ln) (v : Value) : RB v aV (w.setCell ⟨g, 2, none⟩ v) g t ln := by
  unfold RB at h ⊢; simp [World.setCell, Array.getElem?_modify, h]
theorem RB.set3 {w : World} {g : Nat} {t : ByteArray} {ln : Int} (h : RB nV aV w g t ln) (v : Value) : RB nV v (w.setCell ⟨g, 3, none⟩ v) g t ln := by
  unfold RB at h ⊢; simp [World.setCell, Array.getElem?_modify, h]
theorem RB.later {w w' : World} {g : Nat} {t : ByteArray} {ln : Int} (h : RB nV aV w g t ln) (b : Below w.heap.size w w') : RB nV aV w' g t ln := keep_bel b h
/-- A fault that is thrown. -/
def FP (ln er : Int) : PanicEntry := { v := .iface 63 (.agg #[.int .i64 ln, .int .i64 er]), recovered := false }
theorem check_ok (g : Nat) (er : Int) (w : World) : Calls Tryz.prog 51 #[.pointer (some ⟨g, 0, none⟩), .bool true, .int .i64 er] w fun e w' => e = .returned (.tuple #[]) ∧ w = w' := by
  go_enter Tryz.func51, Tryz.ntmps51
  go_wp2
  go_end0
  exact ⟨rfl, rfl⟩
theorem check_bad (g : Nat) (er : Int) (w : World) {t : ByteArray} {ln : Int} (h : RB nV aV w g t ln) : Calls Tryz.prog 51 #[.pointer (some ⟨g, 0, none⟩), .bool false, .int .i64 er] w fun e w' => e = .panicked [FP ln er] ∧ w = w' := by
  have c1 := h.c1
  clear h
  go_enter Tryz.func51, Tryz.ntmps51
  go_wp2
  exact ⟨rfl, rfl, rfl⟩
end Go.Proofs.YtdebedeebmmleaaGreatDoor
