/- Both books say the same: the numbers. -/
import Derived.Test.YtlffigkjhhcohaaR4
import Derived.Test.YtlffigkjhhcohaaR3
import Derived.Test.YtlffigkjhhcohaaP6
namespace Go.Proofs.Ytlffigkjhhcohaa
set_option linter.unusedSimpArgs false
open Go.RowKit Go.Maps
set_option linter.unusedVariables false

/-- What both books share: c bounds what they hold. -/
structure EQ (c : Nat) (S : Int → Option Int) (m : Nat) (b : RB) : Prop where
  ss : 1 ≤ b.ss ∧ b.ss ≤ 64
  now : 0 ≤ b.now ∧ b.now ≤ c
  m : m ≤ c
  wl : b.wl.length ≤ c
  al : b.al.length = b.wl.length
  up : ∀ i j (hi : i < b.al.length) (hj : j < b.al.length), i ≤ j → b.al[i] ≤ b.al[j]
  lt : ∀ j (hj : j < b.al.length), b.al[j] < b.now
  inn : ∀ x, S x = if 1 ≤ x ∧ x ≤ 64 ∧ b.inn x.toNat = true then some (b.said x.toNat) else none
  said : ∀ k, 1 ≤ k → k ≤ 64 → b.inn k = true → b.said k ≤ b.now
theorem EQ.more {c c' : Nat} {S : Int → Option Int} {m : Nat} {b : RB} (h : EQ c S m b) (hc : c ≤ c') : EQ c' S m b :=
  ⟨h.ss, ⟨h.now.1, by have := h.now.2; omega⟩, by have := h.m; omega, by have := h.wl; omega, h.al, h.up, h.lt, h.inn, h.said⟩
theorem least_iff (b : RB) (k : Nat) (G : Int) : G ≤ leastR b k ↔ (G ≤ b.now ∧ ∀ i, 1 ≤ i → i ≤ k → b.inn i = true → G ≤ b.said i) := by
  induction k with
  | zero => exact ⟨fun h => ⟨h, fun i h1 h2 => by omega⟩, fun h => h.1⟩
  | succ k ih =>
    have e : leastR b (k + 1) = if b.inn (k + 1) = true ∧ b.said (k + 1) < leastR b k then b.said (k + 1) else leastR b k := rfl
    rw [e]
    constructor
    · intro h
      have h2 : G ≤ leastR b k := by split at h <;> omega
      refine ⟨(ih.1 h2).1, fun i h3 h4 h5 => ?_⟩
      by_cases c : i = k + 1
      · subst c
        split at h
        · exact h
        · rename_i hn
          have : ¬ b.said (k + 1) < leastR b k := fun hh => hn ⟨h5, hh⟩
          omega
      · exact (ih.1 h2).2 i h3 (by omega) h5
    · rintro ⟨h1, h2⟩
      have h3 := ih.2 ⟨h1, fun i a b' c => h2 i a (by omega) c⟩
      split
      · rename_i hn; exact h2 _ (by omega) (Nat.le_refl _) hn.1
      · exact h3
theorem EQ.least {c : Nat} {S : Int → Option Int} {m : Nat} {b : RB} (h : EQ c S m b) : LeastP S b.now (leastR b 64) := by
  intro G
  rw [least_iff]
  constructor
  · rintro ⟨h1, h2⟩
    refine ⟨h1, fun x v hv => ?_⟩
    rw [h.inn x] at hv
    split at hv
    · rename_i hx
      cases hv
      exact h2 _ (by omega) (by omega) hx.2.2
    · cases hv
  · rintro ⟨h1, h2⟩
    refine ⟨h1, fun i a b' hi => ?_⟩
    refine h2 (i : Int) _ ?_
    rw [h.inn, if_pos ⟨by omega, by omega, by rw [Int.toNat_natCast]; exact hi⟩, Int.toNat_natCast]
theorem EQ.in_ {c : Nat} {S : Int → Option Int} {m : Nat} {b : RB} (h : EQ c S m b) (x : Int) : (S x).isSome = inR b x := by
  rw [h.inn x]
  unfold inR
  by_cases c1 : 1 ≤ x <;> by_cases c2 : x ≤ 64 <;> cases hb : b.inn x.toNat <;> simp [c1, c2]
theorem EQ.may {c : Nat} {S : Int → Option Int} {m : Nat} {b : RB} (h : EQ c S m b) (who : Int) (f : Bool) : mayP b.ss S who f = askR b who f := by
  unfold mayP askR
  rw [h.in_]
  by_cases c1 : who < 1
  · rw [if_pos c1, if_pos c1]
  · rw [if_neg c1, if_neg c1]
    by_cases c2 : b.ss < who
    · rw [if_pos c2, if_pos c2]
    · rw [if_neg c2, if_neg c2]
      have h64 := h.ss.2
      have : inR b who = b.inn who.toNat := by unfold inR; simp; intro _; omega
      rw [this]
theorem ask_range {b : RB} {who : Int} {f : Bool} (h : askR b who f = 0) : 1 ≤ who ∧ who ≤ b.ss ∧ b.inn who.toNat = f := by
  unfold askR at h
  by_cases c1 : who < 1
  · rw [if_pos c1] at h; omega
  · rw [if_neg c1] at h
    by_cases c2 : b.ss < who
    · rw [if_pos c2] at h; omega
    · rw [if_neg c2] at h
      by_cases c3 : b.inn who.toNat = f
      · exact ⟨by omega, by omega, c3⟩
      · rw [if_neg c3] at h; omega
theorem EQ.enter {c : Nat} {S : Int → Option Int} {m : Nat} {b : RB} (h : EQ c S m b) {who : Int} (ha : askR b who false = 0) : EQ (c + 1) (entS S who b.now) (m + 1) (enterB b who.toNat) := by
  obtain ⟨h1, h2, h3⟩ := ask_range ha
  have h64 := h.ss.2
  have hh := h.more (Nat.le_add_right c 1)
  refine ⟨hh.ss, hh.now, by have := h.m; omega, hh.wl, hh.al, hh.up, hh.lt, fun x => ?_, fun k a b' hk => ?_⟩
  · by_cases e : x = who
    · subst e
      have e1 : (enterB b x.toNat).inn x.toNat = true := by simp [enterB]
      have e2 : (enterB b x.toNat).said x.toNat = b.now := by simp [enterB]
      rw [if_pos ⟨h1, by omega, e1⟩, e2]; simp [entS]
    · have e0 : entS S who b.now x = S x := by simp [entS, e]
      rw [e0, h.inn x]
      by_cases c1 : 1 ≤ x
      · have : ¬ x.toNat = who.toNat := by omega
        have e1 : (enterB b who.toNat).inn x.toNat = b.inn x.toNat := by simp [enterB, this]
        have e2 : (enterB b who.toNat).said x.toNat = b.said x.toNat := by simp [enterB, this]
        rw [e1, e2]
      · rw [if_neg (fun h => c1 h.1), if_neg (fun h => c1 h.1)]
  · simp only [enterB] at hk ⊢
    by_cases e : k = who.toNat
    · rw [if_pos e]; exact Int.le_refl _
    · rw [if_neg e] at hk ⊢; exact h.said k a b' hk
theorem EQ.leave {c : Nat} {S : Int → Option Int} {m : Nat} {b : RB} (h : EQ c S m b) {who : Int} (ha : askR b who true = 0) : EQ c (leaS S who) m (leaveB b who.toNat) := by
  obtain ⟨h1, h2, h3⟩ := ask_range ha
  have h64 := h.ss.2
  refine ⟨h.ss, h.now, h.m, h.wl, h.al, h.up, h.lt, fun x => ?_, fun k a b' hk => ?_⟩
  · by_cases e : x = who
    · subst e
      have e1 : (leaveB b x.toNat).inn x.toNat = false := by simp [leaveB]
      rw [if_neg (fun h => by have := h.2.2; rw [e1] at this; cases this)]; simp [leaS]
    · have e0 : leaS S who x = S x := by simp [leaS, e]
      rw [e0, h.inn x]
      by_cases c1 : 1 ≤ x
      · have : ¬ x.toNat = who.toNat := by omega
        have e1 : (leaveB b who.toNat).inn x.toNat = b.inn x.toNat := by simp [leaveB, this]
        have e2 : (leaveB b who.toNat).said x.toNat = b.said x.toNat := rfl
        rw [e1, e2]
      · rw [if_neg (fun h => c1 h.1), if_neg (fun h => c1 h.1)]
  · simp only [leaveB] at hk ⊢
    by_cases e : k = who.toNat
    · rw [if_pos e] at hk; cases hk
    · rw [if_neg e] at hk; exact h.said k a b' hk
theorem EQ.retire {c : Nat} {S : Int → Option Int} {m : Nat} {b : RB} (h : EQ c S m b) (x : Int) : EQ (c + 1) S m { b with now := b.now + 1, wl := b.wl ++ [x], al := b.al ++ [b.now] } := by
  have hh := h.more (Nat.le_add_right c 1)
  refine ⟨hh.ss, ⟨by have := h.now.1; show 0 ≤ b.now + 1; omega, by have := h.now.2; show b.now + 1 ≤ ((c + 1 : Nat) : Int); omega⟩, hh.m, by have := h.wl; simp; omega, by have := h.al; simp; omega, fun i j hi hj hij => ?_, fun j hj => ?_, hh.inn, fun k a b' hk => by have := h.said k a b' hk; show b.said k ≤ b.now + 1; omega⟩
  · simp only [List.length_append, List.length_cons, List.length_nil] at hi hj
    rw [List.getElem_append, List.getElem_append]
    split <;> split
    · exact h.up i j _ _ hij
    · rename_i a b'
      simp only [List.getElem_singleton]
      have := h.lt i a
      omega
    · omega
    · simp
  · simp only [List.length_append, List.length_cons, List.length_nil] at hj
    show (b.al ++ [b.now])[j] < b.now + 1
    rw [List.getElem_append]
    split
    · rename_i a
      have := h.lt j a
      omega
    · simp only [List.getElem_singleton]; omega
/-- How many are ready. -/
def nR (b : RB) : Nat := b.al.findIdx (fun a => decide (leastR b 64 ≤ a))
theorem nR_le (b : RB) : nR b ≤ b.al.length := List.findIdx_le_length
theorem EQ.nlt {c : Nat} {S : Int → Option Int} {m : Nat} {b : RB} (h : EQ c S m b) : ∀ j (hj : j < b.al.length), b.al[j] < leastR b 64 ↔ j < nR b := by
  intro j hj
  constructor
  · intro hlt
    rcases Nat.lt_or_ge j (nR b) with h1 | h1
    · exact h1
    · exfalso
      have hn : nR b < b.al.length := by omega
      have h2 : decide (leastR b 64 ≤ b.al[nR b]) = true := List.findIdx_getElem (p := fun a => decide (leastR b 64 ≤ a)) (w := hn)
      have h3 := of_decide_eq_true h2
      have h4 := h.up (nR b) j hn hj h1
      omega
  · intro hlt
    have h2 : ¬ decide (leastR b 64 ≤ b.al[j]) = true := by
      have := List.not_of_lt_findIdx (p := fun a => decide (leastR b 64 ≤ a)) hlt
      simpa using this
    simp at h2
    omega
theorem EQ.readyN {c : Nat} {S : Int → Option Int} {m : Nat} {b : RB} (h : EQ c S m b) : ReadyN b.al (leastR b 64) (nR b) := by
  refine ⟨nR_le b, fun j hj hn => (h.nlt j hj).2 hn, fun hn hlt => ?_⟩
  have := (h.nlt _ hn).1 hlt
  omega
theorem EQ.ready {c : Nat} {S : Int → Option Int} {m : Nat} {b : RB} (h : EQ c S m b) (n : Nat) : EQ c S m { b with wl := b.wl.drop n, al := b.al.drop n } := by
  refine ⟨h.ss, h.now, h.m, by have := h.wl; simp; omega, by have := h.al; simp; omega, fun i j hi hj hij => ?_, fun j hj => ?_, h.inn, h.said⟩
  · simp only [List.length_drop] at hi hj
    rw [List.getElem_drop, List.getElem_drop]
    exact h.up _ _ _ _ (by omega)
  · simp only [List.length_drop] at hj
    show (b.al.drop n)[j] < b.now
    rw [List.getElem_drop]
    exact h.lt _ _
end Go.Proofs.Ytlffigkjhhcohaa
