/- The law EpochHolds: what was retired while a session was in. -/
import Derived.Test.YtlffigkjhhcohaaU2
namespace Go.Proofs.Ytlffigkjhhcohaa
set_option linter.unusedSimpArgs false
open Go.RowKit Go.Maps
set_option linter.unusedVariables false

section
variable {c c' lo N m : Nat} {S : Int → Option Int} {K : Nat → Prop} {b b' : RB} {w : World} {cs : Array Value}
theorem e_enter (h : ST c lo N K b b' w cs) (he : EQ c' S m b') (who : Int) : Calls Try.prog 13 #[.agg cs, .int .i64 who] w (DPost c lo N K b (enterR b' who) (askR b' who false) w) := by
  obtain ⟨M, A1, A2, k1, k2, m, S, h1, h2, h3, h4, hK⟩ := h
  refine (renter_any cs b' who w h2 he.ss.2).mono ?_
  rintro e w' ⟨cs', rfl, h5, h6⟩
  exact ⟨cs', rfl, ⟨M, A1, A2, k1, k2, m, S, h1.later h6, h5, h3, ⟨.inl rfl, .inl rfl⟩, fun g hg => ⟨Nat.lt_of_lt_of_le (hK g hg).1 h6.size, (hK g hg).2⟩⟩, h6⟩
theorem e_retire (h : ST c lo N K b b' w cs) (he : EQ c' S m b') (hc : c' ≤ 900) (x : Int) : Calls Try.prog 15 #[.agg cs, .int .i64 x] w (DBPost c lo N K b (retireR b' x) w) := by
  obtain ⟨M, A1, A2, k1, k2, m, S, h1, h2, h3, h4, hK⟩ := h
  refine (rretire_any cs b' x w (Lib.hid (finK h1.fin hK)) h2 he.now.1 (by have := he.now.2; omega) (by have := he.wl; omega) (by have := he.wl; have := he.al; omega)).mono ?_
  rintro e w' ⟨cs', rfl, h5, h6⟩
  exact ⟨cs', rfl, ⟨M, A1, A2, k1, k2, m, S, h1.later h6, h5, h3, ⟨.inl rfl, .inl rfl⟩, fun g hg => ⟨Nat.lt_of_lt_of_le (hK g hg).1 h6.size, (hK g hg).2⟩⟩, h6⟩
theorem e_ready (h : ST c lo N K b b' w cs) (he : EQ c' S m b') (hc : c' ≤ 900) : Calls Try.prog 18 #[.agg cs] w (DYPost c lo N K b (readyR b' (nR b')) (nR b') (b'.wl.take (nR b')) w) := by
  obtain ⟨M, A1, A2, k1, k2, m, S, h1, h2, h3, h4, hK⟩ := h
  refine (rready_any cs b' w (Lib.hid (finK h1.fin hK)) h2 (by have := he.wl; omega) he.al (nR b') he.nlt (nR_le b')).mono ?_
  rintro e w' ⟨cs', A, k, rfl, h5, h7, h6⟩
  exact ⟨cs', A, k, rfl, ⟨M, A1, A2, k1, k2, m, S, h1.later h6, h5, h3, h7, fun g hg => ⟨Nat.lt_of_lt_of_le (hK g hg).1 h6.size, (hK g hg).2⟩⟩, h6⟩
end
/-- Session sn is in, and (unless hp) what is mk was retired since it entered. -/
def InvH (sn : Nat) (mk : Int) (hp : Bool) (b : RB) : Prop := b.inn sn = true ∧ (hp = false → ∀ (j : Nat) (a : Int), b.wl[j]? = some mk → b.al[j]? = some a → b.said sn ≤ a)
theorem play_held {d0 d1 d2 : Nat → Int} {x : Int} (k : Nat) : x ∈ (playR d0 d1 d2 (newB 4) k).wl → heldB d0 d2 x k = true := by
  induction k with
  | zero => intro h; cases h
  | succ k ih =>
    intro h
    have hs : x ∈ (stepR (playR d0 d1 d2 (newB 4) k) (d0 k) (d1 k) (d2 k)).wl := h
    generalize playR d0 d1 d2 (newB 4) k = b at *
    have key : x ∈ b.wl ∨ (d0 k = 2 ∧ d2 k = x) := by
      unfold stepR at hs
      split at hs
      · unfold enterR at hs; split at hs <;> exact .inl hs
      · split at hs
        · unfold leaveR at hs; split at hs <;> exact .inl hs
        · split at hs
          · rename_i e
            have hs2 : x ∈ b.wl ++ [d2 k] := hs
            rcases List.mem_append.1 hs2 with h | h
            · exact .inl h
            · exact .inr ⟨e, by have := List.mem_singleton.1 h; exact this.symm⟩
          · split at hs
            · have hs2 : x ∈ b.wl.drop (nR b) := hs
              exact .inl (List.mem_of_mem_drop hs2)
            · exact .inl hs
    rcases key with h | ⟨h1, h2⟩
    · simp [heldB, ih h]
    · simp [heldB, h1, h2]
theorem InvH.start {d0 d1 d2 : Nat → Int} {k sn c m : Nat} {mk : Int} {S : Int → Option Int} (hs : 1 ≤ sn ∧ sn ≤ 4) (he : EQ c S m (enterR (playR d0 d1 d2 (newB 4) k) sn)) : InvH sn mk (heldB d0 d2 mk k) (retireR (enterR (playR d0 d1 d2 (newB 4) k) sn) mk) := by
  have hI : InvS (playR d0 d1 d2 (newB 4) k) := InvS.new.play d0 d1 d2 k
  have hm := play_held (d0 := d0) (d1 := d1) (d2 := d2) (x := mk) k
  generalize playR d0 d1 d2 (newB 4) k = b at *
  have hwl : (enterR b sn).wl = b.wl := by unfold enterR; split <;> rfl
  have hin : (enterR b sn).inn sn = true := by
    have h4 := ask4 hI hs.1 hs.2 false
    unfold enterR
    rw [h4]
    cases hb : b.inn sn
    · simp [enterB]
    · simp [hb]
  refine ⟨hin, fun hp j a h1 h2 => ?_⟩
  have hal := he.al
  have hsd := he.said sn hs.1 (by omega) hin
  have h1' : ((enterR b sn).wl ++ [mk])[j]? = some mk := h1
  have h2' : ((enterR b sn).al ++ [(enterR b sn).now])[j]? = some a := h2
  show (enterR b sn).said sn ≤ a
  rw [List.getElem?_append] at h1' h2'
  by_cases hlt : j < (enterR b sn).wl.length
  · rw [if_pos hlt] at h1'
    have hmem : mk ∈ b.wl := by rw [← hwl]; exact List.mem_of_getElem? h1'
    rw [hm hmem] at hp; cases hp
  · rw [if_neg (by omega)] at h2'
    have hj : j - (enterR b sn).al.length = 0 := by
      rcases Nat.eq_zero_or_pos (j - (enterR b sn).al.length) with h | h
      · exact h
      · rw [List.getElem?_eq_none (by simp; omega)] at h2'; cases h2'
    rw [hj] at h2'
    simp at h2'
    omega
theorem InvH.ready {sn : Nat} {mk : Int} {hp : Bool} {b : RB} (h : InvH sn mk hp b) (n : Nat) : InvH sn mk hp (readyR b n) := by
  refine ⟨h.1, fun e j a h1 h2 => ?_⟩
  have h1' : (b.wl.drop n)[j]? = some mk := h1
  have h2' : (b.al.drop n)[j]? = some a := h2
  rw [List.getElem?_drop] at h1' h2'
  exact h.2 e _ _ h1' h2'
theorem InvH.step {sn : Nat} {mk : Int} {hp : Bool} {b : RB} (h : InvH sn mk hp b) (hal : b.al.length = b.wl.length) {d who n : Int} (n1 : ¬ (d = 1 ∧ who = (sn : Int))) (n2 : ¬ (d = 2 ∧ n = mk)) : InvH sn mk hp (stepR b d who n) := by
  unfold stepR
  split
  · unfold enterR
    split
    · rename_i ha
      obtain ⟨_, _, h3⟩ := ask_range ha
      have hne : ¬ sn = who.toNat := fun e => by rw [← e, h.1] at h3; cases h3
      refine ⟨by simp [enterB, hne, h.1], fun e j a h1 h2 => ?_⟩
      have hs : (enterB b who.toNat).said sn = b.said sn := by simp [enterB, hne]
      rw [hs]
      exact h.2 e j a h1 h2
    · exact h
  · split
    · rename_i e1
      unfold leaveR
      split
      · rename_i ha
        obtain ⟨h3, _, _⟩ := ask_range ha
        have hne : ¬ sn = who.toNat := fun e => n1 ⟨e1, by omega⟩
        exact ⟨by simp [leaveB, hne, h.1], h.2⟩
      · exact h
    · split
      · rename_i e2
        refine ⟨h.1, fun e j a h1 h2 => ?_⟩
        have h1' : (b.wl ++ [n])[j]? = some mk := h1
        have h2' : (b.al ++ [b.now])[j]? = some a := h2
        rw [List.getElem?_append] at h1' h2'
        by_cases hlt : j < b.wl.length
        · rw [if_pos hlt] at h1'
          rw [if_pos (by omega)] at h2'
          exact h.2 e j a h1' h2'
        · rw [if_neg hlt] at h1'
          have hj : j - b.wl.length = 0 := by
            rcases Nat.eq_zero_or_pos (j - b.wl.length) with h | h
            · exact h
            · rw [List.getElem?_eq_none (by simp; omega)] at h1'; cases h1'
          rw [hj] at h1'
          simp at h1'
          exact absurd ⟨e2, h1'⟩ n2
      · split
        · exact h.ready _
        · exact h
theorem InvH.not_ready {sn c m : Nat} {mk : Int} {S : Int → Option Int} {b : RB} (h : InvH sn mk false b) (he : EQ c S m b) (hs : 1 ≤ sn ∧ sn ≤ 4) {j : Nat} (hj : j < nR b) : ¬ (b.wl.take (nR b)).getD j 0 = mk := by
  intro e
  have h1 := nR_le b
  have h2 := he.al
  have hja : j < b.al.length := by omega
  have hjw : j < b.wl.length := by omega
  have h3 := (he.nlt j hja).2 hj
  have h4 := ((least_iff b 64 (leastR b 64)).1 (Int.le_refl _)).2 sn hs.1 (by omega) h.1
  have e2 : b.wl[j]? = some mk := by
    rw [List.getD_eq_getElem?_getD, List.getElem?_take, if_pos hj, List.getElem?_eq_getElem hjw] at e
    rw [List.getElem?_eq_getElem hjw]
    exact congrArg some e
  have h5 := h.2 rfl j _ e2 (List.getElem?_eq_getElem hja)
  omega
end Go.Proofs.Ytlffigkjhhcohaa
