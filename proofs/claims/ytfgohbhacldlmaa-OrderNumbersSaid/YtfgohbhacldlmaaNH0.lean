/- Maps of numbers: what the law of numbers needs of lists. -/
import Derived.Test.YtfgohbhacldlmaaNG0
namespace Go.Proofs.Ytfgohbhacldlmaa.N
set_option linter.unusedSimpArgs false
set_option linter.unusedVariables false
abbrev xS : ByteArray := ⟨#[120]⟩
abbrev NL := List (Int × ByteArray)
theorem put_no {L : NL} (hs : Srt ltI L) (k : Int) (v : ByteArray) (h : atk ltI k L = []) : (putL ltI k v L).length = L.length + 1 := by
  have := congrArg List.length (srt_parts linI hs k).1
  rw [h] at this
  simp [putL] at *; omega
theorem put_yes {L : NL} (hs : Srt ltI L) (k : Int) (v : ByteArray) (h : atk ltI k L ≠ []) : (putL ltI k v L).length = L.length := by
  have h1 := congrArg List.length (srt_parts linI hs k).1
  rcases (srt_parts linI hs k).2 with h2 | ⟨u, h2⟩
  · exact absurd h2 h
  · rw [h2] at h1
    simp [putL] at *; omega
theorem put_mem (k : Int) (v : ByteArray) (L : NL) : (k, v) ∈ putL ltI k v L := by simp [putL]
theorem put_has {L : NL} {y : Int} (k : Int) (h : (y, xS) ∈ L) : (y, xS) ∈ putL ltI k xS L := by
  rcases linI.tri y k with c | c | c
  · exact List.mem_append_left _ (List.mem_filter.2 ⟨h, c⟩)
  · subst c; exact put_mem _ _ _
  · exact List.mem_append_right _ (List.mem_cons_of_mem _ (List.mem_filter.2 ⟨h, c⟩))
theorem put_all {L : NL} (k : Int) (h : ∀ p ∈ L, p.2 = xS) : ∀ p ∈ putL ltI k xS L, p.2 = xS := by
  intro p hp
  rcases List.mem_append.1 hp with hp | hp
  · exact h p (List.mem_filter.1 hp).1
  · rcases List.mem_cons.1 hp with rfl | hp
    · rfl
    · exact h p (List.mem_filter.1 hp).1
theorem get_has {L : NL} (hs : Srt ltI L) {y : Int} (h : (y, xS) ∈ L) : getV y L = .tuple #[.string xS, .bool true] := by
  have hm : (y, xS) ∈ atk ltI y L := List.mem_filter.2 ⟨h, by simp [linI.irr]⟩
  rcases (srt_parts linI hs y).2 with h2 | ⟨u, h2⟩
  · rw [h2] at hm; cases hm
  · rw [h2] at hm
    simp at hm
    subst hm
    unfold getV; rw [h2]
/-- The keys rise, and each value is what was put. -/
def okN (L : NL) : Prop := Srt ltI L ∧ ∀ p ∈ L, p.2 = xS
theorem okN_pre {L pre : NL} (h : okN L) (hp : pre <+: L) : okN pre := by
  obtain ⟨r, rfl⟩ := hp
  exact ⟨h.1.left, fun p hp => h.2 p (List.mem_append_left _ hp)⟩
/-- The last key so far. -/
def lastK (pre : NL) : Int := match pre.getLast? with | some x => x.1 | none => 0
theorem lastK_snoc (pre : NL) (x : Int × ByteArray) : lastK (pre ++ [x]) = x.1 := by simp [lastK]
theorem okN_snoc {pre : NL} {k : Int} {v : ByteArray} (h : okN pre) (hv : v = xS) (hk : pre = [] ∨ lastK pre < k) : okN (pre ++ [(k, v)]) := by
  refine ⟨List.pairwise_append.2 ⟨h.1, by simp, ?_⟩, ?_⟩
  · intro a ha b hb
    simp at hb; subst hb
    rcases hk with rfl | hk
    · cases ha
    · obtain ⟨p, y, rfl⟩ : ∃ p y, pre = p ++ [y] := by
        rcases List.eq_nil_or_concat pre with rfl | ⟨p, y, e⟩
        · cases ha
        · exact ⟨p, y, by simpa using e⟩
      rw [lastK_snoc] at hk
      rcases List.mem_append.1 ha with ha | ha
      · have := (List.pairwise_append.1 h.1).2.2 a ha y (by simp)
        simp [ltI] at *; omega
      · simp at ha; subst ha
        simpa [ltI] using hk
  · intro p hp
    rcases List.mem_append.1 hp with hp | hp
    · exact h.2 p hp
    · simp at hp; subst hp; exact hv
theorem okN_bad {pre : NL} {k : Int} {v : ByteArray} (h : okN (pre ++ [(k, v)])) : v = xS ∧ (pre = [] ∨ lastK pre < k) := by
  refine ⟨h.2 (k, v) (by simp), ?_⟩
  rcases List.eq_nil_or_concat pre with rfl | ⟨p, y, e⟩
  · exact .inl rfl
  · right
    have e2 : pre = p ++ [y] := by simpa using e
    subst e2
    rw [lastK_snoc]
    have := (List.pairwise_append.1 h.1).2.2 y (by simp) (k, v) (by simp)
    simpa [ltI] using this
end Go.Proofs.Ytfgohbhacldlmaa.N
