/- The stable order of messages: plain mathematics. -/
import Derived.Test.YtdbnkeihnoglcaaU0
namespace Go.Proofs.Ytdbnkeihnoglcaa
set_option linter.unusedSimpArgs false
set_option linter.unusedVariables false
theorem ahead_asymm {a b : MG} (h : aheadM a b = true) : aheadM b a = false := by
  unfold aheadM at *
  simp only [Bool.or_eq_true, Bool.and_eq_true, decide_eq_true_eq, beq_iff_eq] at h
  rcases h with h | ⟨h, k⟩
  · have h1 : ¬ b.sq < a.sq := by omega
    have h2 : (b.sq == a.sq) = false := by rw [beq_eq_false_iff_ne]; omega
    simp [h1, h2]
  · rw [h, nlt_of_lt k]; simp
theorem ahead_irr (a : MG) : aheadM a a = false := by unfold aheadM; simp [lt_irr]
theorem nahead_trans {a b c : MG} (h1 : aheadM b a = false) (h2 : aheadM c b = false) : aheadM c a = false := by
  unfold aheadM at *
  simp only [Bool.or_eq_false_iff, Bool.and_eq_false_iff, decide_eq_false_iff_not, beq_eq_false_iff_ne] at *
  obtain ⟨a1, a2⟩ := h1
  obtain ⟨b1, b2⟩ := h2
  refine ⟨by omega, ?_⟩
  by_cases e : c.sq = a.sq
  · right
    have e1 : b.sq = a.sq := by omega
    have e2 : c.sq = b.sq := by omega
    exact nlt_trans (a2.resolve_left (fun h => h e1)) (b2.resolve_left (fun h => h e2))
  · exact .inl e
theorem ahead_trans {a b c : MG} (h1 : aheadM a b = true) (h2 : aheadM b c = true) : aheadM a c = true := by
  cases h : aheadM a c
  · have := nahead_trans h (ahead_asymm h1 : aheadM b a = false)
    rw [this] at h2; cases h2
  · rfl
theorem ahead_le {a b c : MG} (h1 : aheadM a b = true) (h2 : aheadM c b = false) : aheadM a c = true := by
  cases h : aheadM a c
  · have := nahead_trans (a := b) (b := c) (c := a) h2 h
    rw [this] at h1; cases h1
  · rfl
theorem le_ahead {a b c : MG} (h1 : aheadM b a = false) (h2 : aheadM b c = true) : aheadM a c = true := by
  cases h : aheadM a c
  · have := nahead_trans (a := c) (b := a) (c := b) h h1
    rw [this] at h2; cases h2
  · rfl
/-- Neither stands ahead of the other. -/
def eqv (a b : MG) : Bool := !aheadM a b && !aheadM b a
theorem eqv_self (a : MG) : eqv a a = true := by unfold eqv; simp [ahead_irr]
theorem eqv_iff {a b : MG} : eqv a b = true ↔ aheadM a b = false ∧ aheadM b a = false := by unfold eqv; simp
/-- Messages in order. -/
def Srt (L : List MG) : Prop := L.Pairwise fun p x => aheadM x p = false
theorem insK_le (m : MG) (xs : List MG) : ∀ k, insK m xs k ≤ k
  | 0 => Nat.le_refl _
  | k + 1 => by
    unfold insK
    split
    · split
      · exact Nat.le_trans (insK_le m xs k) (Nat.le_succ _)
      · exact Nat.le_refl _
    · exact Nat.le_refl _
theorem insK_above {m : MG} {xs : List MG} : ∀ {k i : Nat} {y : MG}, insK m xs k ≤ i → i < k → xs[i]? = some y → aheadM m y = true
  | 0, i, y, _, h, _ => by omega
  | k + 1, i, y, h1, h2, h3 => by
    unfold insK at h1
    split at h1
    · next z hz =>
      split at h1
      · next ha =>
        rcases (by omega : i = k ∨ i < k) with e | e
        · subst e; rw [hz] at h3; cases h3; exact ha
        · exact insK_above h1 e h3
      · omega
    · omega
theorem insK_below {m : MG} {xs : List MG} (hs : Srt xs) : ∀ {k i : Nat} {y : MG}, k ≤ xs.length → i < insK m xs k → xs[i]? = some y → aheadM m y = false
  | 0, i, y, _, h, _ => by unfold insK at h; omega
  | k + 1, i, y, hk, h, h3 => by
    have hz : xs[k]? = some (xs[k]'(by omega)) := List.getElem?_eq_getElem (by omega)
    cases ha : aheadM m (xs[k]'(by omega))
    · rw [insK_no hz ha] at h
      rcases (by omega : i = k ∨ i < k) with e | e
      · subst e; rw [hz] at h3; cases h3; exact ha
      · unfold Srt at hs
        rw [List.pairwise_iff_getElem] at hs
        obtain ⟨q1, q2⟩ := List.getElem?_eq_some_iff.1 h3
        have := hs i k q1 (by omega) e
        rw [q2] at this
        exact nahead_trans this ha
    · rw [insK_yes hz ha] at h
      exact insK_below hs (by omega) h h3
theorem take_mem {α : Type} {xs : List α} {k : Nat} {y : α} (h : y ∈ xs.take k) : ∃ i, i < k ∧ xs[i]? = some y := by
  obtain ⟨i, hi, e⟩ := List.mem_iff_getElem.1 h
  rw [List.length_take] at hi
  refine ⟨i, by omega, ?_⟩
  rw [List.getElem_take] at e
  rw [List.getElem?_eq_getElem (by omega), e]
theorem drop_mem {α : Type} {xs : List α} {k : Nat} {y : α} (h : y ∈ xs.drop k) : ∃ i, k ≤ i ∧ i < xs.length ∧ xs[i]? = some y := by
  obtain ⟨i, hi, e⟩ := List.mem_iff_getElem.1 h
  rw [List.length_drop] at hi
  refine ⟨k + i, by omega, by omega, ?_⟩
  rw [List.getElem_drop] at e
  rw [List.getElem?_eq_getElem (by omega), e]
theorem ins_above {m : MG} {xs : List MG} {y : MG} (h : y ∈ xs.drop (insK m xs xs.length)) : aheadM m y = true := by
  obtain ⟨i, h1, h2, h3⟩ := drop_mem h
  exact insK_above h1 h2 h3
theorem ins_below {m : MG} {xs : List MG} (hs : Srt xs) {y : MG} (h : y ∈ xs.take (insK m xs xs.length)) : aheadM m y = false := by
  obtain ⟨i, h1, h2⟩ := take_mem h
  exact insK_below hs (Nat.le_refl _) h1 h2
theorem srt_ins {m : MG} {xs : List MG} (hs : Srt xs) : Srt (insM m xs) := by
  have hsp : Srt (xs.take (insK m xs xs.length) ++ xs.drop (insK m xs xs.length)) := by rw [List.take_append_drop]; exact hs
  unfold Srt at hsp
  rw [List.pairwise_append] at hsp
  unfold insM Srt
  rw [List.append_assoc, List.pairwise_append]
  refine ⟨hsp.1, ?_, fun a ha b hb => ?_⟩
  · rw [List.singleton_append, List.pairwise_cons]
    exact ⟨fun b hb => ahead_asymm (ins_above hb), hsp.2.1⟩
  · rw [List.singleton_append] at hb
    rcases List.mem_cons.1 hb with e | hb
    · rw [e]; exact ins_below hs ha
    · exact hsp.2.2 a ha b hb
theorem filter_ins (z m : MG) (xs : List MG) : (insM m xs).filter (eqv z) = xs.filter (eqv z) ++ (if eqv z m then [m] else []) := by
  unfold insM
  rw [List.filter_append, List.filter_append]
  have e : xs.filter (eqv z) = (xs.take (insK m xs xs.length)).filter (eqv z) ++ (xs.drop (insK m xs xs.length)).filter (eqv z) := by rw [← List.filter_append, List.take_append_drop]
  rw [e]
  cases h : eqv z m
  · simp [h]
  · have hd : (xs.drop (insK m xs xs.length)).filter (eqv z) = [] := by
      rw [List.filter_eq_nil_iff]
      intro y hy
      have h1 := ins_above hy
      have h2 := eqv_iff.1 h
      intro h3
      have h4 := eqv_iff.1 h3
      rw [le_ahead (a := z) (b := m) h2.2 h1] at h4
      cases h4.1
    rw [hd]
    simp [h]
theorem srt_acc (ys : List MG) : ∀ {acc : List MG}, Srt acc → Srt (accM acc ys) := by
  induction ys with
  | nil => intro acc h; exact h
  | cons y ys ih => intro acc h; exact ih (srt_ins h)
theorem filter_acc (z : MG) (ys : List MG) : ∀ (acc : List MG), (accM acc ys).filter (eqv z) = acc.filter (eqv z) ++ ys.filter (eqv z) := by
  induction ys with
  | nil => intro acc; simp [accM]
  | cons y ys ih =>
    intro acc
    show (accM (insM y acc) ys).filter (eqv z) = _
    rw [ih, filter_ins, List.filter_cons]
    cases eqv z y <;> simp
/-- Messages in order, those alike as they stood. -/
def stab (L : List MG) : List MG := accM [] L
theorem srt_stab (L : List MG) : Srt (stab L) := srt_acc L List.Pairwise.nil
theorem stab_filter (z : MG) (L : List MG) : (stab L).filter (eqv z) = L.filter (eqv z) := by unfold stab; rw [filter_acc]; simp
theorem stab_len (L : List MG) : (stab L).length = L.length := by unfold stab; rw [accM_len]; simp
theorem mem_of_filter {R L : List MG} (h : ∀ z, R.filter (eqv z) = L.filter (eqv z)) {x : MG} (hx : x ∈ R) : x ∈ L := by
  have : x ∈ R.filter (eqv x) := List.mem_filter.2 ⟨hx, eqv_self x⟩
  rw [h x] at this
  exact (List.mem_filter.1 this).1
theorem stab_mem {L : List MG} {x : MG} (h : x ∈ stab L) : x ∈ L := mem_of_filter (fun z => stab_filter z L) h
theorem uniq {R : List MG} : ∀ {R2 : List MG}, Srt R → Srt R2 → (∀ z, R.filter (eqv z) = R2.filter (eqv z)) → R = R2 := by
  induction R with
  | nil =>
    intro R2 _ _ h
    cases R2 with
    | nil => rfl
    | cons y ys => have := mem_of_filter (fun z => (h z).symm) (x := y) List.mem_cons_self; cases this
  | cons x xs ih =>
    intro R2 h1 h2 h
    cases R2 with
    | nil => have := mem_of_filter h (x := x) List.mem_cons_self; cases this
    | cons y ys =>
      unfold Srt at h1 h2
      have hx : x ∈ y :: ys := mem_of_filter h List.mem_cons_self
      have hy : y ∈ x :: xs := mem_of_filter (fun z => (h z).symm) List.mem_cons_self
      rw [List.pairwise_cons] at h1 h2
      have exy : eqv x y = true := by
        refine eqv_iff.2 ⟨?_, ?_⟩
        · rcases List.mem_cons.1 hx with e | hx
          · rw [e]; exact ahead_irr _
          · exact h2.1 x hx
        · rcases List.mem_cons.1 hy with e | hy
          · rw [e]; exact ahead_irr _
          · exact h1.1 y hy
      have q := h x
      rw [List.filter_cons, List.filter_cons, eqv_self, exy] at q
      simp only [if_true] at q
      injection q with q1 q2
      subst q1
      congr 1
      refine ih h1.2 h2.2 (fun z => ?_)
      have qz := h z
      rw [List.filter_cons, List.filter_cons] at qz
      cases hz : eqv z x
      · simpa [hz] using qz
      · simp only [hz, if_true] at qz
        injection qz
theorem stab_of {R L : List MG} (h1 : Srt R) (h2 : ∀ z, R.filter (eqv z) = L.filter (eqv z)) : R = stab L :=
  uniq h1 (srt_stab L) (fun z => by rw [h2, stab_filter])
/-- Two rows in order, merged in two parts. -/
theorem merge_parts {U1 U2 V1 V2 : List MG} (hU : Srt (U1 ++ U2)) (hV : Srt (V1 ++ V2)) (h1 : ∀ x ∈ V1, ∀ y ∈ U2, aheadM x y = true) (h2 : ∀ x ∈ U1, ∀ y ∈ V2, aheadM y x = false) :
    stab (U1 ++ V1) ++ stab (U2 ++ V2) = stab ((U1 ++ U2) ++ (V1 ++ V2)) := by
  unfold Srt at hU hV
  rw [List.pairwise_append] at hU hV
  refine stab_of ?_ (fun z => ?_)
  · unfold Srt
    rw [List.pairwise_append]
    refine ⟨srt_stab _, srt_stab _, fun x hx y hy => ?_⟩
    rcases List.mem_append.1 (stab_mem hx) with hx | hx <;> rcases List.mem_append.1 (stab_mem hy) with hy | hy
    · exact hU.2.2 x hx y hy
    · exact h2 x hx y hy
    · exact ahead_asymm (h1 x hx y hy)
    · exact hV.2.2 x hx y hy
  · rw [List.filter_append, stab_filter, stab_filter]
    simp only [List.filter_append, List.append_assoc]
    congr 1
    rw [← List.append_assoc, ← List.append_assoc]
    congr 1
    cases hv : V1.filter (eqv z) with
    | nil => simp
    | cons x xs =>
      have hx := List.mem_filter.1 (hv ▸ List.mem_cons_self : x ∈ V1.filter (eqv z))
      have : U2.filter (eqv z) = [] := by
        rw [List.filter_eq_nil_iff]
        intro y hy h3
        have a1 := eqv_iff.1 hx.2
        have a2 := eqv_iff.1 h3
        have := h1 x hx.1 y hy
        rw [le_ahead (a := z) (b := x) a1.2 this] at a2
        cases a2.1
      rw [this]; simp
theorem stab_stab (M N : List MG) : stab (stab M ++ stab N) = stab (M ++ N) := by
  refine (stab_of (srt_stab _) (fun z => ?_))
  rw [stab_filter, List.filter_append, stab_filter, stab_filter, List.filter_append]
theorem stab_srt {L : List MG} (h : Srt L) : stab L = L := (stab_of h (fun _ => rfl)).symm
theorem ord_ahead (a b : MG) : decide (ordM a b < 0) = aheadM a b := by
  unfold ordM orI cmpI cmpS aheadM
  by_cases h : a.sq < b.sq
  · simp [h]
  · by_cases h2 : b.sq < a.sq
    · have h3 : (a.sq == b.sq) = false := by rw [beq_eq_false_iff_ne]; omega
      simp [h, h2, h3]
    · have h3 : a.sq = b.sq := by omega
      rw [h3]
      cases k : lt a.ky b.ky
      · cases k2 : lt b.ky a.ky <;> simp [k, k2]
      · simp [k]
end Go.Proofs.Ytdbnkeihnoglcaa
