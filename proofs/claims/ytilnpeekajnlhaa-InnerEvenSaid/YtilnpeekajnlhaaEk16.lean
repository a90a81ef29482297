/- Texts of the proof, one behind the other. -/
import Derived.Test.YtilnpeekajnlhaaEk10
import Derived.Test.YtilnpeekajnlhaaEk15
import Derived.Test.YtilnpeekajnlhaaEk02
set_option linter.unusedVariables false
set_option linter.unusedSimpArgs false
namespace Go.Proofs.Ytilnpeekajnlhaa
theorem ahead_asymm {a b : MG} (h : aheadM a b = true) : aheadM b a = false := by
  unfold aheadM at *
  simp only [Bool.or_eq_true, Bool.and_eq_true, decide_eq_true_eq, beq_iff_eq] at h
  rcases h with h | ⟨h, k⟩
  · have h1 : ¬ b.sq < a.sq := by omega
    have h2 : (b.sq == a.sq) = false := by rw [beq_eq_false_iff_ne]; omega
    simp [h1, h2]
  · rw [h, nlt_of_lt k]; simp
theorem ahead_irr (a : MG) : aheadM a a = false := by unfold aheadM; simp [lt_irr]
theorem nahead_trans {a b c : MG} (h1 : aheadM b a = false) (h2 : aheadM c b = false) : aheadM c a = false := by
  unfold aheadM at *
  simp only [Bool.or_eq_false_iff, Bool.and_eq_false_iff, decide_eq_false_iff_not, beq_eq_false_iff_ne] at *
  obtain ⟨a1, a2⟩ := h1
  obtain ⟨b1, b2⟩ := h2
  refine ⟨by omega, ?_⟩
  by_cases e : c.sq = a.sq
  · right
    have e1 : b.sq = a.sq := by omega
    have e2 : c.sq = b.sq := by omega
    exact nlt_trans (a2.resolve_left (fun h => h e1)) (b2.resolve_left (fun h => h e2))
  · exact .inl e
theorem ahead_trans {a b c : MG} (h1 : aheadM a b = true) (h2 : aheadM b c = true) : aheadM a c = true := by
  cases h : aheadM a c
  · have := nahead_trans h (ahead_asymm h1 : aheadM b a = false)
    rw [this] at h2; cases h2
  · rfl
theorem ahead_le {a b c : MG} (h1 : aheadM a b = true) (h2 : aheadM c b = false) : aheadM a c = true := by
  cases h : aheadM a c
  · have := nahead_trans (a := b) (b := c) (c := a) h2 h
    rw [this] at h1; cases h1
  · rfl
theorem le_ahead {a b c : MG} (h1 : aheadM b a = false) (h2 : aheadM b c = true) : aheadM a c = true := by
  cases h : aheadM a c
  · have := nahead_trans (a := c) (b := a) (c := b) h h1
    rw [this] at h2; cases h2
  · rfl
/-- Neither stands ahead of the other. -/
def eqv (a b : MG) : Bool := !aheadM a b && !aheadM b a
theorem eqv_self (a : MG) : eqv a a = true := by unfold eqv; simp [ahead_irr]
theorem eqv_iff {a b : MG} : eqv a b = true ↔ aheadM a b = false ∧ aheadM b a = false := by unfold eqv; simp
/-- Messages in order. -/
def Srt (L : List MG) : Prop := L.Pairwise fun p x => aheadM x p = false
theorem insK_le (m : MG) (xs : List MG) : ∀ k, insK m xs k ≤ k
  | 0 => Nat.le_refl _
  | k + 1 => by
    unfold insK
    split
    · split
      · exact Nat.le_trans (insK_le m xs k) (Nat.le_succ _)
      · exact Nat.le_refl _
    · exact Nat.le_refl _
theorem insK_above {m : MG} {xs : List MG} : ∀ {k i : Nat} {y : MG}, insK m xs k ≤ i → i < k → xs[i]? = some y → aheadM m y = true
  | 0, i, y, _, h, _ => by omega
  | k + 1, i, y, h1, h2, h3 => by
    unfold insK at h1
    split at h1
    · next z hz =>
      split at h1
      · next ha =>
        rcases (by omega : i = k ∨ i < k) with e | e
        · subst e; rw [hz] at h3; cases h3; exact ha
        · exact insK_above h1 e h3
      · omega
    · omega
theorem insK_below {m : MG} {xs : List MG} (hs : Srt xs) : ∀ {k i : Nat} {y : MG}, k ≤ xs.length → i < insK m xs k → xs[i]? = some y → aheadM m y = false
  | 0, i, y, _, h, _ => by unfold insK at h; omega
  | k + 1, i, y, hk, h, h3 => by
    have hz : xs[k]? = some (xs[k]'(by omega)) := List.getElem?_eq_getElem (by omega)
    cases ha : aheadM m (xs[k]'(by omega))
    · rw [insK_no hz ha] at h
      rcases (by omega : i = k ∨ i < k) with e | e
      · subst e; rw [hz] at h3; cases h3; exact ha
      · unfold Srt at hs
        rw [List.pairwise_iff_getElem] at hs
        obtain ⟨q1, q2⟩ := List.getElem?_eq_some_iff.1 h3
        have := hs i k q1 (by omega) e
        rw [q2] at this
        exact nahead_trans this ha
    · rw [insK_yes hz ha] at h
      exact insK_below hs (by omega) h h3
theorem take_mem {α : Type} {xs : List α} {k : Nat} {y : α} (h : y ∈ xs.take k) : ∃ i, i < k ∧ xs[i]? = some y := by
  obtain ⟨i, hi, e⟩ := List.mem_iff_getElem.1 h
  rw [List.length_take] at hi
  refine ⟨i, by omega, ?_⟩
  rw [List.getElem_take] at e
  rw [List.getElem?_eq_getElem (by omega), e]
theorem drop_mem {α : Type} {xs : List α} {k : Nat} {y : α} (h : y ∈ xs.drop k) : ∃ i, k ≤ i ∧ i < xs.length ∧ xs[i]? = some y := by
  obtain ⟨i, hi, e⟩ := List.mem_iff_getElem.1 h
  rw [List.length_drop] at hi
  refine ⟨k + i, by omega, by omega, ?_⟩
  rw [List.getElem_drop] at e
  rw [List.getElem?_eq_getElem (by omega), e]
theorem ins_above {m : MG} {xs : List MG} {y : MG} (h : y ∈ xs.drop (insK m xs xs.length)) : aheadM m y = true := by
  obtain ⟨i, h1, h2, h3⟩ := drop_mem h
  exact insK_above h1 h2 h3
theorem ins_below {m : MG} {xs : List MG} (hs : Srt xs) {y : MG} (h : y ∈ xs.take (insK m xs xs.length)) : aheadM m y = false := by
  obtain ⟨i, h1, h2⟩ := take_mem h
  exact insK_below hs (Nat.le_refl _) h1 h2
theorem srt_ins {m : MG} {xs : List MG} (hs : Srt xs) : Srt (insM m xs) := by
  have hsp : Srt (xs.take (insK m xs xs.length) ++ xs.drop (insK m xs xs.length)) := by rw [List.take_append_drop]; exact hs
  unfold Srt at hsp
  rw [List.pairwise_append] at hsp
  unfold insM Srt
  rw [List.append_assoc, List.pairwise_append]
  refine ⟨hsp.1, ?_, fun a ha b hb => ?_⟩
  · rw [List.singleton_append, List.pairwise_cons]
    exact ⟨fun b hb => ahead_asymm (ins_above hb), hsp.2.1⟩
  · rw [List.singleton_append] at hb
    rcases List.mem_cons.1 hb with e | hb
    · rw [e]; exact ins_below hs ha
    · exact hsp.2.2 a ha b hb
theorem filter_ins (z m : MG) (xs : List MG) : (insM m xs).filter (eqv z) = xs.filter (eqv z) ++ (if eqv z m then [m] else []) := by
  unfold insM
  rw [List.filter_append, List.filter_append]
  have e : xs.filter (eqv z) = (xs.take (insK m xs xs.length)).filter (eqv z) ++ (xs.drop (insK m xs xs.length)).filter (eqv z) := by rw [← List.filter_append, List.take_append_drop]
  rw [e]
  cases h : eqv z m
  · simp [h]
  · have hd : (xs.drop (insK m xs xs.length)).filter (eqv z) = [] := by
      rw [List.filter_eq_nil_iff]
      intro y hy
      have h1 := ins_above hy
      have h2 := eqv_iff.1 h
      intro h3
      have h4 := eqv_iff.1 h3
      rw [le_ahead (a := z) (b := m) h2.2 h1] at h4
      cases h4.1
    rw [hd]
    simp [h]
theorem srt_acc (ys : List MG) : ∀ {acc : List MG}, Srt acc → Srt (accM acc ys) := by
  induction ys with
  | nil => intro acc h; exact h
  | cons y ys ih => intro acc h; exact ih (srt_ins h)
theorem filter_acc (z : MG) (ys : List MG) : ∀ (acc : List MG), (accM acc ys).filter (eqv z) = acc.filter (eqv z) ++ ys.filter (eqv z) := by
  induction ys with
  | nil => intro acc; simp [accM]
  | cons y ys ih =>
    intro acc
    show (accM (insM y acc) ys).filter (eqv z) = _
    rw [ih, filter_ins, List.filter_cons]
    cases eqv z y <;> simp
/-- Messages in order, those alike as they stood. -/
def stab (L : List MG) : List MG := accM [] L
theorem srt_stab (L : List MG) : Srt (stab L) := srt_acc L List.Pairwise.nil
theorem stab_filter (z : MG) (L : List MG) : (stab L).filter (eqv z) = L.filter (eqv z) := by unfold stab; rw [filter_acc]; simp
theorem stab_len (L : List MG) : (stab L).length = L.length := by unfold stab; rw [accM_len]; simp
theorem mem_of_filter {R L : List MG} (h : ∀ z, R.filter (eqv z) = L.filter (eqv z)) {x : MG} (hx : x ∈ R) : x ∈ L := by
  have : x ∈ R.filter (eqv x) := List.mem_filter.2 ⟨hx, eqv_self x⟩
  rw [h x] at this
  exact (List.mem_filter.1 this).1
theorem stab_mem {L : List MG} {x : MG} (h : x ∈ stab L) : x ∈ L := mem_of_filter (fun z => stab_filter z L) h
theorem uniq {R : List MG} : ∀ {R2 : List MG}, Srt R → Srt R2 → (∀ z, R.filter (eqv z) = R2.filter (eqv z)) → R = R2 := by
  induction R with
  | nil =>
    intro R2 _ _ h
    cases R2 with
    | nil => rfl
    | cons y ys => have := mem_of_filter (fun z => (h z).symm) (x := y) List.mem_cons_self; cases this
  | cons x xs ih =>
    intro R2 h1 h2 h
    cases R2 with
    | nil => have := mem_of_filter h (x := x) List.mem_cons_self; cases this
    | cons y ys =>
      unfold Srt at h1 h2
      have hx : x ∈ y :: ys := mem_of_filter h List.mem_cons_self
      have hy : y ∈ x :: xs := mem_of_filter (fun z => (h z).symm) List.mem_cons_self
      rw [List.pairwise_cons] at h1 h2
      have exy : eqv x y = true := by
        refine eqv_iff.2 ⟨?_, ?_⟩
        · rcases List.mem_cons.1 hx with e | hx
          · rw [e]; exact ahead_irr _
          · exact h2.1 x hx
        · rcases List.mem_cons.1 hy with e | hy
          · rw [e]; exact ahead_irr _
          · exact h1.1 y hy
      have q := h x
      rw [List.filter_cons, List.filter_cons, eqv_self, exy] at q
      simp only [if_true] at q
      injection q with q1 q2
      subst q1
      congr 1
      refine ih h1.2 h2.2 (fun z => ?_)
      have qz := h z
      rw [List.filter_cons, List.filter_cons] at qz
      cases hz : eqv z x
      · simpa [hz] using qz
      · simp only [hz, if_true] at qz
        injection qz
theorem stab_of {R L : List MG} (h1 : Srt R) (h2 : ∀ z, R.filter (eqv z) = L.filter (eqv z)) : R = stab L :=
  uniq h1 (srt_stab L) (fun z => by rw [h2, stab_filter])
/-- Two rows in order, merged in two parts. -/
theorem merge_parts {U1 U2 V1 V2 : List MG} (hU : Srt (U1 ++ U2)) (hV : Srt (V1 ++ V2)) (h1 : ∀ x ∈ V1, ∀ y ∈ U2, aheadM x y = true) (h2 : ∀ x ∈ U1, ∀ y ∈ V2, aheadM y x = false) :
    stab (U1 ++ V1) ++ stab (U2 ++ V2) = stab ((U1 ++ U2) ++ (V1 ++ V2)) := by
  unfold Srt at hU hV
  rw [List.pairwise_append] at hU hV
  refine stab_of ?_ (fun z => ?_)
  · unfold Srt
    rw [List.pairwise_append]
    refine ⟨srt_stab _, srt_stab _, fun x hx y hy => ?_⟩
    rcases List.mem_append.1 (stab_mem hx) with hx | hx <;> rcases List.mem_append.1 (stab_mem hy) with hy | hy
    · exact hU.2.2 x hx y hy
    · exact h2 x hx y hy
    · exact ahead_asymm (h1 x hx y hy)
    · exact hV.2.2 x hx y hy
  · rw [List.filter_append, stab_filter, stab_filter]
    simp only [List.filter_append, List.append_assoc]
    congr 1
    rw [← List.append_assoc, ← List.append_assoc]
    congr 1
    cases hv : V1.filter (eqv z) with
    | nil => simp
    | cons x xs =>
      have hx := List.mem_filter.1 (hv ▸ List.mem_cons_self : x ∈ V1.filter (eqv z))
      have : U2.filter (eqv z) = [] := by
        rw [List.filter_eq_nil_iff]
        intro y hy h3
        have a1 := eqv_iff.1 hx.2
        have a2 := eqv_iff.1 h3
        have := h1 x hx.1 y hy
        rw [le_ahead (a := z) (b := x) a1.2 this] at a2
        cases a2.1
      rw [this]; simp
theorem stab_stab (M N : List MG) : stab (stab M ++ stab N) = stab (M ++ N) := by
  refine (stab_of (srt_stab _) (fun z => ?_))
  rw [stab_filter, List.filter_append, stab_filter, stab_filter, List.filter_append]
theorem stab_srt {L : List MG} (h : Srt L) : stab L = L := (stab_of h (fun _ => rfl)).symm
theorem ord_ahead (a b : MG) : decide (ordM a b < 0) = aheadM a b := by
  unfold ordM orI cmpI cmpS aheadM
  by_cases h : a.sq < b.sq
  · simp [h]
  · by_cases h2 : b.sq < a.sq
    · have h3 : (a.sq == b.sq) = false := by rw [beq_eq_false_iff_ne]; omega
      simp [h, h2, h3]
    · have h3 : a.sq = b.sq := by omega
      rw [h3]
      cases k : lt a.ky b.ky
      · cases k2 : lt b.ky a.ky <;> simp [k, k2]
      · simp [k]
end Go.Proofs.Ytilnpeekajnlhaa
namespace Go.Proofs.Ytilnpeekajnlhaa
open Go.RowKit Go.Maps
abbrev SzOk (a : ByteArray) : Prop := a.size ≤ 140737488355328
theorem meet_ok {a0 a1 b0 b1 : ByteArray} (h0 : SzOk a0) (h1 : SzOk a1) (k0 : SzOk b0) (k1 : SzOk b1) : SzOk (meetF a0 a1 b0 b1).1 ∧ SzOk (meetF a0 a1 b0 b1).2.1 := by
  unfold meetF
  split
  · split
    · exact ⟨h0, h1⟩
    · unfold meetE
      split
      · refine ⟨?_, ?_⟩
        · show SzOk (maxS a0 b0); unfold maxS; split <;> assumption
        · show SzOk (firstS a1 b1); unfold firstS; split <;> assumption
      · exact ⟨by decide, by decide⟩
  · exact ⟨by decide, by decide⟩
theorem zm_ok : zM.Ok := by refine ⟨?_, ?_, ?_⟩ <;> decide
theorem clip_ok {m : MG} (hm : m.Ok) {a b : ByteArray} (ha : SzOk a) (hb : SzOk b) : (clipM m a b).1.Ok := by
  unfold clipM
  split
  · split
    · exact hm
    · exact zm_ok
  · split
    · split
      · have q := meet_ok hm.1 hm.2.1 ha hb
        exact ⟨q.1, q.2, hm.2.2⟩
      · exact zm_ok
    · exact zm_ok
theorem rest_ok {m : MG} (hm : m.Ok) {a b : ByteArray} (ha : SzOk a) (hb : SzOk b) : OkA (restM m a b) := by
  have q := clip_ok hm ha hb
  intro x hx
  unfold restM restQ at hx
  split at hx
  · split at hx
    · cases hx
    · rw [List.mem_singleton.1 hx]; exact hm
  · split at hx
    · split at hx
      · rcases List.mem_append.1 hx with hx | hx
        · split at hx
          · rw [List.mem_singleton.1 hx]; exact ⟨hm.1, q.1, hm.2.2⟩
          · cases hx
        · split at hx
          · rw [List.mem_singleton.1 hx]; exact ⟨q.2.1, hm.2.1, hm.2.2⟩
          · cases hx
      · rw [List.mem_singleton.1 hx]; exact hm
    · cases hx
theorem forL_ok {xs : List MG} (ho : OkA xs) {a b : ByteArray} (ha : SzOk a) (hb : SzOk b) : OkA (forL a b xs) := by
  intro x hx
  obtain ⟨m, hm, hx⟩ := List.mem_flatMap.1 hx
  split at hx
  · rw [List.mem_singleton.1 hx]; exact clip_ok (ho m hm) ha hb
  · cases hx
theorem resL_ok {xs : List MG} (ho : OkA xs) {a b : ByteArray} (ha : SzOk a) (hb : SzOk b) : OkA (resL a b xs) := by
  intro x hx
  obtain ⟨m, hm, hx⟩ := List.mem_flatMap.1 hx
  exact rest_ok (ho m hm) ha hb x hx

theorem ok_stab {L : List MG} (h : OkA L) : OkA (stab L) := fun x hx => h x (stab_mem hx)
theorem emp_ltR {x y : ByteArray} (h : emp x = true) : lt y x = false := by
  unfold emp at h; rw [List.isEmpty_iff] at h
  unfold lt; rw [h]; exact bl_nil _
theorem meet_lo {ky a b : ByteArray} (h : lt ky a = true) (h2 : sb a b = true) : (meetF ky a a b).2.2 = false := by
  have e : emp a = false := by cases q : emp a; rfl; rw [emp_ltR q] at h; cases h
  have m1 : maxS ky a = a := by unfold maxS; rw [if_pos h]
  have b1 : bef b a = false := by
    unfold bef; unfold sb at h2
    cases q : emp b
    · rw [q, Bool.false_or] at h2; rw [nlt_of_lt h2, e]; rfl
    · rfl
  have f1 : firstS a b = a := by unfold firstS; rw [b1]; rfl
  have s1 : sb a a = false := by unfold sb; rw [e, lt_irr]; rfl
  unfold meetF
  split
  · split
    · rename_i k
      unfold lt at h; rw [k.1, bl_irr] at h; cases h
    · unfold meetE; rw [m1, f1, s1]; rfl
  · rfl
theorem meet_hi {tt a b : ByteArray} (h : bef b tt = true) (h2 : sb a b = true) : (meetF b tt a b).2.2 = false := by
  have e : emp b = false := by cases q : emp b; rfl; unfold bef at h; rw [q] at h; cases h
  have h3 : lt a b = true := by unfold sb at h2; rw [e, Bool.false_or] at h2; exact h2
  have m1 : maxS b a = b := by unfold maxS; rw [nlt_of_lt h3]; rfl
  have f1 : firstS tt b = b := by unfold firstS; rw [if_pos h]
  have s1 : sb b b = false := by unfold sb; rw [e, lt_irr]; rfl
  unfold meetF
  split
  · split
    · rename_i k
      unfold lt at h3; rw [k.1, bl_irr] at h3; cases h3
    · unfold meetE; rw [m1, f1, s1]; rfl
  · rfl
theorem rest_clip {m : MG} {a b : ByteArray} {q : MG} (hq : q ∈ restM m a b) : (clipM q a b).2 = false := by
  unfold restM restQ at hq
  split at hq
  · split at hq
    · cases hq
    · rename_i k
      rw [List.mem_singleton.1 hq]; simpa using k
  · rename_i kp
    split at hq
    · rename_i k4
      split at hq
      · rename_i kq
        have hmf : (meetF m.ky m.to a b).2.2 = true := by
          unfold clipM at kq
          rw [if_neg kp, if_pos k4] at kq
          split at kq
          · assumption
          · cases kq
        have hc : clipM m a b = (overM m (meetF m.ky m.to a b).1 (meetF m.ky m.to a b).2.1, true) := by
          unfold clipM; rw [if_neg kp, if_pos k4, if_pos hmf]
        rw [hc] at hq
        have hcl : ∀ x y : ByteArray, (clipM (overM m x y) a b).2 = (meetF x y a b).2.2 := by
          intro x y
          unfold clipM
          rw [if_neg (show ¬ isPt (overM m x y).kd = true from kp), if_pos (show ((overM m x y).kd == 4) = true from k4)]
          show (if (meetF x y a b).2.2 = true then _ else _ : MG × Bool).2 = _
          split
          · rename_i k; rw [k]
          · rename_i k; exact (show (meetF x y a b).2.2 = false by simpa using k).symm
        have hs : sb a b = true := by
          unfold meetF at hmf
          split at hmf
          · rename_i k; exact k.2
          · cases hmf
        have hxy : ((meetF m.ky m.to a b).1 = m.ky ∧ (meetF m.ky m.to a b).2.1 = m.to) ∨ ((meetF m.ky m.to a b).1 = maxS m.ky a ∧ (meetF m.ky m.to a b).2.1 = firstS m.to b) := by
          unfold meetF meetE
          unfold meetF meetE at hmf
          split
          · split
            · exact .inl ⟨rfl, rfl⟩
            · split
              · exact .inr ⟨rfl, rfl⟩
              · rename_i k1 k2 k3; rw [if_pos k1, if_neg k2, if_neg k3] at hmf; cases hmf
          · rename_i k1; rw [if_neg k1] at hmf; cases hmf
        rcases List.mem_append.1 hq with hq | hq
        · split at hq
          · rename_i kl
            rw [List.mem_singleton.1 hq, hcl]
            rcases hxy with ⟨e, -⟩ | ⟨e, -⟩
            · rw [e] at kl; change lt m.ky m.ky = true at kl; rw [lt_irr] at kl; cases kl
            · rw [e] at kl
              show (meetF m.ky (meetF m.ky m.to a b).1 a b).2.2 = false
              rw [e]
              change lt m.ky (maxS m.ky a) = true at kl
              unfold maxS at kl ⊢
              split at kl
              · rename_i k; rw [if_pos k]; exact meet_lo k hs
              · rw [lt_irr] at kl; cases kl
          · cases hq
        · split at hq
          · rename_i kl
            rw [List.mem_singleton.1 hq, hcl]
            show (meetF (meetF m.ky m.to a b).2.1 m.to a b).2.2 = false
            change bef (meetF m.ky m.to a b).2.1 m.to = true at kl
            have irr : bef m.to m.to = false := by unfold bef; cases emp m.to <;> simp [lt_irr]
            rcases hxy with ⟨-, e⟩ | ⟨-, e⟩
            · rw [e, irr] at kl; cases kl
            · rw [e] at kl ⊢
              unfold firstS at kl ⊢
              split at kl
              · rename_i k; rw [if_pos k]; exact meet_hi k hs
              · rw [irr] at kl; cases kl
          · cases hq
      · rename_i k
        rw [List.mem_singleton.1 hq]; simpa using k
    · cases hq
theorem for_rest (xs : List MG) (a b : ByteArray) : forL a b (resL a b xs) = [] := by
  unfold forL resL
  rw [List.flatMap_eq_nil_iff]
  intro q hq
  obtain ⟨m, hm, hq⟩ := List.mem_flatMap.1 hq
  rw [rest_clip hq]; rfl
theorem kid_rest (ps : List ByteArray) (f t : ByteArray) (i : Int) (ms : List MG) : kidL ps f t i (restL ps f t i ms) = [] := by
  unfold kidL restL
  split
  · exact for_rest _ _ _
  · rfl
theorem span_ok {ps : List ByteArray} {f t : ByteArray} (hp : ∀ x ∈ ps, SzOk x) (hf : SzOk f) (ht : SzOk t) (i : Int) : SzOk (Pv.spanF ps f t i).1 ∧ SzOk (Pv.spanF ps f t i).2 := by
  have z : SzOk emptyS := by decide
  have g : ∀ k, SzOk (Pv.at_ ps k) := by
    intro k
    unfold Pv.at_
    rw [List.getD_eq_getElem?_getD]
    cases q : ps[k]? with
    | none => exact z
    | some x => exact hp x (List.mem_of_getElem? q)
  unfold Pv.spanF
  split
  · unfold Pv.pF Pv.pT
    refine ⟨?_, ?_⟩
    · show SzOk (if 0 < i.toNat then Pv.at_ ps (i.toNat - 1) else f)
      split
      · exact g _
      · exact hf
    · show SzOk (if i.toNat < ps.length then Pv.at_ ps i.toNat else t)
      split
      · exact g _
      · exact ht
  · exact ⟨z, z⟩
theorem restL_ok {ps : List ByteArray} {f t : ByteArray} (hp : ∀ x ∈ ps, SzOk x) (hf : SzOk f) (ht : SzOk t) (i : Int) {ms : List MG} (ho : OkA ms) : OkA (restL ps f t i ms) := by
  unfold restL
  split
  · exact resL_ok ho (span_ok hp hf ht i).1 (span_ok hp hf ht i).2
  · exact ho
theorem kidL_ok {ps : List ByteArray} {f t : ByteArray} (hp : ∀ x ∈ ps, SzOk x) (hf : SzOk f) (ht : SzOk t) (i : Int) {ms : List MG} (ho : OkA ms) : OkA (kidL ps f t i ms) := by
  unfold kidL
  split
  · exact forL_ok ho (span_ok hp hf ht i).1 (span_ok hp hf ht i).2
  · intro x hx; cases hx
theorem restL_len (ps : List ByteArray) (f t : ByteArray) (i : Int) (ms : List MG) : (restL ps f t i ms).length ≤ 2 * ms.length := by
  unfold restL; split
  · exact resL_len _ _ _
  · omega
theorem kidL_len (ps : List ByteArray) (f t : ByteArray) (i : Int) (ms : List MG) : (kidL ps f t i ms).length ≤ ms.length := by
  unfold kidL; split
  · exact forL_len _ _ _
  · simp
end Go.Proofs.Ytilnpeekajnlhaa
namespace Go.Proofs.Ytilnpeekajnlhaa
open Go.ChangeShapes Go.WideShapes Go.ChangeAt Go.RowKit Go.Joins
theorem od_n28 : Try.prog.cellsOf 28 = 5 := by kernel_rfl
theorem od_n22 : Try.prog.cellsOf 22 = 1 := by kernel_rfl
theorem od_n23 : Try.prog.cellsOf 23 = 1 := by kernel_rfl
theorem od_n24 : Try.prog.cellsOf 24 = 1 := by kernel_rfl
theorem od_n25 : Try.prog.cellsOf 25 = 1 := by kernel_rfl
theorem od_n26 : Try.prog.cellsOf 26 = 1 := by kernel_rfl
theorem str_cell {H : Type} {enc : TypeId × Value → H} {w : World} {base : Nat} {spare : Nat → Bool} {held : Bool} {n : Nat} {a : Addr} {cs : List Value} {x : DataW H × List MemPlace}
    (hc : w.cells? base a 1 = some cs) (h : DataW.trod enc Try.prog w base spare held n 9 cs = some x) (hw : ∀ q ∈ x.1.weights Try.prog 9, q ≤ reachBytes) :
    ∃ t : ByteArray, (∀ j u, (ES.cs t)[j]? = some u → w.cell? (a.add j) = some u) ∧ SzOk t := by
  obtain ⟨_, hl, hi⟩ := World.cells?_some hc
  match cs, hl with
  | [c0], _ =>
    obtain ⟨p2, e2, z2, _⟩ := DataW.trod_string Try.underlying9 h
    simp at e2
    subst e2
    have hr : reachBytes ≤ 140737488355328 := by decide
    refine ⟨p2, fun j u hu => ?_, ?_⟩
    · match j, hu with
      | 0, hu => simp [ES] at hu; subst hu; simpa using hi 0 (by omega)
      | j + 1, hu => simp [ES] at hu
    · exact Nat.le_trans (hw p2.size (by rw [z2]; simp [DataW.weights])) hr
theorem strs_open {H : Type} {enc : TypeId × Value → H} {w : World} {base : Nat} {spare : Nat → Bool} {held : Bool} {a : Option Addr} {n c : Nat} {d : DataW H} {p : List MemPlace} (h : DataW.Trod enc Try.prog w base spare held 23 (.slice a n c) d p) (hw : ∀ q ∈ d.weights Try.prog 23, q ≤ reachBytes) :
    ∃ xs, n ≤ c ∧ c ≤ maxLen ∧ xs.length = n ∧ ES.Rd w a xs ∧ (∀ x ∈ xs, SzOk x) := by
  obtain ⟨fuel, hf⟩ := h
  rcases Go.Deep.open_slice Try.underlying23 hf with ⟨hcs, _⟩ | ⟨x, l, c', m, n', D, Pl, hcs, _, hl, hm, hmm, hxe, hx⟩
  · simp [Value.cells] at hcs
    obtain ⟨rfl, rfl, rfl⟩ := hcs
    exact ⟨[], Nat.le_refl _, Nat.zero_le _, rfl, .inl rfl, fun x hx => by cases hx⟩
  · simp [Value.cells] at hcs
    obtain ⟨rfl, rfl, rfl⟩ := hcs
    by_cases h0 : n = 0
    · exact ⟨[], hl, hm, h0.symm, .inl rfl, fun x hx => by cases hx⟩
    · have hall : ∀ i : Nat, ∃ t : ByteArray, (i < n → ∀ j u, (ES.cs t)[j]? = some u → w.cell? ((x.add (i * 1)).add j) = some u) ∧ SzOk t := by
        intro i
        by_cases hi : i < n
        · obtain ⟨cs', hc, ht⟩ := hx i (by rw [hmm]; split <;> omega)
          rw [od_c9] at hc
          obtain ⟨t, h3, h4⟩ := str_cell hc ht (fun q hq => hw q (by have hd : d = _ := congrArg Prod.fst hxe; rw [hd]; exact w_slice Try.underlying23 (List.mem_map.2 ⟨i, by simpa using hi, rfl⟩) hq))
          exact ⟨t, fun _ => h3, h4⟩
        · exact ⟨emptyS, fun h => absurd h hi, by decide⟩
      obtain ⟨f, hf''⟩ := Classical.axiomOfChoice hall
      have hf' := fun i => (hf'' i).1
      obtain ⟨b, off, spot⟩ := x
      have z := hf' 0 (by omega) 0 _ rfl
      have hs : spot = none := by simpa [Addr.add] using World.cell?_spot z
      subst hs
      have hb : b < w.heap.size := by simpa [Addr.add] using World.block_lt_of_cell? w _ z
      refine ⟨(List.range n).map f, hl, hm, by simp, .inr ⟨b, off, rfl, hb, fun j u hj => ?_⟩, fun y hy => ?_⟩
      · obtain ⟨k, i, y, hk, rfl, hu⟩ := RE.all_at ES hj
        rw [List.getElem?_map] at hk
        have hkn : k < n := by
          cases hr : (List.range n)[k]? with
          | none => rw [hr] at hk; cases hk
          | some q => have := (List.getElem?_eq_some_iff.1 hr).1; simpa using this
        rw [List.getElem?_range hkn] at hk
        simp at hk
        subst hk
        have q := hf' k hkn i u hu
        have e0 : ((⟨b, off, none⟩ : Addr).add (k * 1)).add i = ⟨b, off + (k * ES.k + i), none⟩ := by
          have : ES.k = 1 := rfl
          rw [this]
          by_cases y1 : k = 0 <;> by_cases y2 : i = 0 <;> simp [Addr.add, y1, y2] <;> (try omega) <;> (try (split <;> omega)) <;> (try (split <;> simp <;> omega))
        rw [e0] at q
        exact q
      · obtain ⟨k, _, rfl⟩ := List.mem_map.1 hy
        exact (hf'' k).2

theorem slice_cell {H : Type} {enc : TypeId × Value → H} {w : World} {base : Nat} {spare : Nat → Bool} {held : Bool} {fuel : Nat} {t e : TypeId} {c : Value} {y : DataW H × List MemPlace} (hu : Try.prog.underlying t = some (.slice e))
    (h : DataW.trod enc Try.prog w base spare held fuel t [c] = some y) : ∃ a n k, c = .slice a n k ∧ DataW.Trod enc Try.prog w base spare held t (.slice a n k) y.1 y.2 := by
  have hv : ∀ a n k, c = .slice a n k → DataW.Trod enc Try.prog w base spare held t (.slice a n k) y.1 y.2 := fun a n k e => ⟨fuel, by subst e; exact h⟩
  rcases Go.Deep.open_slice hu h with ⟨hcs, _⟩ | ⟨x, l, c', m, n', D, Pl, hcs, _⟩
  · simp at hcs; exact ⟨_, _, _, hcs, hv _ _ _ hcs⟩
  · simp at hcs; exact ⟨_, _, _, hcs, hv _ _ _ hcs⟩
theorem nd_ints24 {H : Type} {enc : TypeId × Value → H} {w : World} {base : Nat} {spare : Nat → Bool} {held : Bool} {a : Option Addr} {n c : Nat} {d : DataW H} {p : List MemPlace} (h : DataW.Trod enc Try.prog w base spare held 24 (.slice a n c) d p) :
    ∃ l : List Int, l.length = n ∧ Rd w w.heap.size a (l.map (Value.int .i64)) ∧ n ≤ c ∧ c ≤ maxLen ∧ (a = none → n = 0) ∧ (∀ s ∈ l, (Lit.int .i64 s).wf = true) := by
  obtain ⟨fuel, hf⟩ := h
  rcases open_ints Try.underlying24 Try.underlying3 (by kernel_rfl) hf with ⟨hcs, _⟩ | ⟨x, len, cap, ss, hcs, _, hl, hm, hlen, _, hcell, hsz⟩
  · simp [Value.cells] at hcs
    obtain ⟨rfl, rfl, rfl⟩ := hcs
    exact ⟨[], rfl, .inl rfl, Nat.le_refl _, by simp [maxLen], fun _ => rfl, by simp⟩
  · simp [Value.cells] at hcs
    obtain ⟨rfl, rfl, rfl⟩ := hcs
    have hle : n ≤ ss.length := by rw [hlen]; split <;> omega
    refine ⟨ss.take n, by simp; omega, ?_, hl, hm, fun h => (by cases h), fun s hs => hsz s (List.mem_of_mem_take hs)⟩
    by_cases h0 : n = 0
    · subst h0; exact .inl (by simp)
    · obtain ⟨b, off, spot⟩ := x
      have c0 := hcell 0 (by omega)
      have hs : spot = none := by simpa [Addr.add] using World.cell?_spot c0
      subst hs
      have hb := World.block_lt_of_cell? w _ c0
      refine .inr ⟨b, off, rfl, by simpa [Addr.add] using hb, fun j u hj => ?_⟩
      rw [List.getElem?_map, List.getElem?_take] at hj
      split at hj
      · rename_i hjn
        have cj := hcell j (by omega)
        rw [List.getD_eq_getElem?_getD] at cj
        cases hg : ss[j]? with
        | none => rw [hg] at hj; simp at hj
        | some s =>
          rw [hg] at hj cj
          simp at hj cj
          subst hj
          by_cases z : j = 0
          · subst z; simpa [Addr.add] using cj
          · simpa [Addr.add, z] using cj
      · simp at hj
theorem ei_of {w : World} {A : Option Addr} {l : List Int} (h : Rd w w.heap.size A (l.map (Value.int .i64))) : EI.Rd w A l := by
  have e : ∀ q : List Int, EI.all q = q.map (Value.int .i64) := by
    intro q
    induction q with
    | nil => rfl
    | cons x xs ih => rw [RE.all_cons, ih]; rfl
  unfold RE.Rd
  rw [e]; exact h

/-- What is known of a node that came in. -/
structure NodeIn (W : World) (v : Value) (kd : Int) (P J M B : Option Addr) (n pc k kc m mc b bc : Nat) (ps : List ByteArray) (ks : List Int) (ms : List MG) : Prop where
  hv : v = .agg #[.int .u8 kd, .slice P n pc, .slice J k kc, .slice M m mc, .slice B b bc]
  hl : ps.length = n
  hP : ES.Rd W P ps
  hps : ∀ x ∈ ps, SzOk x
  hkl : ks.length = k
  hJ : EI.Rd W J ks
  hx : ∀ x ∈ ks, (Lit.int .i64 x).wf = true
  hm : ms.length = m
  hM : EG.Rd W M ms
  ho : OkA ms
  np : n ≤ pc ∧ pc ≤ maxLen
  nk : k ≤ kc ∧ kc ≤ maxLen
  nm : m ≤ mc ∧ mc ≤ maxLen
set_option maxRecDepth 100000 in
theorem node_open {H : Type} {enc : TypeId × Value → H} {W : World} {base : Nat} {spare : Nat → Bool} {held : Bool} {r : Reach} {b0 : Nat} {v : Value} {d : DataW H} {p : List MemPlace}
    (hv : Value.okWide Try.prog W r b0 28 v) (h : DataW.Trod enc Try.prog W base spare held 28 v d p) (hw : ∀ q ∈ d.weights Try.prog 28, q ≤ reachBytes) :
    ∃ kd P J M B n pc k kc m mc b bc ps ks ms, NodeIn W v kd P J M B n pc k kc m mc b bc ps ks ms := by
  obtain ⟨cs, rfl, hsz⟩ := okWide_struct Try.underlying28 hv
  rw [od_n28] at hsz
  obtain ⟨fuel, hf⟩ := h
  obtain ⟨xs, m, _, hxe, _, hxl, hel⟩ := DataW.trod_struct Try.underlying28 hf
  obtain ⟨ls⟩ := cs
  match ls, hsz, xs, hxl with
  | [c0, c1, c2, c3, c4], _, [y0, y1, y2, y3, y4], _ =>
    have h0 := hel 0 _ rfl
    have h1 := hel 1 _ rfl
    have h2 := hel 2 _ rfl
    have h3 := hel 3 _ rfl
    have h4 := hel 4 _ rfl
    simp [od_n22, od_n23, od_n24, od_n25, od_n26, Value.cells] at h0 h1 h2 h3 h4
    obtain ⟨p0, e0, _, _⟩ := DataW.trod_int Try.underlying22 h0
    simp at e0
    obtain ⟨P, n, pc, e1, t1⟩ := slice_cell Try.underlying23 h1
    obtain ⟨J, k, kc, e2, t2⟩ := slice_cell Try.underlying24 h2
    obtain ⟨M, m, mc, e3, t3⟩ := slice_cell Try.underlying25 h3
    obtain ⟨B, b, bc, e4, t4⟩ := slice_cell Try.underlying26 h4
    subst e0 e1 e2 e3 e4
    have hxe' : d = _ := congrArg Prod.fst hxe
    obtain ⟨ps, i1, i2, i3, i4, i5⟩ := strs_open t1 (fun q hq => hw q (by rw [hxe']; exact w_agg Try.underlying28 (j := 1) (d := y1.1) rfl rfl hq))
    obtain ⟨ks, k1, k2, k3, k4, _, k6⟩ := nd_ints24 t2
    obtain ⟨ms, m1, m2, m3, m4, m5⟩ := msgs_open t3 (fun q hq => hw q (by rw [hxe']; exact w_agg Try.underlying28 (j := 3) (d := y3.1) rfl rfl hq))
    exact ⟨p0, P, J, M, B, n, pc, k, kc, m, mc, b, bc, ps, ks, ms, ⟨rfl, i3, i4, i5, k1, ei_of k2, k6, m3, m4, m5, ⟨i1, i2⟩, ⟨k3, k4⟩, ⟨m1, m2⟩⟩⟩
end Go.Proofs.Ytilnpeekajnlhaa
