/- Texts of the proof, one behind the other. -/
import Derived.Test.YtilnpeekajnlhaaOk15
import Derived.Test.YtilnpeekajnlhaaOk17
import Derived.Test.YtilnpeekajnlhaaOk14
import Derived.Test.YtilnpeekajnlhaaOk02
import Derived.Test.YtilnpeekajnlhaaOk11
import Derived.Lib.AppendZeros
set_option linter.unusedVariables false
set_option linter.unusedSimpArgs false
namespace Go.Proofs.Ytilnpeekajnlhaa
theorem sb_no {f t : ByteArray} (h : sb f t = false) : emp t = false ∧ lt f t = false := by
  unfold sb at h; simpa using h
theorem sb_yes {f t : ByteArray} (h : sb f t = true) (he : emp t = false) : lt f t = true := by
  unfold sb at h; simpa [he] using h
theorem bef_no {T t : ByteArray} (h : bef T t = false) (he : emp T = false) : emp t = false ∧ lt T t = false := by
  unfold bef at h; simpa [he] using h
theorem nlt_of_lt {a b : ByteArray} (h : lt a b = true) : lt b a = false := bl_asymm _ _ h
/-- One message stands ahead of another one, apart from it. -/
def relM (p x : MG) : Prop := p.sq < x.sq ∨ (p.sq = x.sq ∧ sb (spF x) (spT p) = false)
theorem key_lt {p x : MG} (hp : rcX p = true) (hx : rcX x = true) (h : sb (spF x) (spT p) = false) : lt x.ky p.ky = false := by
  obtain ⟨_, p2, p3⟩ := kd_ok hp
  obtain ⟨_, x2, x3⟩ := kd_ok hx
  obtain ⟨e1, e2⟩ := sb_no h
  rw [p3] at p2
  rw [x3] at e2
  have := sb_yes p2 e1
  exact nlt_trans (nlt_of_lt this) e2
theorem rc_rel {p x : MG} (hp : rcX p = true) (hx : rcX x = true) : rcP p x = true ↔ relM p x := by
  cases he : (p.sq == x.sq)
  · have hne : p.sq ≠ x.sq := by simpa using he
    rw [rcP_ne he, ord_gt p x he]
    unfold relM
    simp [hne]
  · have hsq : p.sq = x.sq := by simpa using he
    rw [rcP_eq he hp hx, ord_eq p x he]
    unfold relM
    obtain ⟨_, _, x3⟩ := kd_ok hx
    constructor
    · intro h
      simp only [Bool.and_eq_true, Bool.not_eq_true'] at h
      exact .inr ⟨hsq, by rw [x3]; exact h.1⟩
    · intro h
      rcases h with h | ⟨_, h⟩
      · omega
      · rw [key_lt hp hx h]
        rw [x3] at h
        rw [h]; rfl
theorem rel_trans {p x y : MG} (hx : rcX x = true) (h1 : relM p x) (h2 : relM x y) : relM p y := by
  rcases h1 with h1 | ⟨h1, k1⟩
  · rcases h2 with h2 | ⟨h2, _⟩
    · exact .inl (by omega)
    · exact .inl (by omega)
  · rcases h2 with h2 | ⟨h2, k2⟩
    · exact .inl (by omega)
    · refine .inr ⟨by omega, ?_⟩
      obtain ⟨_, x2, _⟩ := kd_ok hx
      obtain ⟨a1, a2⟩ := sb_no k1
      obtain ⟨b1, b2⟩ := sb_no k2
      have c := sb_yes x2 b1
      unfold sb
      rw [a1, Bool.false_or]
      exact nlt_trans a2 (nlt_trans (nlt_of_lt c) b2)
theorem ahead_of_rel {p x : MG} (hp : rcX p = true) (hx : rcX x = true) (h : relM p x) : aheadM x p = false := by
  unfold aheadM
  rcases h with h | ⟨h, k⟩
  · have h1 : ¬ x.sq < p.sq := by omega
    have h2 : (x.sq == p.sq) = false := by rw [beq_eq_false_iff_ne]; omega
    simp [h1, h2]
  · rw [key_lt hp hx k, h]; simp
theorem right_iff (xs : List MG) : rightB xs = true ↔ (∀ x ∈ xs, rcX x = true) ∧ xs.Pairwise relM := by
  constructor
  · intro h
    have hx : ∀ i (hi : i < xs.length), rcX xs[i] = true := by
      intro i hi
      have q := right_at h hi
      have hx2 : xs[i]? = some xs[i] := List.getElem?_eq_getElem hi
      cases i with
      | zero => rw [rcI_zero hx2] at q; exact q
      | succ j =>
        have hp : xs[j]? = some xs[j] := List.getElem?_eq_getElem (by omega)
        rw [rcI_succ hp hx2, Bool.and_eq_true] at q
        exact q.1
    refine ⟨fun x hm => ?_, ?_⟩
    · obtain ⟨i, hi, rfl⟩ := List.mem_iff_getElem.1 hm
      exact hx i hi
    · rw [List.pairwise_iff_getElem]
      intro i j hi hj hij
      induction j with
      | zero => omega
      | succ j ih =>
        have hp : xs[j]? = some xs[j] := List.getElem?_eq_getElem (by omega)
        have hx2 : xs[j + 1]? = some xs[j + 1] := List.getElem?_eq_getElem hj
        have q := right_at h hj
        rw [rcI_succ hp hx2, Bool.and_eq_true] at q
        have r := (rc_rel (hx j (by omega)) (hx (j + 1) hj)).1 q.2
        rcases (by omega : i = j ∨ i < j) with e | e
        · subst e; exact r
        · exact rel_trans (hx j (by omega)) (ih (by omega) e) r
  · intro ⟨h1, h2⟩
    rw [List.pairwise_iff_getElem] at h2
    refine right_yes (fun i hi => ?_)
    have hx2 : xs[i]? = some xs[i] := List.getElem?_eq_getElem hi
    have hx := h1 _ (List.getElem_mem hi)
    cases i with
    | zero => rw [rcI_zero hx2]; exact hx
    | succ j =>
      have hp : xs[j]? = some xs[j] := List.getElem?_eq_getElem (by omega)
      rw [rcI_succ hp hx2, hx, Bool.true_and]
      exact (rc_rel (h1 _ (List.getElem_mem _)) hx).2 (h2 j (j + 1) (by omega) hi (by omega))
/-- A message of the same number that touches no more. -/
structure SubM (q x : MG) : Prop where
  rc : rcX q = true
  sq : q.sq = x.sq
  lo : lt (spF q) (spF x) = false
  hi : bef (spT x) (spT q) = false
theorem SubM.refl {x : MG} (h : rcX x = true) : SubM x x := ⟨h, rfl, lt_irr _, by unfold bef; cases emp (spT x) <;> simp [lt_irr]⟩
theorem rel_sub {p x p' x' : MG} (h : relM p x) (hp : SubM p' p) (hx : SubM x' x) : relM p' x' := by
  rcases h with h | ⟨h, k⟩
  · exact .inl (by rw [hp.sq, hx.sq]; exact h)
  · refine .inr ⟨by rw [hp.sq, hx.sq]; exact h, ?_⟩
    obtain ⟨a1, a2⟩ := sb_no k
    obtain ⟨b1, b2⟩ := bef_no hp.hi a1
    unfold sb
    rw [b1, Bool.false_or]
    exact nlt_trans (nlt_trans b2 a2) hx.lo
theorem over_span {m : MG} (h4 : m.kd = 4) (f t : ByteArray) : spF (overM m f t) = f ∧ spT (overM m f t) = t := by
  have e1 : (overM m f t).kd = 4 := h4
  unfold spF spT
  rw [e1]
  exact ⟨rfl, rfl⟩
theorem over_sub {m : MG} (hm : rcX m = true) (h4 : m.kd = 4) {f t : ByteArray} (hs : sb f t = true) (lo : lt f m.ky = false) (hi : bef m.to t = false) : SubM (overM m f t) m := by
  obtain ⟨e1, e2⟩ := over_span h4 f t
  have k1 : spF m = m.ky := (kd_ok hm).2.2
  have k2 : spT m = m.to := by unfold spT; rw [h4]; rfl
  refine ⟨?_, rfl, by rw [e1, k1]; exact lo, by rw [e2, k2]; exact hi⟩
  refine kd_good (.inr ⟨?_, ?_⟩) (by rw [e1, e2]; exact hs)
  · show isPt m.kd = false; rw [h4]; rfl
  · show (m.kd == 4) = true; rw [h4]; rfl
theorem meet_in {a0 a1 b0 b1 : ByteArray} (h : (meetF a0 a1 b0 b1).2.2 = true) (ha : sb a0 a1 = true) :
    sb (meetF a0 a1 b0 b1).1 (meetF a0 a1 b0 b1).2.1 = true ∧ lt (meetF a0 a1 b0 b1).1 a0 = false ∧ bef a1 (meetF a0 a1 b0 b1).2.1 = false := by
  by_cases hb : sb b0 b1 = true
  · rw [meetF_E _ _ _ _ ha hb] at h ⊢
    unfold meetE at h ⊢
    split at h
    · next k =>
      rw [if_pos k]
      refine ⟨k, ?_, ?_⟩
      · show lt (maxS a0 b0) a0 = false
        unfold maxS; split
        · next q => exact nlt_of_lt q
        · exact lt_irr _
      · show bef a1 (firstS a1 b1) = false
        unfold firstS; split
        · next q => exact bef_asymm b1 a1 q
        · unfold bef; cases emp a1 <;> simp [lt_irr]
    · cases h
  · exfalso
    unfold meetF at h
    rw [if_neg (fun q => hb q.2)] at h
    cases h
theorem clip_sub {m : MG} (hm : rcX m = true) {a b : ByteArray} (h : (clipM m a b).2 = true) : SubM (clipM m a b).1 m := by
  obtain ⟨k1, k2, k3⟩ := kd_ok hm
  rcases k1 with k1 | ⟨k1, k4⟩
  · unfold clipM at h ⊢
    rw [k1] at h ⊢
    simp only [if_true] at h ⊢
    cases e : (sb a b && has a b m.ky)
    · rw [e] at h; cases h
    · exact SubM.refl hm
  · have h4 : m.kd = 4 := by simpa using k4
    have e1 : spF m = m.ky := k3
    have e2 : spT m = m.to := by unfold spT; rw [h4]; rfl
    rw [e1, e2] at k2
    unfold clipM at h ⊢
    rw [k1, k4] at h ⊢
    simp only [if_true, Bool.false_eq_true, if_false] at h ⊢
    cases e : (meetF m.ky m.to a b).2.2
    · rw [e] at h; cases h
    · obtain ⟨q1, q2, q3⟩ := meet_in e k2
      exact over_sub hm h4 q1 q2 q3
theorem rest_sub {m : MG} (hm : rcX m = true) (a b : ByteArray) : (∀ q ∈ restM m a b, SubM q m) ∧ (restM m a b).Pairwise relM := by
  obtain ⟨k1, k2, k3⟩ := kd_ok hm
  cases hc : (clipM m a b).2
  · have e : restM m a b = [m] := by
      unfold restM restQ
      rw [hc]
      rcases k1 with k1 | ⟨k1, k4⟩
      · rw [k1]; rfl
      · rw [k1, k4]; rfl
    rw [e]
    exact ⟨fun q hq => by rw [List.mem_singleton.1 hq]; exact SubM.refl hm, List.pairwise_singleton _ _⟩
  · rcases k1 with k1 | ⟨k1, k4⟩
    · have e : restM m a b = [] := by unfold restM restQ; rw [hc, k1]; rfl
      rw [e]
      exact ⟨fun q hq => (by cases hq), List.Pairwise.nil⟩
    · have h4 : m.kd = 4 := by simpa using k4
      have e1 : spF m = m.ky := k3
      have e2 : spT m = m.to := by unfold spT; rw [h4]; rfl
      rw [e1, e2] at k2
      have hcl := hc
      unfold clipM at hcl
      rw [k1, k4] at hcl
      simp only [if_true, Bool.false_eq_true, if_false] at hcl
      have ec : clipM m a b = (overM m (meetF m.ky m.to a b).1 (meetF m.ky m.to a b).2.1, true) := by
        unfold clipM
        rw [k1, k4]
        simp only [if_true, Bool.false_eq_true, if_false]
        cases e : (meetF m.ky m.to a b).2.2
        · rw [e] at hcl; cases hcl
        · rfl
      have hm2 : (meetF m.ky m.to a b).2.2 = true := by
        cases e : (meetF m.ky m.to a b).2.2
        · rw [e] at hcl; cases hcl
        · rfl
      obtain ⟨q1, q2, q3⟩ := meet_in hm2 k2
      obtain ⟨f, hf⟩ : ∃ f, (meetF m.ky m.to a b).1 = f := ⟨_, rfl⟩
      obtain ⟨t, ht⟩ : ∃ t, (meetF m.ky m.to a b).2.1 = t := ⟨_, rfl⟩
      rw [hf, ht] at q1 ec
      rw [hf] at q2
      rw [ht] at q3
      have er : restM m a b = (if lt m.ky f then [overM m m.ky f] else []) ++ (if bef t m.to then [overM m t m.to] else []) := by
        unfold restM restQ; rw [ec, k1, k4]; rfl
      have hL : lt m.ky f = true → SubM (overM m m.ky f) m := fun h => over_sub hm h4 (by unfold sb; rw [h]; simp) (lt_irr _) (by
        cases et : emp m.to
        · obtain ⟨g1, g2⟩ := bef_no q3 et
          unfold bef
          have := sb_yes q1 g1
          have hfe : emp f = false := by
            unfold emp
            cases hz : f.toList.isEmpty
            · rfl
            · rw [List.isEmpty_iff] at hz
              unfold lt at h; rw [hz, bl_nil] at h; cases h
          rw [et, hfe]
          simp only [Bool.not_false, Bool.true_and, Bool.false_or]
          exact nlt_of_lt (lt_of_lt_nlt this g2)
        · unfold bef; rw [et]; rfl)
      have hR : bef t m.to = true → SubM (overM m t m.to) m := fun h => over_sub hm h4 (by
          unfold bef at h; unfold sb
          simp only [Bool.and_eq_true] at h
          exact h.2) (by
          have het : emp t = false := by unfold bef at h; simp only [Bool.and_eq_true, Bool.not_eq_true'] at h; exact h.1
          exact nlt_trans q2 (nlt_of_lt (sb_yes q1 het))) (by unfold bef; cases emp m.to <;> simp [lt_irr])
      rw [er]
      cases c1 : lt m.ky f <;> cases c2 : bef t m.to
      · exact ⟨fun q hq => (by simp at hq), by simp⟩
      · refine ⟨fun q hq => ?_, by simp⟩
        simp at hq; subst hq; exact hR c2
      · refine ⟨fun q hq => ?_, by simp⟩
        simp at hq; subst hq; exact hL c1
      · refine ⟨fun q hq => ?_, ?_⟩
        · simp at hq
          rcases hq with hq | hq <;> subst hq
          · exact hL c1
          · exact hR c2
        · simp
          refine .inr ⟨rfl, ?_⟩
          rw [(over_span h4 t m.to).1, (over_span h4 m.ky f).2]
          have het : emp t = false := by unfold bef at c2; simp only [Bool.and_eq_true, Bool.not_eq_true'] at c2; exact c2.1
          have hfe : emp f = false := by
            unfold emp
            cases hz : f.toList.isEmpty
            · rfl
            · rw [List.isEmpty_iff] at hz
              unfold lt at c1; rw [hz, bl_nil] at c1; cases c1
          unfold sb
          rw [hfe, Bool.false_or]
          exact nlt_of_lt (sb_yes q1 het)
theorem parts_right {xs : List MG} (h : rightB xs = true) (f : MG → List MG) (hf : ∀ x ∈ xs, (∀ q ∈ f x, SubM q x) ∧ (f x).Pairwise relM) : rightB (xs.flatMap f) = true := by
  rw [right_iff] at h ⊢
  refine ⟨fun q hq => ?_, ?_⟩
  · obtain ⟨x, hx, hq⟩ := List.mem_flatMap.1 hq
    exact ((hf x hx).1 q hq).rc
  · rw [List.pairwise_flatMap]
    refine ⟨fun x hx => (hf x hx).2, ?_⟩
    refine h.2.imp_of_mem (fun {p x} hp hx hr p' hp' x' hx' => rel_sub hr ((hf p hp).1 p' hp') ((hf x hx).1 x' hx'))
theorem forL_right {xs : List MG} (h : rightB xs = true) (a b : ByteArray) : rightB (forL a b xs) = true := by
  refine parts_right h _ (fun x hx => ?_)
  have hr := (right_iff xs).1 h
  cases hc : (clipM x a b).2
  · simp
  · simp
    exact clip_sub (hr.1 x hx) hc
theorem resL_right {xs : List MG} (h : rightB xs = true) (a b : ByteArray) : rightB (resL a b xs) = true :=
  parts_right h _ (fun x hx => rest_sub (((right_iff xs).1 h).1 x hx) a b)
theorem right_take {xs : List MG} (h : rightB xs = true) (k : Nat) : rightB (xs.take k) = true := by
  rw [right_iff] at h ⊢
  exact ⟨fun x hx => h.1 x (List.mem_of_mem_take hx), h.2.sublist (List.take_sublist _ _)⟩
theorem ins_end {m : MG} {xs : List MG} (h : ∀ y ∈ xs, aheadM m y = false) : insM m xs = xs ++ [m] := by
  have e : insK m xs xs.length = xs.length := by
    cases hn : xs.length with
    | zero => rfl
    | succ n =>
      have hy : xs[n]? = some (xs[n]'(by omega)) := List.getElem?_eq_getElem (by omega)
      exact insK_no hy (h _ (List.getElem_mem _))
  unfold insM; rw [e]; simp
theorem acc_end {ys : List MG} : ∀ {acc : List MG}, (acc ++ ys).Pairwise (fun p x => aheadM x p = false) → accM acc ys = acc ++ ys := by
  induction ys with
  | nil => intro acc _; simp [accM]
  | cons y ys ih =>
    intro acc h
    have e : insM y acc = acc ++ [y] := ins_end (fun z hz => by
      rw [List.pairwise_append] at h
      exact h.2.2 z hz y List.mem_cons_self)
    show accM (insM y acc) ys = _
    rw [e, ih (by simpa using h)]; simp
theorem acc_right {xs : List MG} (h : rightB xs = true) : accM [] xs = xs := by
  have hr := (right_iff xs).1 h
  exact acc_end (by simpa using hr.2.imp_of_mem (fun {p x} hp hx hr2 => ahead_of_rel (hr.1 p hp) (hr.1 x hx) hr2))
end Go.Proofs.Ytilnpeekajnlhaa
namespace Go.Proofs.Ytilnpeekajnlhaa
theorem ahead_asymm {a b : MG} (h : aheadM a b = true) : aheadM b a = false := by
  unfold aheadM at *
  simp only [Bool.or_eq_true, Bool.and_eq_true, decide_eq_true_eq, beq_iff_eq] at h
  rcases h with h | ⟨h, k⟩
  · have h1 : ¬ b.sq < a.sq := by omega
    have h2 : (b.sq == a.sq) = false := by rw [beq_eq_false_iff_ne]; omega
    simp [h1, h2]
  · rw [h, nlt_of_lt k]; simp
theorem ahead_irr (a : MG) : aheadM a a = false := by unfold aheadM; simp [lt_irr]
theorem nahead_trans {a b c : MG} (h1 : aheadM b a = false) (h2 : aheadM c b = false) : aheadM c a = false := by
  unfold aheadM at *
  simp only [Bool.or_eq_false_iff, Bool.and_eq_false_iff, decide_eq_false_iff_not, beq_eq_false_iff_ne] at *
  obtain ⟨a1, a2⟩ := h1
  obtain ⟨b1, b2⟩ := h2
  refine ⟨by omega, ?_⟩
  by_cases e : c.sq = a.sq
  · right
    have e1 : b.sq = a.sq := by omega
    have e2 : c.sq = b.sq := by omega
    exact nlt_trans (a2.resolve_left (fun h => h e1)) (b2.resolve_left (fun h => h e2))
  · exact .inl e
theorem ahead_trans {a b c : MG} (h1 : aheadM a b = true) (h2 : aheadM b c = true) : aheadM a c = true := by
  cases h : aheadM a c
  · have := nahead_trans h (ahead_asymm h1 : aheadM b a = false)
    rw [this] at h2; cases h2
  · rfl
theorem ahead_le {a b c : MG} (h1 : aheadM a b = true) (h2 : aheadM c b = false) : aheadM a c = true := by
  cases h : aheadM a c
  · have := nahead_trans (a := b) (b := c) (c := a) h2 h
    rw [this] at h1; cases h1
  · rfl
theorem le_ahead {a b c : MG} (h1 : aheadM b a = false) (h2 : aheadM b c = true) : aheadM a c = true := by
  cases h : aheadM a c
  · have := nahead_trans (a := c) (b := a) (c := b) h h1
    rw [this] at h2; cases h2
  · rfl
/-- Neither stands ahead of the other. -/
def eqv (a b : MG) : Bool := !aheadM a b && !aheadM b a
theorem eqv_self (a : MG) : eqv a a = true := by unfold eqv; simp [ahead_irr]
theorem eqv_iff {a b : MG} : eqv a b = true ↔ aheadM a b = false ∧ aheadM b a = false := by unfold eqv; simp
/-- Messages in order. -/
def Srt (L : List MG) : Prop := L.Pairwise fun p x => aheadM x p = false
theorem insK_le (m : MG) (xs : List MG) : ∀ k, insK m xs k ≤ k
  | 0 => Nat.le_refl _
  | k + 1 => by
    unfold insK
    split
    · split
      · exact Nat.le_trans (insK_le m xs k) (Nat.le_succ _)
      · exact Nat.le_refl _
    · exact Nat.le_refl _
theorem insK_above {m : MG} {xs : List MG} : ∀ {k i : Nat} {y : MG}, insK m xs k ≤ i → i < k → xs[i]? = some y → aheadM m y = true
  | 0, i, y, _, h, _ => by omega
  | k + 1, i, y, h1, h2, h3 => by
    unfold insK at h1
    split at h1
    · next z hz =>
      split at h1
      · next ha =>
        rcases (by omega : i = k ∨ i < k) with e | e
        · subst e; rw [hz] at h3; cases h3; exact ha
        · exact insK_above h1 e h3
      · omega
    · omega
theorem insK_below {m : MG} {xs : List MG} (hs : Srt xs) : ∀ {k i : Nat} {y : MG}, k ≤ xs.length → i < insK m xs k → xs[i]? = some y → aheadM m y = false
  | 0, i, y, _, h, _ => by unfold insK at h; omega
  | k + 1, i, y, hk, h, h3 => by
    have hz : xs[k]? = some (xs[k]'(by omega)) := List.getElem?_eq_getElem (by omega)
    cases ha : aheadM m (xs[k]'(by omega))
    · rw [insK_no hz ha] at h
      rcases (by omega : i = k ∨ i < k) with e | e
      · subst e; rw [hz] at h3; cases h3; exact ha
      · unfold Srt at hs
        rw [List.pairwise_iff_getElem] at hs
        obtain ⟨q1, q2⟩ := List.getElem?_eq_some_iff.1 h3
        have := hs i k q1 (by omega) e
        rw [q2] at this
        exact nahead_trans this ha
    · rw [insK_yes hz ha] at h
      exact insK_below hs (by omega) h h3
theorem take_mem {α : Type} {xs : List α} {k : Nat} {y : α} (h : y ∈ xs.take k) : ∃ i, i < k ∧ xs[i]? = some y := by
  obtain ⟨i, hi, e⟩ := List.mem_iff_getElem.1 h
  rw [List.length_take] at hi
  refine ⟨i, by omega, ?_⟩
  rw [List.getElem_take] at e
  rw [List.getElem?_eq_getElem (by omega), e]
theorem drop_mem {α : Type} {xs : List α} {k : Nat} {y : α} (h : y ∈ xs.drop k) : ∃ i, k ≤ i ∧ i < xs.length ∧ xs[i]? = some y := by
  obtain ⟨i, hi, e⟩ := List.mem_iff_getElem.1 h
  rw [List.length_drop] at hi
  refine ⟨k + i, by omega, by omega, ?_⟩
  rw [List.getElem_drop] at e
  rw [List.getElem?_eq_getElem (by omega), e]
theorem ins_above {m : MG} {xs : List MG} {y : MG} (h : y ∈ xs.drop (insK m xs xs.length)) : aheadM m y = true := by
  obtain ⟨i, h1, h2, h3⟩ := drop_mem h
  exact insK_above h1 h2 h3
theorem ins_below {m : MG} {xs : List MG} (hs : Srt xs) {y : MG} (h : y ∈ xs.take (insK m xs xs.length)) : aheadM m y = false := by
  obtain ⟨i, h1, h2⟩ := take_mem h
  exact insK_below hs (Nat.le_refl _) h1 h2
theorem srt_ins {m : MG} {xs : List MG} (hs : Srt xs) : Srt (insM m xs) := by
  have hsp : Srt (xs.take (insK m xs xs.length) ++ xs.drop (insK m xs xs.length)) := by rw [List.take_append_drop]; exact hs
  unfold Srt at hsp
  rw [List.pairwise_append] at hsp
  unfold insM Srt
  rw [List.append_assoc, List.pairwise_append]
  refine ⟨hsp.1, ?_, fun a ha b hb => ?_⟩
  · rw [List.singleton_append, List.pairwise_cons]
    exact ⟨fun b hb => ahead_asymm (ins_above hb), hsp.2.1⟩
  · rw [List.singleton_append] at hb
    rcases List.mem_cons.1 hb with e | hb
    · rw [e]; exact ins_below hs ha
    · exact hsp.2.2 a ha b hb
theorem filter_ins (z m : MG) (xs : List MG) : (insM m xs).filter (eqv z) = xs.filter (eqv z) ++ (if eqv z m then [m] else []) := by
  unfold insM
  rw [List.filter_append, List.filter_append]
  have e : xs.filter (eqv z) = (xs.take (insK m xs xs.length)).filter (eqv z) ++ (xs.drop (insK m xs xs.length)).filter (eqv z) := by rw [← List.filter_append, List.take_append_drop]
  rw [e]
  cases h : eqv z m
  · simp [h]
  · have hd : (xs.drop (insK m xs xs.length)).filter (eqv z) = [] := by
      rw [List.filter_eq_nil_iff]
      intro y hy
      have h1 := ins_above hy
      have h2 := eqv_iff.1 h
      intro h3
      have h4 := eqv_iff.1 h3
      rw [le_ahead (a := z) (b := m) h2.2 h1] at h4
      cases h4.1
    rw [hd]
    simp [h]
theorem srt_acc (ys : List MG) : ∀ {acc : List MG}, Srt acc → Srt (accM acc ys) := by
  induction ys with
  | nil => intro acc h; exact h
  | cons y ys ih => intro acc h; exact ih (srt_ins h)
theorem filter_acc (z : MG) (ys : List MG) : ∀ (acc : List MG), (accM acc ys).filter (eqv z) = acc.filter (eqv z) ++ ys.filter (eqv z) := by
  induction ys with
  | nil => intro acc; simp [accM]
  | cons y ys ih =>
    intro acc
    show (accM (insM y acc) ys).filter (eqv z) = _
    rw [ih, filter_ins, List.filter_cons]
    cases eqv z y <;> simp
/-- Messages in order, those alike as they stood. -/
def stab (L : List MG) : List MG := accM [] L
theorem srt_stab (L : List MG) : Srt (stab L) := srt_acc L List.Pairwise.nil
theorem stab_filter (z : MG) (L : List MG) : (stab L).filter (eqv z) = L.filter (eqv z) := by unfold stab; rw [filter_acc]; simp
theorem stab_len (L : List MG) : (stab L).length = L.length := by unfold stab; rw [accM_len]; simp
theorem mem_of_filter {R L : List MG} (h : ∀ z, R.filter (eqv z) = L.filter (eqv z)) {x : MG} (hx : x ∈ R) : x ∈ L := by
  have : x ∈ R.filter (eqv x) := List.mem_filter.2 ⟨hx, eqv_self x⟩
  rw [h x] at this
  exact (List.mem_filter.1 this).1
theorem stab_mem {L : List MG} {x : MG} (h : x ∈ stab L) : x ∈ L := mem_of_filter (fun z => stab_filter z L) h
theorem uniq {R : List MG} : ∀ {R2 : List MG}, Srt R → Srt R2 → (∀ z, R.filter (eqv z) = R2.filter (eqv z)) → R = R2 := by
  induction R with
  | nil =>
    intro R2 _ _ h
    cases R2 with
    | nil => rfl
    | cons y ys => have := mem_of_filter (fun z => (h z).symm) (x := y) List.mem_cons_self; cases this
  | cons x xs ih =>
    intro R2 h1 h2 h
    cases R2 with
    | nil => have := mem_of_filter h (x := x) List.mem_cons_self; cases this
    | cons y ys =>
      unfold Srt at h1 h2
      have hx : x ∈ y :: ys := mem_of_filter h List.mem_cons_self
      have hy : y ∈ x :: xs := mem_of_filter (fun z => (h z).symm) List.mem_cons_self
      rw [List.pairwise_cons] at h1 h2
      have exy : eqv x y = true := by
        refine eqv_iff.2 ⟨?_, ?_⟩
        · rcases List.mem_cons.1 hx with e | hx
          · rw [e]; exact ahead_irr _
          · exact h2.1 x hx
        · rcases List.mem_cons.1 hy with e | hy
          · rw [e]; exact ahead_irr _
          · exact h1.1 y hy
      have q := h x
      rw [List.filter_cons, List.filter_cons, eqv_self, exy] at q
      simp only [if_true] at q
      injection q with q1 q2
      subst q1
      congr 1
      refine ih h1.2 h2.2 (fun z => ?_)
      have qz := h z
      rw [List.filter_cons, List.filter_cons] at qz
      cases hz : eqv z x
      · simpa [hz] using qz
      · simp only [hz, if_true] at qz
        injection qz
theorem stab_of {R L : List MG} (h1 : Srt R) (h2 : ∀ z, R.filter (eqv z) = L.filter (eqv z)) : R = stab L :=
  uniq h1 (srt_stab L) (fun z => by rw [h2, stab_filter])
/-- Two rows in order, merged in two parts. -/
theorem merge_parts {U1 U2 V1 V2 : List MG} (hU : Srt (U1 ++ U2)) (hV : Srt (V1 ++ V2)) (h1 : ∀ x ∈ V1, ∀ y ∈ U2, aheadM x y = true) (h2 : ∀ x ∈ U1, ∀ y ∈ V2, aheadM y x = false) :
    stab (U1 ++ V1) ++ stab (U2 ++ V2) = stab ((U1 ++ U2) ++ (V1 ++ V2)) := by
  unfold Srt at hU hV
  rw [List.pairwise_append] at hU hV
  refine stab_of ?_ (fun z => ?_)
  · unfold Srt
    rw [List.pairwise_append]
    refine ⟨srt_stab _, srt_stab _, fun x hx y hy => ?_⟩
    rcases List.mem_append.1 (stab_mem hx) with hx | hx <;> rcases List.mem_append.1 (stab_mem hy) with hy | hy
    · exact hU.2.2 x hx y hy
    · exact h2 x hx y hy
    · exact ahead_asymm (h1 x hx y hy)
    · exact hV.2.2 x hx y hy
  · rw [List.filter_append, stab_filter, stab_filter]
    simp only [List.filter_append, List.append_assoc]
    congr 1
    rw [← List.append_assoc, ← List.append_assoc]
    congr 1
    cases hv : V1.filter (eqv z) with
    | nil => simp
    | cons x xs =>
      have hx := List.mem_filter.1 (hv ▸ List.mem_cons_self : x ∈ V1.filter (eqv z))
      have : U2.filter (eqv z) = [] := by
        rw [List.filter_eq_nil_iff]
        intro y hy h3
        have a1 := eqv_iff.1 hx.2
        have a2 := eqv_iff.1 h3
        have := h1 x hx.1 y hy
        rw [le_ahead (a := z) (b := x) a1.2 this] at a2
        cases a2.1
      rw [this]; simp
theorem stab_stab (M N : List MG) : stab (stab M ++ stab N) = stab (M ++ N) := by
  refine (stab_of (srt_stab _) (fun z => ?_))
  rw [stab_filter, List.filter_append, stab_filter, stab_filter, List.filter_append]
theorem stab_srt {L : List MG} (h : Srt L) : stab L = L := (stab_of h (fun _ => rfl)).symm
theorem ord_ahead (a b : MG) : decide (ordM a b < 0) = aheadM a b := by
  unfold ordM orI cmpI cmpS aheadM
  by_cases h : a.sq < b.sq
  · simp [h]
  · by_cases h2 : b.sq < a.sq
    · have h3 : (a.sq == b.sq) = false := by rw [beq_eq_false_iff_ne]; omega
      simp [h, h2, h3]
    · have h3 : a.sq = b.sq := by omega
      rw [h3]
      cases k : lt a.ky b.ky
      · cases k2 : lt b.ky a.ky <;> simp [k, k2]
      · simp [k]
end Go.Proofs.Ytilnpeekajnlhaa
namespace Go.Proofs.Ytilnpeekajnlhaa
open Go.RowKit Go.Maps
/-- Messages lie in a block, and nothing but that block was changed since. -/
structure InP (w0 : World) (b off : Nat) (xs : List MG) (W : World) : Prop where
  obj : ∃ cs, W.heap[b]? = some (.cells cs 62 (0, 0)) ∧ ∀ j u, (EG.all xs)[j]? = some u → cs[off + j]? = some u
  chg : Chg (fun g => g = b) w0 W
theorem InP.later {w0 : World} {b off : Nat} {xs : List MG} {W W2 : World} (h : InP w0 b off xs W) (k : Below W.heap.size W W2) : InP w0 b off xs W2 := by
  obtain ⟨cs, z, hc⟩ := h.obj
  exact ⟨⟨cs, keep_bel k z, hc⟩, h.chg.trans (Chg.of_below k) (fun g hg => .inl hg)⟩
theorem InP.trans {w0 w1 w2 : World} {b off : Nat} {xs ys : List MG} (h : InP w0 b off xs w1) (k : InP w1 b off ys w2) : InP w0 b off ys w2 :=
  ⟨k.obj, h.chg.trans k.chg (fun g hg => .inl hg)⟩
theorem InP.refl {w0 : World} {b off : Nat} {xs : List MG} {W : World} (h : InP w0 b off xs W) : InP W b off xs W := ⟨h.obj, Chg.refl _ _⟩
theorem InP.rd {w0 : World} {b off : Nat} {xs : List MG} {W : World} (h : InP w0 b off xs W) : EG.Rd W (some ⟨b, off, none⟩) xs := by
  obtain ⟨cs, z, hc⟩ := h.obj
  refine .inr ⟨b, off, rfl, ?_, fun j u hu => ?_⟩
  · rcases Nat.lt_or_ge b W.heap.size with h' | h'
    · exact h'
    · rw [Array.getElem?_eq_none h'] at z; cases z
  · simp [World.cell?, z, hc j u hu]
theorem InP.frz {w0 : World} {b off : Nat} {xs : List MG} {W : World} (h : InP w0 b off xs W) (p : Nat) : W.frozen? ⟨b, p, none⟩ = false := by
  obtain ⟨cs, z, hc⟩ := h.obj
  simp [World.frozen?, z]
def six (cs : Array Value) (o : Nat) (y : MG) : Array Value := (((((cs.setIfInBounds o (.int .u8 y.kd)).setIfInBounds (o + 1) (.int .i64 y.sq)).setIfInBounds (o + 2) (.string y.ky)).setIfInBounds (o + 3) (.string y.to)).setIfInBounds (o + 4) (.string y.vl)).setIfInBounds (o + 5) (.int .u64 y.dl)
theorem six_far (cs : Array Value) (o : Nat) (y : MG) (p : Nat) (h : p < o ∨ o + 6 ≤ p) : (six cs o y)[p]? = cs[p]? := by
  unfold six
  simp only [Array.getElem?_setIfInBounds, Array.size_setIfInBounds]
  rw [if_neg (by omega), if_neg (by omega), if_neg (by omega), if_neg (by omega), if_neg (by omega), if_neg (by omega)]
theorem six_at (cs : Array Value) (o : Nat) (y : MG) (h : o + 6 ≤ cs.size) {r : Nat} {u : Value} (hu : (EG.cs y)[r]? = some u) : (six cs o y)[o + r]? = some u := by
  unfold six
  simp only [Array.getElem?_setIfInBounds, Array.size_setIfInBounds]
  match r, hu with
  | 0, hu => simp [EG] at hu; subst hu; simp; omega
  | 1, hu => simp [EG] at hu; subst hu; simp; omega
  | 2, hu => simp [EG] at hu; subst hu; simp; omega
  | 3, hu => simp [EG] at hu; subst hu; simp; omega
  | 4, hu => simp [EG] at hu; subst hu; simp; omega
  | 5, hu => simp [EG] at hu; subst hu; simp; omega
  | r + 6, hu => simp [EG] at hu
abbrev put6 (W : World) (b o : Nat) (y : MG) : World := (((((W.setCell ⟨b, o, none⟩ (.int .u8 y.kd)).setCell ⟨b, o + 1, none⟩ (.int .i64 y.sq)).setCell ⟨b, o + 2, none⟩ (.string y.ky)).setCell ⟨b, o + 3, none⟩ (.string y.to)).setCell ⟨b, o + 4, none⟩ (.string y.vl)).setCell ⟨b, o + 5, none⟩ (.int .u64 y.dl)
theorem put6_obj {W : World} {b o : Nat} {cs : Array Value} {t : TypeId} {fr : Nat × Nat} (z : W.heap[b]? = some (.cells cs t fr)) (y : MG) : (put6 W b o y).heap[b]? = some (.cells (six cs o y) t fr) := by
  simp [World.setCell, Array.getElem?_modify, z, six]
theorem put6_chg (W : World) (b o : Nat) (y : MG) : Chg (fun g => g = b) W (put6 W b o y) := by
  have h : ∀ (V : World) (p : Nat) (v : Value), Chg (fun g => g = b) V (V.setCell ⟨b, p, none⟩ v) := fun V p v => Chg.set V v rfl
  have t : ∀ {A B C : World}, Chg (fun g => g = b) A B → Chg (fun g => g = b) B C → Chg (fun g => g = b) A C := fun x y => x.trans y (fun g hg => .inl hg)
  exact t (t (t (t (t (h W _ _) (h _ _ _)) (h _ _ _)) (h _ _ _)) (h _ _ _)) (h _ _ _)
theorem InP.set {w0 : World} {b off : Nat} {xs : List MG} {W : World} (h : InP w0 b off xs W) {i : Nat} (hi : i < xs.length) (y : MG) : InP w0 b off (xs.set i y) (put6 W b (off + i * 6) y) := by
  obtain ⟨cs, z, hc⟩ := h.obj
  refine ⟨⟨six cs (off + i * 6) y, put6_obj z y, fun j u hj => ?_⟩, h.chg.trans (put6_chg W b _ y) (fun g hg => .inl hg)⟩
  obtain ⟨k, r, x, h1, rfl, h3⟩ := RE.all_at EG hj
  have ek : EG.k = 6 := rfl
  rw [ek]
  have hr : r < 6 := by
    have q := (List.getElem?_eq_some_iff.1 h3).1
    rw [EG.len, ek] at q; exact q
  have hsz : off + i * 6 + 6 ≤ cs.size := by
    have hx : xs[i]? = some xs[i] := List.getElem?_eq_getElem hi
    have q := hc _ _ (EG.all_get hx (j := 5) (u := .int .u64 xs[i].dl) rfl)
    rw [ek] at q
    have := (Array.getElem?_eq_some_iff.1 q).1
    omega
  by_cases e : k = i
  · subst e
    rw [List.getElem?_set_self hi] at h1
    cases h1
    rw [← Nat.add_assoc]
    exact six_at cs (off + k * 6) y hsz h3
  · rw [List.getElem?_set_ne (Ne.symm e)] at h1
    have q := hc _ _ (EG.all_get h1 h3)
    rw [ek] at q
    rw [six_far cs (off + i * 6) y _ (by omega)]
    exact q
theorem inp_of_row {w : World} {base : Nat} {A : Option Addr} {l : List MG} {c : Nat} (h : EG.Row w base A l c) {x : MG} (hx : x ∈ l) : ∃ b, A = some ⟨b, 0, none⟩ ∧ base ≤ b ∧ b < w.heap.size ∧ InP w b 0 l w ∧ l.length ≤ c ∧ c ≤ maxLen := by
  rcases h with ⟨e, _⟩ | ⟨h0, h1, h2⟩
  · rw [e] at hx; cases hx
  · rcases h2 with ⟨hv, hn⟩ | ⟨g, cap, cur, hv, hb, hz, h3, h4, h5, h6⟩
    · injection hv with e1 e2 e3; omega
    · cases hv
      refine ⟨g, rfl, hb, ?_, ⟨⟨cur, hz, fun j u hu => ?_⟩, Chg.refl _ _⟩, h3, h4⟩
      · rcases Nat.lt_or_ge g w.heap.size with h' | h'
        · exact h'
        · rw [Array.getElem?_eq_none h'] at hz; cases hz
      · rw [Nat.zero_add]
        rw [← h6, List.getElem?_take] at hu
        split at hu
        · simpa using hu
        · cases hu
end Go.Proofs.Ytilnpeekajnlhaa
namespace Go.Proofs.Ytilnpeekajnlhaa
open Go.RowKit Go.Maps
theorem row_fresh (w : World) (n : Nat) (h0 : 0 < n) (hn : n ≤ 1000) :
    EG.Row (w.drew.alloc (.cells (Builtin.zeroCells EG.z.cells n ++ Builtin.zeroCells EG.z.cells (grownCap w n 0 62 - n)) 62)) w.heap.size (some ⟨w.heap.size, 0, none⟩) [] (grownCap w n 0 62) := by
  have h1 := grownCap_ge w n 0 62
  have h2 := grownCap_le_maxLen w n 0 62 (by unfold maxLen; omega)
  refine .inr ⟨by omega, by simp [RE.all], .inr ⟨w.heap.size, grownCap w n 0 62, Builtin.zeroCells EG.z.cells n ++ Builtin.zeroCells EG.z.cells (grownCap w n 0 62 - n), rfl, Nat.le_refl _, ?_, Nat.zero_le _, h2, ?_, by simp [RE.all]⟩⟩
  · exact heap_alloc_new w.drew _
  · rw [Array.size_append, size_zeroCells, size_zeroCells, ← Nat.add_mul]
    have : n + (grownCap w n 0 62 - n) = grownCap w n 0 62 := by omega
    rw [this]; rfl
set_option maxRecDepth 10000 in
set_option maxHeartbeats 4000000 in
theorem grow_nil (n : Nat) (hn : n ≤ 1000) (w : World) :
    Calls Try.prog 112 #[.slice none 0 0, .int .i64 n] w fun r w' => (∃ A c, r = .returned (.slice A 0 c) ∧ EG.Row w' w.heap.size A [] c) ∧ Below w.heap.size w w' := by
  have h1 : ¬ ((n : Int) < 0) := by omega
  go_enter Try.func112, Try.ntmps112
  by_cases hz : n = 0
  · subst hz
    go_wp2
    go_ret
    exact ⟨⟨none, 0, rfl, .inl ⟨rfl, rfl⟩⟩, Below.refl _ _⟩
  · have h2 : (0 : Int) < (n : Int) := by omega
    have h3 : 0 < n := by omega
    have hw : IntKind.i64.wrap (n : Int) = (n : Int) := IntWalk.i64_in _ (by omega)
    obtain ⟨i, hi, hzr, hsz, hby⟩ := EG.parts
    have HRUN := Lib.hid (Lib.run_append_nil_zeros (P := Try.prog) w 25 3 25 62 i EG.z .i64 .i64 Try.underlying25 Try.underlying3 hi hzr n h3 (by rw [hsz]; show 0 < 6; omega) (by omega) (by rw [hby]; show n * 72 ≤ _; omega))
    have HROW := Lib.hid (row_fresh w n h3 hn)
    have HBEL := Lib.hid (show Below w.heap.size w (w.drew.alloc (.cells (Builtin.zeroCells EG.z.cells n ++ Builtin.zeroCells EG.z.cells (grownCap w n 0 62 - n)) 62)) by go_grown)
    have HGC := Lib.hid (grownCap_ge w n 0 62)
    obtain ⟨W1, hW1⟩ : ∃ W1, W1 = w.drew.alloc (.cells (Builtin.zeroCells EG.z.cells n ++ Builtin.zeroCells EG.z.cells (grownCap w n 0 62 - n)) 62) := ⟨_, rfl⟩
    rw [← hW1] at HRUN HROW HBEL
    obtain ⟨c, hc⟩ : ∃ c, c = grownCap w n 0 62 := ⟨_, rfl⟩
    rw [← hc] at HRUN HROW HGC
    clear hW1 hc hi hzr hsz hby i
    have hnc := HGC.out
    go_wp2_with (first
      | (at_builtin; refine Lib.wpList_append_run _ rfl (.tmp 20) (.tmp 21) 25 3 rfl _ _ rfl rfl _ _ HRUN.out ?_)
      | fail)
    go_ret
    exact ⟨⟨_, _, rfl, HROW.out⟩, HBEL.out⟩
set_option maxRecDepth 10000 in
set_option maxHeartbeats 4000000 in
theorem concat_any (g : Nat) (A B : Option Addr) (n c m d : Nat) (xs ys : List MG) (w : World) (hg : w.heap[g]? = some (.cells #[.slice A n c, .slice B m d] 25 (0, 0)))
    (hx : xs.length = n) (hy : ys.length = m) (hn : n ≤ 100) (hm : m ≤ 100) (hA : EG.Rd w A xs) (hB : EG.Rd w B ys) :
    Calls Try.prog 87 #[.slice (some ⟨g, 0, none⟩) 2 2] w fun r w' => (∃ A' c', r = .returned (.slice A' (n + m) c') ∧ EG.Row w' w.heap.size A' (xs ++ ys) c') ∧ Below w.heap.size w w' := by
  have HG := Lib.hid hg
  have HX := Lib.hid hx
  have HY := Lib.hid hy
  have HA := Lib.hid hA
  have HB := Lib.hid hB
  obtain ⟨c0, c1, -, -⟩ := has_two hg
  clear hg hx hy hA hB
  have n1 : ¬ ((n : Int) < 0) := by omega
  have n2 : ¬ ((n : Int) + (m : Int) < 0) := by omega
  have AG := Lib.hid (grow_nil (n + m) (by omega) w)
  have hnm : ((n + m : Nat) : Int) = (n : Int) + (m : Int) := by omega
  rw [hnm] at AG
  clear hnm
  go_enter Try.func87, Try.ntmps87
  go_wp2
  go_loopw [3, 11] (fun sv iv wr => ((iv = .int .i64 0 ∧ sv = .int .i64 0 ∧ w = wr) ∨ (iv = .int .i64 1 ∧ sv = .int .i64 n ∧ w = wr) ∨ (iv = .int .i64 2 ∧ sv = .int .i64 ((n : Int) + m) ∧ w = wr))) (fun _ i _ => 2 - (intOf i).toNat)
  case atStart => exact .inl ⟨rfl, rfl, rfl⟩
  case round =>
    rcases hrel with ⟨rfl, rfl, rfl⟩ | ⟨rfl, rfl, rfl⟩ | ⟨rfl, rfl, rfl⟩
    · go_wp2
      exact ⟨.inr (.inl (by simp)), by simp [intOf]⟩
    · go_wp2
      exact ⟨.inr (.inr (by simp)), by simp [intOf]⟩
    · go_wp2_with (first
        | (go_at_call 112; ((with_reducible refine AG.out.mono ?_); rintro e w1 ⟨⟨A0, k0, rfl, r0⟩, b1⟩; have R0 := Lib.hid r0; have B1 := Lib.hid b1; clear r0))
        | fail)
      go_loopw [6, 27] (fun sv iv wr => (iv = .int .i64 0 ∧ sv = .slice A0 0 k0 ∧ Hid (EG.Row wr w.heap.size A0 [] k0) ∧ Below w.heap.size w wr) ∨ (∃ A1 k1, iv = .int .i64 1 ∧ sv = .slice A1 n k1 ∧ Hid (EG.Row wr w.heap.size A1 xs k1) ∧ Below w.heap.size w wr) ∨ (∃ A1 k1, iv = .int .i64 2 ∧ sv = .slice A1 (n + m) k1 ∧ Hid (EG.Row wr w.heap.size A1 (xs ++ ys) k1) ∧ Below w.heap.size w wr)) (fun _ i _ => 2 - (intOf i).toNat)
      case atStart => exact .inl ⟨rfl, rfl, R0, B1.out⟩
      case round =>
        rcases hrel with ⟨rfl, rfl, RR, hb⟩ | ⟨A1, k1, rfl, rfl, RR, hb⟩ | ⟨A1, k1, rfl, rfl, RR, hb⟩
        · have HBB := Lib.hid hb
          obtain ⟨e0, e1, -, -⟩ := has_two (keep_bel hb HG.out)
          clear hb
          go_wp2_with (first
            | (at_builtin; refine RE.wpList_put EG _ rfl (.tmp 31) (.tmp 32) rfl (base := w.heap.size) A0 0 k0 [] A n c xs rfl rfl RR.out rfl (by omega) HBB.out.size HX.out (by omega) (HA.out.later HBB.out) ?_; intro A2 k2 w2 r1 r2 r3; have R1 := Lib.hid r1; have BX := Lib.hid (HBB.out.trans (RE.Row.below r2 RR.out (Nat.le_refl _) HBB.out.size)); clear r1 r2 r3)
            | fail)
          exact ⟨.inr (.inl ⟨A2, k2, by simp, by simp, Lib.hid (by simpa using R1.out), BX.out⟩), by simp [intOf]⟩
        · have HBB := Lib.hid hb
          obtain ⟨e0, e1, -, -⟩ := has_two (keep_bel hb HG.out)
          clear hb
          go_wp2_with (first
            | (at_builtin; refine RE.wpList_put EG _ rfl (.tmp 31) (.tmp 32) rfl (base := w.heap.size) A1 n k1 xs B m d ys rfl rfl RR.out HX.out (by omega) HBB.out.size HY.out (by omega) (HB.out.later HBB.out) ?_; intro A2 k2 w2 r1 r2 r3; have R1 := Lib.hid r1; have BX := Lib.hid (HBB.out.trans (RE.Row.below r2 RR.out (Nat.le_refl _) HBB.out.size)); clear r1 r2 r3)
            | fail)
          exact ⟨.inr (.inr ⟨A2, k2, by simp, rfl, R1, BX.out⟩), by simp [intOf]⟩
        · have HBB := Lib.hid hb
          clear hb
          go_wp2
          go_ret
          exact ⟨⟨_, _, rfl, RR.out⟩, HBB.out⟩
end Go.Proofs.Ytilnpeekajnlhaa
