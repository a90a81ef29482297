/- Texts of the proof, one behind the other. -/
import Derived.Test.YtilnpeekajnlhaaEk07
import Derived.Test.YtilnpeekajnlhaaEk09
import Derived.Test.YtilnpeekajnlhaaEk06
import Derived.Test.YtilnpeekajnlhaaEk01
import Derived.Test.YtilnpeekajnlhaaEk02
set_option linter.unusedVariables false
set_option linter.unusedSimpArgs false
namespace Go.Proofs.Ytilnpeekajnlhaa
theorem sb_no {f t : ByteArray} (h : sb f t = false) : emp t = false ∧ lt f t = false := by
  unfold sb at h; simpa using h
theorem sb_yes {f t : ByteArray} (h : sb f t = true) (he : emp t = false) : lt f t = true := by
  unfold sb at h; simpa [he] using h
theorem bef_no {T t : ByteArray} (h : bef T t = false) (he : emp T = false) : emp t = false ∧ lt T t = false := by
  unfold bef at h; simpa [he] using h
theorem nlt_of_lt {a b : ByteArray} (h : lt a b = true) : lt b a = false := bl_asymm _ _ h
/-- One message stands ahead of another one, apart from it. -/
def relM (p x : MG) : Prop := p.sq < x.sq ∨ (p.sq = x.sq ∧ sb (spF x) (spT p) = false)
theorem key_lt {p x : MG} (hp : rcX p = true) (hx : rcX x = true) (h : sb (spF x) (spT p) = false) : lt x.ky p.ky = false := by
  obtain ⟨_, p2, p3⟩ := kd_ok hp
  obtain ⟨_, x2, x3⟩ := kd_ok hx
  obtain ⟨e1, e2⟩ := sb_no h
  rw [p3] at p2
  rw [x3] at e2
  have := sb_yes p2 e1
  exact nlt_trans (nlt_of_lt this) e2
theorem rc_rel {p x : MG} (hp : rcX p = true) (hx : rcX x = true) : rcP p x = true ↔ relM p x := by
  cases he : (p.sq == x.sq)
  · have hne : p.sq ≠ x.sq := by simpa using he
    rw [rcP_ne he, ord_gt p x he]
    unfold relM
    simp [hne]
  · have hsq : p.sq = x.sq := by simpa using he
    rw [rcP_eq he hp hx, ord_eq p x he]
    unfold relM
    obtain ⟨_, _, x3⟩ := kd_ok hx
    constructor
    · intro h
      simp only [Bool.and_eq_true, Bool.not_eq_true'] at h
      exact .inr ⟨hsq, by rw [x3]; exact h.1⟩
    · intro h
      rcases h with h | ⟨_, h⟩
      · omega
      · rw [key_lt hp hx h]
        rw [x3] at h
        rw [h]; rfl
theorem rel_trans {p x y : MG} (hx : rcX x = true) (h1 : relM p x) (h2 : relM x y) : relM p y := by
  rcases h1 with h1 | ⟨h1, k1⟩
  · rcases h2 with h2 | ⟨h2, _⟩
    · exact .inl (by omega)
    · exact .inl (by omega)
  · rcases h2 with h2 | ⟨h2, k2⟩
    · exact .inl (by omega)
    · refine .inr ⟨by omega, ?_⟩
      obtain ⟨_, x2, _⟩ := kd_ok hx
      obtain ⟨a1, a2⟩ := sb_no k1
      obtain ⟨b1, b2⟩ := sb_no k2
      have c := sb_yes x2 b1
      unfold sb
      rw [a1, Bool.false_or]
      exact nlt_trans a2 (nlt_trans (nlt_of_lt c) b2)
theorem ahead_of_rel {p x : MG} (hp : rcX p = true) (hx : rcX x = true) (h : relM p x) : aheadM x p = false := by
  unfold aheadM
  rcases h with h | ⟨h, k⟩
  · have h1 : ¬ x.sq < p.sq := by omega
    have h2 : (x.sq == p.sq) = false := by rw [beq_eq_false_iff_ne]; omega
    simp [h1, h2]
  · rw [key_lt hp hx k, h]; simp
theorem right_iff (xs : List MG) : rightB xs = true ↔ (∀ x ∈ xs, rcX x = true) ∧ xs.Pairwise relM := by
  constructor
  · intro h
    have hx : ∀ i (hi : i < xs.length), rcX xs[i] = true := by
      intro i hi
      have q := right_at h hi
      have hx2 : xs[i]? = some xs[i] := List.getElem?_eq_getElem hi
      cases i with
      | zero => rw [rcI_zero hx2] at q; exact q
      | succ j =>
        have hp : xs[j]? = some xs[j] := List.getElem?_eq_getElem (by omega)
        rw [rcI_succ hp hx2, Bool.and_eq_true] at q
        exact q.1
    refine ⟨fun x hm => ?_, ?_⟩
    · obtain ⟨i, hi, rfl⟩ := List.mem_iff_getElem.1 hm
      exact hx i hi
    · rw [List.pairwise_iff_getElem]
      intro i j hi hj hij
      induction j with
      | zero => omega
      | succ j ih =>
        have hp : xs[j]? = some xs[j] := List.getElem?_eq_getElem (by omega)
        have hx2 : xs[j + 1]? = some xs[j + 1] := List.getElem?_eq_getElem hj
        have q := right_at h hj
        rw [rcI_succ hp hx2, Bool.and_eq_true] at q
        have r := (rc_rel (hx j (by omega)) (hx (j + 1) hj)).1 q.2
        rcases (by omega : i = j ∨ i < j) with e | e
        · subst e; exact r
        · exact rel_trans (hx j (by omega)) (ih (by omega) e) r
  · intro ⟨h1, h2⟩
    rw [List.pairwise_iff_getElem] at h2
    refine right_yes (fun i hi => ?_)
    have hx2 : xs[i]? = some xs[i] := List.getElem?_eq_getElem hi
    have hx := h1 _ (List.getElem_mem hi)
    cases i with
    | zero => rw [rcI_zero hx2]; exact hx
    | succ j =>
      have hp : xs[j]? = some xs[j] := List.getElem?_eq_getElem (by omega)
      rw [rcI_succ hp hx2, hx, Bool.true_and]
      exact (rc_rel (h1 _ (List.getElem_mem _)) hx).2 (h2 j (j + 1) (by omega) hi (by omega))
/-- A message of the same number that touches no more. -/
structure SubM (q x : MG) : Prop where
  rc : rcX q = true
  sq : q.sq = x.sq
  lo : lt (spF q) (spF x) = false
  hi : bef (spT x) (spT q) = false
theorem SubM.refl {x : MG} (h : rcX x = true) : SubM x x := ⟨h, rfl, lt_irr _, by unfold bef; cases emp (spT x) <;> simp [lt_irr]⟩
theorem rel_sub {p x p' x' : MG} (h : relM p x) (hp : SubM p' p) (hx : SubM x' x) : relM p' x' := by
  rcases h with h | ⟨h, k⟩
  · exact .inl (by rw [hp.sq, hx.sq]; exact h)
  · refine .inr ⟨by rw [hp.sq, hx.sq]; exact h, ?_⟩
    obtain ⟨a1, a2⟩ := sb_no k
    obtain ⟨b1, b2⟩ := bef_no hp.hi a1
    unfold sb
    rw [b1, Bool.false_or]
    exact nlt_trans (nlt_trans b2 a2) hx.lo
theorem over_span {m : MG} (h4 : m.kd = 4) (f t : ByteArray) : spF (overM m f t) = f ∧ spT (overM m f t) = t := by
  have e1 : (overM m f t).kd = 4 := h4
  unfold spF spT
  rw [e1]
  exact ⟨rfl, rfl⟩
theorem over_sub {m : MG} (hm : rcX m = true) (h4 : m.kd = 4) {f t : ByteArray} (hs : sb f t = true) (lo : lt f m.ky = false) (hi : bef m.to t = false) : SubM (overM m f t) m := by
  obtain ⟨e1, e2⟩ := over_span h4 f t
  have k1 : spF m = m.ky := (kd_ok hm).2.2
  have k2 : spT m = m.to := by unfold spT; rw [h4]; rfl
  refine ⟨?_, rfl, by rw [e1, k1]; exact lo, by rw [e2, k2]; exact hi⟩
  refine kd_good (.inr ⟨?_, ?_⟩) (by rw [e1, e2]; exact hs)
  · show isPt m.kd = false; rw [h4]; rfl
  · show (m.kd == 4) = true; rw [h4]; rfl
theorem meet_in {a0 a1 b0 b1 : ByteArray} (h : (meetF a0 a1 b0 b1).2.2 = true) (ha : sb a0 a1 = true) :
    sb (meetF a0 a1 b0 b1).1 (meetF a0 a1 b0 b1).2.1 = true ∧ lt (meetF a0 a1 b0 b1).1 a0 = false ∧ bef a1 (meetF a0 a1 b0 b1).2.1 = false := by
  by_cases hb : sb b0 b1 = true
  · rw [meetF_E _ _ _ _ ha hb] at h ⊢
    unfold meetE at h ⊢
    split at h
    · next k =>
      rw [if_pos k]
      refine ⟨k, ?_, ?_⟩
      · show lt (maxS a0 b0) a0 = false
        unfold maxS; split
        · next q => exact nlt_of_lt q
        · exact lt_irr _
      · show bef a1 (firstS a1 b1) = false
        unfold firstS; split
        · next q => exact bef_asymm b1 a1 q
        · unfold bef; cases emp a1 <;> simp [lt_irr]
    · cases h
  · exfalso
    unfold meetF at h
    rw [if_neg (fun q => hb q.2)] at h
    cases h
theorem clip_sub {m : MG} (hm : rcX m = true) {a b : ByteArray} (h : (clipM m a b).2 = true) : SubM (clipM m a b).1 m := by
  obtain ⟨k1, k2, k3⟩ := kd_ok hm
  rcases k1 with k1 | ⟨k1, k4⟩
  · unfold clipM at h ⊢
    rw [k1] at h ⊢
    simp only [if_true] at h ⊢
    cases e : (sb a b && has a b m.ky)
    · rw [e] at h; cases h
    · exact SubM.refl hm
  · have h4 : m.kd = 4 := by simpa using k4
    have e1 : spF m = m.ky := k3
    have e2 : spT m = m.to := by unfold spT; rw [h4]; rfl
    rw [e1, e2] at k2
    unfold clipM at h ⊢
    rw [k1, k4] at h ⊢
    simp only [if_true, Bool.false_eq_true, if_false] at h ⊢
    cases e : (meetF m.ky m.to a b).2.2
    · rw [e] at h; cases h
    · obtain ⟨q1, q2, q3⟩ := meet_in e k2
      exact over_sub hm h4 q1 q2 q3
theorem rest_sub {m : MG} (hm : rcX m = true) (a b : ByteArray) : (∀ q ∈ restM m a b, SubM q m) ∧ (restM m a b).Pairwise relM := by
  obtain ⟨k1, k2, k3⟩ := kd_ok hm
  cases hc : (clipM m a b).2
  · have e : restM m a b = [m] := by
      unfold restM restQ
      rw [hc]
      rcases k1 with k1 | ⟨k1, k4⟩
      · rw [k1]; rfl
      · rw [k1, k4]; rfl
    rw [e]
    exact ⟨fun q hq => by rw [List.mem_singleton.1 hq]; exact SubM.refl hm, List.pairwise_singleton _ _⟩
  · rcases k1 with k1 | ⟨k1, k4⟩
    · have e : restM m a b = [] := by unfold restM restQ; rw [hc, k1]; rfl
      rw [e]
      exact ⟨fun q hq => (by cases hq), List.Pairwise.nil⟩
    · have h4 : m.kd = 4 := by simpa using k4
      have e1 : spF m = m.ky := k3
      have e2 : spT m = m.to := by unfold spT; rw [h4]; rfl
      rw [e1, e2] at k2
      have hcl := hc
      unfold clipM at hcl
      rw [k1, k4] at hcl
      simp only [if_true, Bool.false_eq_true, if_false] at hcl
      have ec : clipM m a b = (overM m (meetF m.ky m.to a b).1 (meetF m.ky m.to a b).2.1, true) := by
        unfold clipM
        rw [k1, k4]
        simp only [if_true, Bool.false_eq_true, if_false]
        cases e : (meetF m.ky m.to a b).2.2
        · rw [e] at hcl; cases hcl
        · rfl
      have hm2 : (meetF m.ky m.to a b).2.2 = true := by
        cases e : (meetF m.ky m.to a b).2.2
        · rw [e] at hcl; cases hcl
        · rfl
      obtain ⟨q1, q2, q3⟩ := meet_in hm2 k2
      obtain ⟨f, hf⟩ : ∃ f, (meetF m.ky m.to a b).1 = f := ⟨_, rfl⟩
      obtain ⟨t, ht⟩ : ∃ t, (meetF m.ky m.to a b).2.1 = t := ⟨_, rfl⟩
      rw [hf, ht] at q1 ec
      rw [hf] at q2
      rw [ht] at q3
      have er : restM m a b = (if lt m.ky f then [overM m m.ky f] else []) ++ (if bef t m.to then [overM m t m.to] else []) := by
        unfold restM restQ; rw [ec, k1, k4]; rfl
      have hL : lt m.ky f = true → SubM (overM m m.ky f) m := fun h => over_sub hm h4 (by unfold sb; rw [h]; simp) (lt_irr _) (by
        cases et : emp m.to
        · obtain ⟨g1, g2⟩ := bef_no q3 et
          unfold bef
          have := sb_yes q1 g1
          have hfe : emp f = false := by
            unfold emp
            cases hz : f.toList.isEmpty
            · rfl
            · rw [List.isEmpty_iff] at hz
              unfold lt at h; rw [hz, bl_nil] at h; cases h
          rw [et, hfe]
          simp only [Bool.not_false, Bool.true_and, Bool.false_or]
          exact nlt_of_lt (lt_of_lt_nlt this g2)
        · unfold bef; rw [et]; rfl)
      have hR : bef t m.to = true → SubM (overM m t m.to) m := fun h => over_sub hm h4 (by
          unfold bef at h; unfold sb
          simp only [Bool.and_eq_true] at h
          exact h.2) (by
          have het : emp t = false := by unfold bef at h; simp only [Bool.and_eq_true, Bool.not_eq_true'] at h; exact h.1
          exact nlt_trans q2 (nlt_of_lt (sb_yes q1 het))) (by unfold bef; cases emp m.to <;> simp [lt_irr])
      rw [er]
      cases c1 : lt m.ky f <;> cases c2 : bef t m.to
      · exact ⟨fun q hq => (by simp at hq), by simp⟩
      · refine ⟨fun q hq => ?_, by simp⟩
        simp at hq; subst hq; exact hR c2
      · refine ⟨fun q hq => ?_, by simp⟩
        simp at hq; subst hq; exact hL c1
      · refine ⟨fun q hq => ?_, ?_⟩
        · simp at hq
          rcases hq with hq | hq <;> subst hq
          · exact hL c1
          · exact hR c2
        · simp
          refine .inr ⟨rfl, ?_⟩
          rw [(over_span h4 t m.to).1, (over_span h4 m.ky f).2]
          have het : emp t = false := by unfold bef at c2; simp only [Bool.and_eq_true, Bool.not_eq_true'] at c2; exact c2.1
          have hfe : emp f = false := by
            unfold emp
            cases hz : f.toList.isEmpty
            · rfl
            · rw [List.isEmpty_iff] at hz
              unfold lt at c1; rw [hz, bl_nil] at c1; cases c1
          unfold sb
          rw [hfe, Bool.false_or]
          exact nlt_of_lt (sb_yes q1 het)
theorem parts_right {xs : List MG} (h : rightB xs = true) (f : MG → List MG) (hf : ∀ x ∈ xs, (∀ q ∈ f x, SubM q x) ∧ (f x).Pairwise relM) : rightB (xs.flatMap f) = true := by
  rw [right_iff] at h ⊢
  refine ⟨fun q hq => ?_, ?_⟩
  · obtain ⟨x, hx, hq⟩ := List.mem_flatMap.1 hq
    exact ((hf x hx).1 q hq).rc
  · rw [List.pairwise_flatMap]
    refine ⟨fun x hx => (hf x hx).2, ?_⟩
    refine h.2.imp_of_mem (fun {p x} hp hx hr p' hp' x' hx' => rel_sub hr ((hf p hp).1 p' hp') ((hf x hx).1 x' hx'))
theorem forL_right {xs : List MG} (h : rightB xs = true) (a b : ByteArray) : rightB (forL a b xs) = true := by
  refine parts_right h _ (fun x hx => ?_)
  have hr := (right_iff xs).1 h
  cases hc : (clipM x a b).2
  · simp
  · simp
    exact clip_sub (hr.1 x hx) hc
theorem resL_right {xs : List MG} (h : rightB xs = true) (a b : ByteArray) : rightB (resL a b xs) = true :=
  parts_right h _ (fun x hx => rest_sub (((right_iff xs).1 h).1 x hx) a b)
theorem right_take {xs : List MG} (h : rightB xs = true) (k : Nat) : rightB (xs.take k) = true := by
  rw [right_iff] at h ⊢
  exact ⟨fun x hx => h.1 x (List.mem_of_mem_take hx), h.2.sublist (List.take_sublist _ _)⟩
theorem ins_end {m : MG} {xs : List MG} (h : ∀ y ∈ xs, aheadM m y = false) : insM m xs = xs ++ [m] := by
  have e : insK m xs xs.length = xs.length := by
    cases hn : xs.length with
    | zero => rfl
    | succ n =>
      have hy : xs[n]? = some (xs[n]'(by omega)) := List.getElem?_eq_getElem (by omega)
      exact insK_no hy (h _ (List.getElem_mem _))
  unfold insM; rw [e]; simp
theorem acc_end {ys : List MG} : ∀ {acc : List MG}, (acc ++ ys).Pairwise (fun p x => aheadM x p = false) → accM acc ys = acc ++ ys := by
  induction ys with
  | nil => intro acc _; simp [accM]
  | cons y ys ih =>
    intro acc h
    have e : insM y acc = acc ++ [y] := ins_end (fun z hz => by
      rw [List.pairwise_append] at h
      exact h.2.2 z hz y List.mem_cons_self)
    show accM (insM y acc) ys = _
    rw [e, ih (by simpa using h)]; simp
theorem acc_right {xs : List MG} (h : rightB xs = true) : accM [] xs = xs := by
  have hr := (right_iff xs).1 h
  exact acc_end (by simpa using hr.2.imp_of_mem (fun {p x} hp hx hr2 => ahead_of_rel (hr.1 p hp) (hr.1 x hx) hr2))
end Go.Proofs.Ytilnpeekajnlhaa
namespace Go.Proofs.Ytilnpeekajnlhaa.Pv
open Go.RowKit

theorem retB_eq {a b : Bool} (h : b = a) : Ending.returned (.bool a) = Ending.returned (.bool b) := by rw [h]
/-- Texts behind a slice. -/
abbrev RdS (w : World) (A : Option Addr) (p : List ByteArray) : Prop := Rd w w.heap.size A (p.map Value.string)
def at_ (p : List ByteArray) (i : Nat) : ByteArray := p.getD i emptyS
theorem rds_get {w : World} {A : Option Addr} {p : List ByteArray} (h : RdS w A p) {k : Nat} (hk : k < p.length) : ∃ b off, A = some ⟨b, off, none⟩ ∧ b < w.heap.size ∧ w.cell? ⟨b, off + k, none⟩ = some (.string (at_ p k)) := by
  have := Rd.get h (k := k) (u := .string (at_ p k)) (by rw [List.getElem?_map, List.getElem?_eq_getElem hk, at_, List.getD_eq_getElem?_getD, List.getElem?_eq_getElem hk]; rfl)
  exact this
def riseK (p : List ByteArray) : Nat → Bool
  | 0 => true
  | k + 1 => riseK p k && (decide (k = 0) || lt (at_ p (k - 1)) (at_ p k))
def risesB (p : List ByteArray) : Bool := riseK p p.length
theorem rise_less {p : List ByteArray} {k : Nat} (h : riseK p k = false) : ∀ j, k ≤ j → riseK p j = false := by
  intro j hj
  induction j with
  | zero =>
    have e : k = 0 := by omega
    subst e; exact h
  | succ j ih =>
    by_cases e : k = j + 1
    · subst e; exact h
    · simp [riseK, ih (by omega)]
set_option maxHeartbeats 1000000 in
theorem rises_any (A : Option Addr) (p : List ByteArray) (n c : Nat) (w : World) (hl : p.length = n) (hn : n ≤ 1000) (hr : RdS w A p) :
    Calls Try.prog 78 #[.slice A n c] w fun e w' => e = .returned (.bool (risesB p)) ∧ Below w.heap.size w w' := by
  have HR := Lib.hid hr
  have HL := Lib.hid hl
  clear hr hl
  go_enter Try.func78, Try.ntmps78
  go_wp2
  go_loopw [3] (fun iv wr => ∃ k d : Nat, 1 ≤ k ∧ (k ≤ n ∨ k = 1) ∧ iv = .int .i64 k ∧ riseK p k = true ∧ wr = w.drewN d) (fun i _ => n + 1 - (intOf i).toNat)
  case atStart => exact ⟨1, 0, by omega, by omega, rfl, rfl, rfl⟩
  case round =>
    obtain ⟨k, d, hk1, hk, rfl, hh, hwr⟩ := hrel
    have HH := Lib.hid hh
    have HW := Lib.hid hwr
    clear hh hwr
    by_cases h8 : k < n
    · have i1 : (k : Int) < (n : Int) := by omega
      have i0 : (0 : Int) ≤ (k : Int) := by omega
      have i2 : (0 : Int) ≤ (k : Int) - 1 := by omega
      have i3 : (k : Int) - 1 < (n : Int) := by omega
      obtain ⟨b, off, rfl, hlt, f0⟩ := rds_get HR.out (k := k) (by have := HL.out; omega)
      obtain ⟨b2, off2, e2, _, f1⟩ := rds_get HR.out (k := k - 1) (by have := HL.out; omega)
      cases e2
      have g0 : wr.cell? ⟨b, off + k, none⟩ = some (.string (at_ p k)) := by rw [HW.out]; exact f0
      have g1 : wr.cell? ⟨b, off + (k - 1), none⟩ = some (.string (at_ p (k - 1))) := by rw [HW.out]; exact f1
      have e3 : ((k : Int) - 1).toNat = k - 1 := by omega
      have hst : riseK p (k + 1) = (riseK p k && (decide (k = 0) || lt (at_ p (k - 1)) (at_ p k))) := rfl
      have hk0 : decide (k = 0) = false := by simp; omega
      rw [HH.out, hk0, Bool.true_and, Bool.false_or] at hst
      obtain ⟨x, hx⟩ : ∃ x, x = at_ p k := ⟨_, rfl⟩
      obtain ⟨y, hy⟩ : ∃ y, y = at_ p (k - 1) := ⟨_, rfl⟩
      rw [← hx] at g0 hst
      rw [← hy] at g1 hst
      have HST := Lib.hid hst
      clear hst hx hy f0 f1 hk0
      cases hq : lt y x
      · have hr : Hid (risesB p = false) := Lib.hid (rise_less (k := k + 1) (by rw [HST.out, hq]) _ (by have := HL.out; omega))
        rcases le_facts y x hq with ⟨k1, k2⟩ | ⟨k1, k2⟩
        all_goals
          have k3 := (BEq.comm (a := y.toList) (b := x.toList)).trans k2
          have k4 : Op.bytesLess y.toList x.toList = false := hq
          clear hq
          go_wp2_with fail
          go_quiet (fail)
          go_wp2
          go_ret
          exact ⟨retB_eq hr.out, by rw [HW.out, World.drewN_drewN]; exact bel_drewN (Below.refl _ _) _⟩
      · obtain ⟨k1, k2⟩ := gt_facts y x hq
        have k3 := (BEq.comm (a := y.toList) (b := x.toList)).trans k2
        have k4 : Op.bytesLess y.toList x.toList = true := hq
        have hr : Hid (riseK p (k + 1) = true) := Lib.hid (by rw [HST.out, hq])
        clear hq
        go_wp2_with fail
        go_quiet (fail)
        go_wp2
        exact ⟨⟨k + 1, d + nq, by omega, by omega, by simp, hr.out, by rw [HW.out, World.drewN_drewN]⟩, by simp [intOf]; omega⟩
    · have i1 : ¬ (k : Int) < (n : Int) := by omega
      have hr : Hid (risesB p = true) := Lib.hid (by
        unfold risesB
        rw [HL.out]
        rcases Nat.eq_zero_or_pos n with h | h
        · rw [h]; rfl
        · have e : k = n := by omega
          rw [← e]; exact HH.out)
      go_wp2
      go_ret
      exact ⟨retB_eq hr.out, by rw [HW.out]; exact bel_drewN (Below.refl _ _) d⟩
set_option maxHeartbeats 1000000 in
theorem rrises_any (A : Option Addr) (p : List ByteArray) (n c : Nat) (w : World) (hl : p.length = n) (hn : n ≤ 1000) (hr : RdS w A p) :
    Calls Try.prog 65 #[.slice A n c] w fun e w' => e = .returned (.bool (risesB p)) ∧ Below w.heap.size w w' := by
  have HR := Lib.hid hr
  have HL := Lib.hid hl
  clear hr hl
  go_enter Try.func65, Try.ntmps65
  go_wp2
  go_loopw [3] (fun iv wr => ∃ k d : Nat, 1 ≤ k ∧ (k ≤ n ∨ k = 1) ∧ iv = .int .i64 k ∧ riseK p k = true ∧ wr = w.drewN d) (fun i _ => n + 1 - (intOf i).toNat)
  case atStart => exact ⟨1, 0, by omega, by omega, rfl, rfl, rfl⟩
  case round =>
    obtain ⟨k, d, hk1, hk, rfl, hh, hwr⟩ := hrel
    have HH := Lib.hid hh
    have HW := Lib.hid hwr
    clear hh hwr
    by_cases h8 : k < n
    · have i1 : (k : Int) < (n : Int) := by omega
      have i0 : (0 : Int) ≤ (k : Int) := by omega
      have i2 : (0 : Int) ≤ (k : Int) - 1 := by omega
      have i3 : (k : Int) - 1 < (n : Int) := by omega
      obtain ⟨b, off, rfl, hlt, f0⟩ := rds_get HR.out (k := k) (by have := HL.out; omega)
      obtain ⟨b2, off2, e2, _, f1⟩ := rds_get HR.out (k := k - 1) (by have := HL.out; omega)
      cases e2
      have g0 : wr.cell? ⟨b, off + k, none⟩ = some (.string (at_ p k)) := by rw [HW.out]; exact f0
      have g1 : wr.cell? ⟨b, off + (k - 1), none⟩ = some (.string (at_ p (k - 1))) := by rw [HW.out]; exact f1
      have e3 : ((k : Int) - 1).toNat = k - 1 := by omega
      have hst : riseK p (k + 1) = (riseK p k && (decide (k = 0) || lt (at_ p (k - 1)) (at_ p k))) := rfl
      have hk0 : decide (k = 0) = false := by simp; omega
      rw [HH.out, hk0, Bool.true_and, Bool.false_or] at hst
      obtain ⟨x, hx⟩ : ∃ x, x = at_ p k := ⟨_, rfl⟩
      obtain ⟨y, hy⟩ : ∃ y, y = at_ p (k - 1) := ⟨_, rfl⟩
      rw [← hx] at g0 hst
      rw [← hy] at g1 hst
      have HST := Lib.hid hst
      clear hst hx hy f0 f1 hk0
      cases hq : lt y x
      · have hr : Hid (risesB p = false) := Lib.hid (rise_less (k := k + 1) (by rw [HST.out, hq]) _ (by have := HL.out; omega))
        rcases le_facts y x hq with ⟨k1, k2⟩ | ⟨k1, k2⟩
        all_goals
          have k3 := (BEq.comm (a := y.toList) (b := x.toList)).trans k2
          have k4 : Op.bytesLess y.toList x.toList = false := hq
          clear hq
          go_wp2_with fail
          go_quiet (fail)
          go_wp2
          go_ret
          exact ⟨retB_eq hr.out, by rw [HW.out, World.drewN_drewN]; exact bel_drewN (Below.refl _ _) _⟩
      · obtain ⟨k1, k2⟩ := gt_facts y x hq
        have k3 := (BEq.comm (a := y.toList) (b := x.toList)).trans k2
        have k4 : Op.bytesLess y.toList x.toList = true := hq
        have hr : Hid (riseK p (k + 1) = true) := Lib.hid (by rw [HST.out, hq])
        clear hq
        go_wp2_with fail
        go_quiet (fail)
        go_wp2
        exact ⟨⟨k + 1, d + nq, by omega, by omega, by simp, hr.out, by rw [HW.out, World.drewN_drewN]⟩, by simp [intOf]; omega⟩
    · have i1 : ¬ (k : Int) < (n : Int) := by omega
      have hr : Hid (risesB p = true) := Lib.hid (by
        unfold risesB
        rw [HL.out]
        rcases Nat.eq_zero_or_pos n with h | h
        · rw [h]; rfl
        · have e : k = n := by omega
          rw [← e]; exact HH.out)
      go_wp2
      go_ret
      exact ⟨retB_eq hr.out, by rw [HW.out]; exact bel_drewN (Below.refl _ _) d⟩
end Go.Proofs.Ytilnpeekajnlhaa.Pv
namespace Go.Proofs.Ytilnpeekajnlhaa.Pv
open Go.RowKit

def prtK (p : List ByteArray) (s : ByteArray) : Nat → Nat
  | 0 => 0
  | k + 1 => prtK p s k + (if lt s (at_ p k) = true then 0 else 1)
def prt (p : List ByteArray) (s : ByteArray) : Nat := prtK p s p.length
theorem prtK_le (p : List ByteArray) (s : ByteArray) : ∀ k, prtK p s k ≤ k
  | 0 => Nat.le_refl _
  | k + 1 => by have := prtK_le p s k; simp only [prtK]; split <;> omega
set_option maxHeartbeats 1000000 in
theorem part_any (A : Option Addr) (p : List ByteArray) (n c : Nat) (s : ByteArray) (w : World) (hl : p.length = n) (hn : n ≤ 1000) (hr : RdS w A p) :
    Calls Try.prog 71 #[.slice A n c, .string s] w fun e w' => e = .returned (.int .i64 (prt p s : Nat)) ∧ Below w.heap.size w w' := by
  have HR := Lib.hid hr
  have HL := Lib.hid hl
  clear hr hl
  go_enter Try.func71, Try.ntmps71
  go_wp2
  go_loopw [5, 7, 10] (fun nv _ iv wr => ∃ k d : Nat, k ≤ n ∧ iv = .int .i64 k ∧ nv = .int .i64 (prtK p s k : Nat) ∧ wr = w.drewN d) (fun _ _ i _ => n - (intOf i).toNat)
  case atStart => exact ⟨0, 0, by omega, rfl, rfl, rfl⟩
  case round =>
    obtain ⟨k, d, hk, rfl, rfl, hwr⟩ := hrel
    have HW := Lib.hid hwr
    clear hwr
    have HPL := Lib.hid (prtK_le p s k)
    by_cases h8 : k < n
    · have i1 : (k : Int) < (n : Int) := by omega
      have i0 : (0 : Int) ≤ (k : Int) := by omega
      obtain ⟨b, off, rfl, hlt, f0⟩ := rds_get HR.out (k := k) (by have := HL.out; omega)
      have g0 : wr.cell? ⟨b, off + k, none⟩ = some (.string (at_ p k)) := by rw [HW.out]; exact f0
      have hst : prtK p s (k + 1) = prtK p s k + (if lt s (at_ p k) = true then 0 else 1) := rfl
      obtain ⟨x, hx⟩ : ∃ x, x = at_ p k := ⟨_, rfl⟩
      rw [← hx] at g0 hst
      obtain ⟨q, hq⟩ : ∃ q, q = prtK p s k := ⟨_, rfl⟩
      have hq1 : q ≤ 1000 := by have := HPL.out; omega
      have hq2 : (0 : Int) ≤ (q : Int) := by omega
      have hq3 : (q : Int) ≤ 1000 := by omega
      rw [← hq] at hst ⊢
      have HST := Lib.hid hst
      clear hst hx f0 hq
      cases hv : lt s x
      · have hr : Hid (((prtK p s (k + 1) : Nat) : Int) = (q : Int) + 1) := Lib.hid (by rw [HST.out, hv]; simp)
        rcases le_facts s x hv with ⟨k1, k2⟩ | ⟨k1, k2⟩
        all_goals
          clear hv HST
          go_wp2
          refine ⟨⟨k + 1, d, by omega, by simp, by rw [hr.out], HW.out⟩, ?_⟩
          simp [intOf]
          omega
      · obtain ⟨k1, k2⟩ := gt_facts s x hv
        have hr : Hid (((prtK p s (k + 1) : Nat) : Int) = (q : Int)) := Lib.hid (by rw [HST.out, hv]; simp)
        clear hv HST
        go_wp2
        refine ⟨⟨k + 1, d, by omega, by simp, by rw [hr.out], HW.out⟩, ?_⟩
        simp [intOf]
        omega
    · have i1 : ¬ (k : Int) < (n : Int) := by omega
      have hr : Hid (prt p s = prtK p s k) := Lib.hid (by unfold prt; rw [HL.out]; congr 1; omega)
      go_wp2
      go_ret
      exact ⟨by rw [hr.out]; rfl, by rw [HW.out]; exact bel_drewN (Below.refl _ _) d⟩

end Go.Proofs.Ytilnpeekajnlhaa.Pv
