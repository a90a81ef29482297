/- Texts of the proof, one behind the other. -/
import Derived.Test.YtilnpeekajnlhaaGreatTh07
import Derived.Test.YtilnpeekajnlhaaGreatTh09
import Derived.Test.YtilnpeekajnlhaaGreatTh06
import Derived.Test.YtilnpeekajnlhaaGreatRows
import Derived.WalkKit
import Derived.WalkSpells
import Derived.WalkLawsBesides
import Derived.Below
import Derived.Laws.IdiomStrings
import Derived.Lib.Hide
set_option linter.unusedVariables false
set_option linter.unusedSimpArgs false
namespace Go.Proofs.YtilnpeekajnlhaaGreat
theorem sb_no {f t : ByteArray} (h : sb f t = false) : emp t = false ∧ lt f t = false := by
  unfold sb at h; simpa using h
theorem sb_yes {f t : ByteArray} (h : sb f t = true) (he : emp t = false) : lt f t = true := by
  unfold sb at h; simpa [he] using h
theorem bef_no {T t : ByteArray} (h : bef T t = false) (he : emp T = false) : emp t = false ∧ lt T t = false := by
  unfold bef at h; simpa [he] using h
theorem nlt_of_lt {a b : ByteArray} (h : lt a b = true) : lt b a = false := bl_asymm _ _ h
/-- One message stands ahead of another one, apart from it. -/
def relM (p x : MG) : Prop := p.sq < x.sq ∨ (p.sq = x.sq ∧ sb (spF x) (spT p) = false)
theorem key_lt {p x : MG} (hp : rcX p = true) (hx : rcX x = true) (h : sb (spF x) (spT p) = false) : lt x.ky p.ky = false := by
  obtain ⟨_, p2, p3⟩ := kd_ok hp
  obtain ⟨_, x2, x3⟩ := kd_ok hx
  obtain ⟨e1, e2⟩ := sb_no h
  rw [p3] at p2
  rw [x3] at e2
  have := sb_yes p2 e1
  exact nlt_trans (nlt_of_lt this) e2
theorem rc_rel {p x : MG} (hp : rcX p = true) (hx : rcX x = true) : rcP p x = true ↔ relM p x := by
  cases he : (p.sq == x.sq)
  · have hne : p.sq ≠ x.sq := by simpa using he
    rw [rcP_ne he, ord_gt p x he]
    unfold relM
    simp [hne]
  · have hsq : p.sq = x.sq := by simpa using he
    rw [rcP_eq he hp hx, ord_eq p x he]
    unfold relM
    obtain ⟨_, _, x3⟩ := kd_ok hx
    constructor
    · intro h
      simp only [Bool.and_eq_true, Bool.not_eq_true'] at h
      exact .inr ⟨hsq, by rw [x3]; exact h.1⟩
    · intro h
      rcases h with h | ⟨_, h⟩
      · omega
      · rw [key_lt hp hx h]
        rw [x3] at h
        rw [h]; rfl
theorem rel_trans {p x y : MG} (hx : rcX x = true) (h1 : relM p x) (h2 : relM x y) : relM p y := by
  rcases h1 with h1 | ⟨h1, k1⟩
  · rcases h2 with h2 | ⟨h2, _⟩
    · exact .inl (by omega)
    · exact .inl (by omega)
  · rcases h2 with h2 | ⟨h2, k2⟩
    · exact .inl (by omega)
    · refine .inr ⟨by omega, ?_⟩
      obtain ⟨_, x2, _⟩ := kd_ok hx
      obtain ⟨a1, a2⟩ := sb_no k1
      obtain ⟨b1, b2⟩ := sb_no k2
      have c := sb_yes x2 b1
      unfold sb
      rw [a1, Bool.false_or]
      exact nlt_trans a2 (nlt_trans (nlt_of_lt c) b2)
theorem ahead_of_rel {p x : MG} (hp : rcX p = true) (hx : rcX x = true) (h : relM p x) : aheadM x p = false := by
  unfold aheadM
  rcases h with h | ⟨h, k⟩
  · have h1 : ¬ x.sq < p.sq := by omega
    have h2 : (x.sq == p.sq) = false := by rw [beq_eq_false_iff_ne]; omega
    simp [h1, h2]
  · rw [key_lt hp hx k, h]; simp
theorem right_iff (xs : List MG) : rightB xs = true ↔ (∀ x ∈ xs, rcX x = true) ∧ xs.Pairwise relM := by
  constructor
  · intro h
    have hx : ∀ i (hi : i < xs.length), rcX xs[i] = true := by
      intro i hi
      have q := right_at h hi
      have hx2 : xs[i]? = some xs[i] := List.getElem?_eq_getElem hi
      cases i with
      | zero => rw [rcI_zero hx2] at q; exact q
      | succ j =>
        have hp : xs[j]? = some xs[j] := List.getElem?_eq_getElem (by omega)
        rw [rcI_succ hp hx2, Bool.and_eq_true] at q
        exact q.1
    refine ⟨fun x hm => ?_, ?_⟩
    · obtain ⟨i, hi, rfl⟩ := List.mem_iff_getElem.1 hm
      exact hx i hi
    · rw [List.pairwise_iff_getElem]
      intro i j hi hj hij
      induction j with
      | zero => omega
      | succ j ih =>
        have hp : xs[j]? = some xs[j] := List.getElem?_eq_getElem (by omega)
        have hx2 : xs[j + 1]? = some xs[j + 1] := List.getElem?_eq_getElem hj
        have q := right_at h hj
        rw [rcI_succ hp hx2, Bool.and_eq_true] at q
        have r := (rc_rel (hx j (by omega)) (hx (j + 1) hj)).1 q.2
        rcases (by omega : i = j ∨ i < j) with e | e
        · subst e; exact r
        · exact rel_trans (hx j (by omega)) (ih (by omega) e) r
  · intro ⟨h1, h2⟩
    rw [List.pairwise_iff_getElem] at h2
    refine right_yes (fun i hi => ?_)
    have hx2 : xs[i]? = some xs[i] := List.getElem?_eq_getElem hi
    have hx := h1 _ (List.getElem_mem hi)
    cases i with
    | zero => rw [rcI_zero hx2]; exact hx
    | succ j =>
      have hp : xs[j]? = some xs[j] := List.getElem?_eq_getElem (by omega)
      rw [rcI_succ hp hx2, hx, Bool.true_and]
      exact (rc_rel (h1 _ (List.getElem_mem _)) hx).2 (h2 j (j + 1) (by omega) hi (by omega))
/-- A message of the same number that touches no more. -/
structure SubM (q x : MG) : Prop where
  rc : rcX q = true
  sq : q.sq = x.sq
  lo : lt (spF q) (spF x) = false
  hi : bef (spT x) (spT q) = false
theorem SubM.refl {x : MG} (h : rcX x = true) : SubM x x := ⟨h, rfl, lt_irr _, by unfold bef; cases emp (spT x) <;> simp [lt_irr]⟩
theorem rel_sub {p x p' x' : MG} (h : relM p x) (hp : SubM p' p) (hx : SubM x' x) : relM p' x' := by
  rcases h with h | ⟨h, k⟩
  · exact .inl (by rw [hp.sq, hx.sq]; exact h)
  · refine .inr ⟨by rw [hp.sq, hx.sq]; exact h, ?_⟩
    obtain ⟨a1, a2⟩ := sb_no k
    obtain ⟨b1, b2⟩ := bef_no hp.hi a1
    unfold sb
    rw [b1, Bool.false_or]
    exact nlt_trans (nlt_trans b2 a2) hx.lo
theorem over_span {m : MG} (h4 : m.kd = 4) (f t : ByteArray) : spF (overM m f t) = f ∧ spT (overM m f t) = t := by
  have e1 : (overM m f t).kd = 4 := h4
  unfold spF spT
  rw [e1]
  exact ⟨rfl, rfl⟩
theorem over_sub {m : MG} (hm : rcX m = true) (h4 : m.kd = 4) {f t : ByteArray} (hs : sb f t = true) (lo : lt f m.ky = false) (hi : bef m.to t = false) : SubM (overM m f t) m := by
  obtain ⟨e1, e2⟩ := over_span h4 f t
  have k1 : spF m = m.ky := (kd_ok hm).2.2
  have k2 : spT m = m.to := by unfold spT; rw [h4]; rfl
  refine ⟨?_, rfl, by rw [e1, k1]; exact lo, by rw [e2, k2]; exact hi⟩
  refine kd_good (.inr ⟨?_, ?_⟩) (by rw [e1, e2]; exact hs)
  · show isPt m.kd = false; rw [h4]; rfl
  · show (m.kd == 4) = true; rw [h4]; rfl
theorem meet_in {a0 a1 b0 b1 : ByteArray} (h : (meetF a0 a1 b0 b1).2.2 = true) (ha : sb a0 a1 = true) :
    sb (meetF a0 a1 b0 b1).1 (meetF a0 a1 b0 b1).2.1 = true ∧ lt (meetF a0 a1 b0 b1).1 a0 = false ∧ bef a1 (meetF a0 a1 b0 b1).2.1 = false := by
  by_cases hb : sb b0 b1 = true
  · rw [meetF_E _ _ _ _ ha hb] at h ⊢
    unfold meetE at h ⊢
    split at h
    · next k =>
      rw [if_pos k]
      refine ⟨k, ?_, ?_⟩
      · show lt (maxS a0 b0) a0 = false
        unfold maxS; split
        · next q => exact nlt_of_lt q
        · exact lt_irr _
      · show bef a1 (firstS a1 b1) = false
        unfold firstS; split
        · next q => exact bef_asymm b1 a1 q
        · unfold bef; cases emp a1 <;> simp [lt_irr]
    · cases h
  · exfalso
    unfold meetF at h
    rw [if_neg (fun q => hb q.2)] at h
    cases h
theorem clip_sub {m : MG} (hm : rcX m = true) {a b : ByteArray} (h : (clipM m a b).2 = true) : SubM (clipM m a b).1 m := by
  obtain ⟨k1, k2, k3⟩ := kd_ok hm
  rcases k1 with k1 | ⟨k1, k4⟩
  · unfold clipM at h ⊢
    rw [k1] at h ⊢
    simp only [if_true] at h ⊢
    cases e : (sb a b && has a b m.ky)
    · rw [e] at h; cases h
    · exact SubM.refl hm
  · have h4 : m.kd = 4 := by simpa using k4
    have e1 : spF m = m.ky := k3
    have e2 : spT m = m.to := by unfold spT; rw [h4]; rfl
    rw [e1, e2] at k2
    unfold clipM at h ⊢
    rw [k1, k4] at h ⊢
    simp only [if_true, Bool.false_eq_true, if_false] at h ⊢
    cases e : (meetF m.ky m.to a b).2.2
    · rw [e] at h; cases h
    · obtain ⟨q1, q2, q3⟩ := meet_in e k2
      exact over_sub hm h4 q1 q2 q3
theorem rest_sub {m : MG} (hm : rcX m = true) (a b : ByteArray) : (∀ q ∈ restM m a b, SubM q m) ∧ (restM m a b).Pairwise relM := by
  obtain ⟨k1, k2, k3⟩ := kd_ok hm
  cases hc : (clipM m a b).2
  · have e : restM m a b = [m] := by
      unfold restM restQ
      rw [hc]
      rcases k1 with k1 | ⟨k1, k4⟩
      · rw [k1]; rfl
      · rw [k1, k4]; rfl
    rw [e]
    exact ⟨fun q hq => by rw [List.mem_singleton.1 hq]; exact SubM.refl hm, List.pairwise_singleton _ _⟩
  · rcases k1 with k1 | ⟨k1, k4⟩
    · have e : restM m a b = [] := by unfold restM restQ; rw [hc, k1]; rfl
      rw [e]
      exact ⟨fun q hq => (by cases hq), List.Pairwise.nil⟩
    · have h4 : m.kd = 4 := by simpa using k4
      have e1 : spF m = m.ky := k3
      have e2 : spT m = m.to := by unfold spT; rw [h4]; rfl
      rw [e1, e2] at k2
      have hcl := hc
      unfold clipM at hcl
      rw [k1, k4] at hcl
      simp only [if_true, Bool.false_eq_true, if_false] at hcl
      have ec : clipM m a b = (overM m (meetF m.ky m.to a b).1 (meetF m.ky m.to a b).2.1, true) := by
        unfold clipM
        rw [k1, k4]
        simp only [if_true, Bool.false_eq_true, if_false]
        cases e : (meetF m.ky m.to a b).2.2
        · rw [e] at hcl; cases hcl
        · rfl
      have hm2 : (meetF m.ky m.to a b).2.2 = true := by
        cases e : (meetF m.ky m.to a b).2.2
        · rw [e] at hcl; cases hcl
        · rfl
      obtain ⟨q1, q2, q3⟩ := meet_in hm2 k2
      obtain ⟨f, hf⟩ : ∃ f, (meetF m.ky m.to a b).1 = f := ⟨_, rfl⟩
      obtain ⟨t, ht⟩ : ∃ t, (meetF m.ky m.to a b).2.1 = t := ⟨_, rfl⟩
      rw [hf, ht] at q1 ec
      rw [hf] at q2
      rw [ht] at q3
      have er : restM m a b = (if lt m.ky f then [overM m m.ky f] else []) ++ (if bef t m.to then [overM m t m.to] else []) := by
        unfold restM restQ; rw [ec, k1, k4]; rfl
      have hL : lt m.ky f = true → SubM (overM m m.ky f) m := fun h => over_sub hm h4 (by unfold sb; rw [h]; simp) (lt_irr _) (by
        cases et : emp m.to
        · obtain ⟨g1, g2⟩ := bef_no q3 et
          unfold bef
          have := sb_yes q1 g1
          have hfe : emp f = false := by
            unfold emp
            cases hz : f.toList.isEmpty
            · rfl
            · rw [List.isEmpty_iff] at hz
              unfold lt at h; rw [hz, bl_nil] at h; cases h
          rw [et, hfe]
          simp only [Bool.not_false, Bool.true_and, Bool.false_or]
          exact nlt_of_lt (lt_of_lt_nlt this g2)
        · unfold bef; rw [et]; rfl)
      have hR : bef t m.to = true → SubM (overM m t m.to) m := fun h => over_sub hm h4 (by
          unfold bef at h; unfold sb
          simp only [Bool.and_eq_true] at h
          exact h.2) (by
          have het : emp t = false := by unfold bef at h; simp only [Bool.and_eq_true, Bool.not_eq_true'] at h; exact h.1
          exact nlt_trans q2 (nlt_of_lt (sb_yes q1 het))) (by unfold bef; cases emp m.to <;> simp [lt_irr])
      rw [er]
      cases c1 : lt m.ky f <;> cases c2 : bef t m.to
      · exact ⟨fun q hq => (by simp at hq), by simp⟩
      · refine ⟨fun q hq => ?_, by simp⟩
        simp at hq; subst hq; exact hR c2
      · refine ⟨fun q hq => ?_, by simp⟩
        simp at hq; subst hq; exact hL c1
      · refine ⟨fun q hq => ?_, ?_⟩
        · simp at hq
          rcases hq with hq | hq <;> subst hq
          · exact hL c1
          · exact hR c2
        · simp
          refine .inr ⟨rfl, ?_⟩
          rw [(over_span h4 t m.to).1, (over_span h4 m.ky f).2]
          have het : emp t = false := by unfold bef at c2; simp only [Bool.and_eq_true, Bool.not_eq_true'] at c2; exact c2.1
          have hfe : emp f = false := by
            unfold emp
            cases hz : f.toList.isEmpty
            · rfl
            · rw [List.isEmpty_iff] at hz
              unfold lt at c1; rw [hz, bl_nil] at c1; cases c1
          unfold sb
          rw [hfe, Bool.false_or]
          exact nlt_of_lt (sb_yes q1 het)
theorem parts_right {xs : List MG} (h : rightB xs = true) (f : MG → List MG) (hf : ∀ x ∈ xs, (∀ q ∈ f x, SubM q x) ∧ (f x).Pairwise relM) : rightB (xs.flatMap f) = true := by
  rw [right_iff] at h ⊢
  refine ⟨fun q hq => ?_, ?_⟩
  · obtain ⟨x, hx, hq⟩ := List.mem_flatMap.1 hq
    exact ((hf x hx).1 q hq).rc
  · rw [List.pairwise_flatMap]
    refine ⟨fun x hx => (hf x hx).2, ?_⟩
    refine h.2.imp_of_mem (fun {p x} hp hx hr p' hp' x' hx' => rel_sub hr ((hf p hp).1 p' hp') ((hf x hx).1 x' hx'))
theorem forL_right {xs : List MG} (h : rightB xs = true) (a b : ByteArray) : rightB (forL a b xs) = true := by
  refine parts_right h _ (fun x hx => ?_)
  have hr := (right_iff xs).1 h
  cases hc : (clipM x a b).2
  · simp
  · simp
    exact clip_sub (hr.1 x hx) hc
theorem resL_right {xs : List MG} (h : rightB xs = true) (a b : ByteArray) : rightB (resL a b xs) = true :=
  parts_right h _ (fun x hx => rest_sub (((right_iff xs).1 h).1 x hx) a b)
theorem right_take {xs : List MG} (h : rightB xs = true) (k : Nat) : rightB (xs.take k) = true := by
  rw [right_iff] at h ⊢
  exact ⟨fun x hx => h.1 x (List.mem_of_mem_take hx), h.2.sublist (List.take_sublist _ _)⟩
theorem ins_end {m : MG} {xs : List MG} (h : ∀ y ∈ xs, aheadM m y = false) : insM m xs = xs ++ [m] := by
  have e : insK m xs xs.length = xs.length := by
    cases hn : xs.length with
    | zero => rfl
    | succ n =>
      have hy : xs[n]? = some (xs[n]'(by omega)) := List.getElem?_eq_getElem (by omega)
      exact insK_no hy (h _ (List.getElem_mem _))
  unfold insM; rw [e]; simp
theorem acc_end {ys : List MG} : ∀ {acc : List MG}, (acc ++ ys).Pairwise (fun p x => aheadM x p = false) → accM acc ys = acc ++ ys := by
  induction ys with
  | nil => intro acc _; simp [accM]
  | cons y ys ih =>
    intro acc h
    have e : insM y acc = acc ++ [y] := ins_end (fun z hz => by
      rw [List.pairwise_append] at h
      exact h.2.2 z hz y List.mem_cons_self)
    show accM (insM y acc) ys = _
    rw [e, ih (by simpa using h)]; simp
theorem acc_right {xs : List MG} (h : rightB xs = true) : accM [] xs = xs := by
  have hr := (right_iff xs).1 h
  exact acc_end (by simpa using hr.2.imp_of_mem (fun {p x} hp hx hr2 => ahead_of_rel (hr.1 p hp) (hr.1 x hx) hr2))
end Go.Proofs.YtilnpeekajnlhaaGreat
namespace Go.Proofs.YtilnpeekajnlhaaGreat
open Go.RowKit
def dg (n : Int) (j : Nat) : Int := n / 2 ^ (56 - 8 * j) % 256

theorem dg_lo (n : Int) (j : Nat) : 0 ≤ dg n j := Int.emod_nonneg _ (by omega)
theorem dg_hi (n : Int) (j : Nat) : dg n j < 256 := Int.emod_lt_of_pos _ (by omega)
def dgb (n : Int) (j : Nat) : UInt8 := UInt8.ofNat (dg n j).toNat
theorem dgb_nat (n : Int) (j : Nat) : ((dgb n j).toNat : Int) = dg n j := by
  have h0 := dg_lo n j
  have h1 := dg_hi n j
  unfold dgb
  rw [UInt8.toNat_ofNat']
  omega
/-- A number's eight bytes, the greatest first. -/
def put8 (n : Int) : ByteArray := ⟨#[dgb n 0, dgb n 1, dgb n 2, dgb n 3, dgb n 4, dgb n 5, dgb n 6, dgb n 7]⟩

def tk (s : ByteArray) : Nat → Int
  | 0 => 0
  | k + 1 => tk s k * 256 + ((s.data.getD k 0).toNat : Int)
theorem tk_lo (s : ByteArray) : ∀ k, 0 ≤ tk s k
  | 0 => by simp [tk]
  | k + 1 => by have := tk_lo s k; simp only [tk]; omega
theorem tk_hi (s : ByteArray) : ∀ k, tk s k < 256 ^ k
  | 0 => by simp [tk]
  | k + 1 => by
    have := tk_hi s k
    have := (s.data.getD k 0).toNat_lt
    simp only [tk, Int.pow_succ]
    omega

theorem pow7 (k : Nat) (h : k < 8) : (256 : Int) ^ k ≤ 72057594037927936 := by
  rcases (by omega : k = 0 ∨ k = 1 ∨ k = 2 ∨ k = 3 ∨ k = 4 ∨ k = 5 ∨ k = 6 ∨ k = 7) with rfl | rfl | rfl | rfl | rfl | rfl | rfl | rfl <;> decide
theorem wrap_lo (n : Int) : 0 ≤ IntKind.u64.wrap n := by rw [IntKind.wrap_u64]; omega
theorem wrap_hi (n : Int) : IntKind.u64.wrap n < 18446744073709551616 := by rw [IntKind.wrap_u64]; omega

/-- What becomes of a value to which a number is added. -/
def addF (s : ByteArray) (is : Bool) (d : Int) : ByteArray :=
  if is then (if s.size = 8 then put8 (IntKind.u64.wrap (tk s 8 + d)) else s) else put8 d

set_option maxHeartbeats 1000000 in
theorem rtake_no (s : ByteArray) (w : World) (h : s.size ≠ 8) :
    Calls Tryz.prog 90 #[.string s] w fun e w' => e = .returned (.tuple #[.int .u64 0, .bool false]) ∧ w = w' := by
  have h' : ¬ ((s.size : Int) = 8) := by omega
  go_enter Tryz.func90, Tryz.ntmps90
  go_wp2
  refine bodyPost_ret (v := .tuple #[.int .u64 0, .bool false]) (by simp [results, Tryz.results90, go_sem]) rfl ⟨rfl, rfl⟩

theorem rtk_step (s : ByteArray) (k : Nat) (hk : k < 8) (h : k < s.size) : IntKind.u64.wrap (IntKind.u64.wrap (tk s k * 256) + IntKind.u64.wrap ((s[k].toNat : Nat) : Int)) = tk s (k + 1) := by
  have a := tk_lo s k
  have b := tk_hi s k
  have c := pow7 k hk
  have d := s[k].toNat_lt
  have e : s.data.getD k 0 = s[k] := by
    have h' : k < s.data.size := h
    simp only [Array.getD]
    rw [dif_pos h']
    rfl
  simp only [IntKind.wrap_u64]
  simp only [tk, e]
  omega

set_option maxHeartbeats 1000000 in
theorem rtake_yes (s : ByteArray) (w : World) (h : s.size = 8) :
    Calls Tryz.prog 90 #[.string s] w fun e w' => e = .returned (.tuple #[.int .u64 (tk s 8), .bool true]) ∧ Below w.heap.size w w' := by
  have h' : ((s.size : Int) = 8) := by omega
  go_enter Tryz.func90, Tryz.ntmps90
  go_wp2
  go_loopw [4, 5] (fun n i wr => ∃ k : Nat, k ≤ 8 ∧ i = .int .i64 k ∧ n = .int .u64 (tk s k) ∧ Below w.heap.size w wr) (fun _ i _ => 8 - (intOf i).toNat)
  case atStart => exact ⟨0, by omega, rfl, rfl, Below.refl _ _⟩
  case round =>
    obtain ⟨k, hk, rfl, rfl, hB⟩ := hrel
    by_cases h8 : k = 8
    · subst h8
      go_wp2
      refine bodyPost_ret (v := .tuple #[.int .u64 (tk s 8), .bool true]) (by simp [results, Tryz.results90, go_sem]) rfl ⟨rfl, hB⟩
    · have hk8 : (k : Int) < 8 := by omega
      have hks : k < s.size := by omega
      have hks' : (k : Int) < (s.size : Int) := by omega
      go_wp2
      exact ⟨⟨k + 1, by omega, by simp, congrArg _ (rtk_step s k (by omega) hks), hB⟩, by simp [intOf]; omega⟩
def outP (n : Int) : Nat → ByteArray
  | 0 => ⟨#[]⟩
  | k + 1 => ⟨#[dgb n (7 - k)]⟩ ++ outP n k
theorem outP_size (n : Int) : ∀ k, (outP n k).size = k
  | 0 => rfl
  | k + 1 => by
    have h := outP_size n k
    simp only [outP, ByteArray.size_append, h]
    have e : (⟨#[dgb n (7 - k)]⟩ : ByteArray).size = 1 := rfl
    omega

theorem outP_8 (n : Int) : outP n 8 = put8 n := by
  apply ByteArray.ext
  simp [outP, put8, ByteArray.data_append]
theorem dg_rev (n : Int) (k : Nat) (h : k < 8) : dg n (7 - k) = n / 256 ^ k % 256 := by
  rcases (by omega : k = 0 ∨ k = 1 ∨ k = 2 ∨ k = 3 ∨ k = 4 ∨ k = 5 ∨ k = 6 ∨ k = 7) with rfl | rfl | rfl | rfl | rfl | rfl | rfl | rfl <;> simp only [dg, Nat.reduceMul, Nat.reduceSub, Int.reducePow]
theorem pw0 (k : Nat) : (0 : Int) ≤ 256 ^ k := by
  induction k with
  | zero => decide
  | succ k ih => rw [Int.pow_succ]; omega
theorem quo_step (n m : Int) (k : Nat) (h0 : 0 ≤ n) (h1 : n < 18446744073709551616) (h : k < 8) (hm : m = n / 256 ^ k) (m0 : 0 ≤ m) : IntKind.u64.wrap (m.tdiv 256) = n / 256 ^ (k + 1) := by
  rw [Int.tdiv_eq_ediv_of_nonneg m0, IntKind.wrap_u64, hm]
  clear hm m0
  rcases (by omega : k = 0 ∨ k = 1 ∨ k = 2 ∨ k = 3 ∨ k = 4 ∨ k = 5 ∨ k = 6 ∨ k = 7) with rfl | rfl | rfl | rfl | rfl | rfl | rfl | rfl <;> (simp only [Nat.reduceAdd, Int.reducePow]; omega)

set_option maxHeartbeats 1000000 in
theorem rput_any (n : Int) (w : World) (h0 : 0 ≤ n) (h1 : n < 18446744073709551616) :
    Calls Tryz.prog 89 #[.int .u64 n] w fun e w' => e = .returned (.string (put8 n)) ∧ Below w.heap.size w w' := by
  go_enter Tryz.func89, Tryz.ntmps89
  go_wp2
  go_loopw [0, 3, 4] (fun m o i wr => ∃ k : Nat, k ≤ 8 ∧ i = .int .i64 k ∧ m = .int .u64 (n / 256 ^ k) ∧ o = .string (outP n k) ∧ Below w.heap.size w wr) (fun _ _ i _ => 8 - (intOf i).toNat)
  case atStart => exact ⟨0, by omega, rfl, by rw [Int.pow_zero, Int.ediv_one], rfl, Below.refl _ _⟩
  case round =>
    obtain ⟨k, hk, rfl, rfl, rfl, hB⟩ := hrel
    have hs := outP_size n k
    obtain ⟨o, ho⟩ : ∃ o, o = outP n k := ⟨_, rfl⟩
    obtain ⟨m, hm⟩ : ∃ m, m = n / 256 ^ k := ⟨_, rfl⟩
    rw [← ho, ← hm]
    rw [← ho] at hs
    have m0 : 0 ≤ m := by rw [hm]; exact Int.ediv_nonneg h0 (pw0 k)
    have HO := Lib.hid ho
    have HM := Lib.hid hm
    clear ho hm
    by_cases h8 : k = 8
    · subst h8
      go_wp2
      go_ret
      refine ⟨?_, hB⟩
      rw [← outP_8, ← HO.out]
      rfl
    · have hk8 : (k : Int) < 8 := by omega
      have hz : ¬ 9223372036854775807 < 1 + o.size := by omega
      have hb : ((dgb n (7 - k)).toNat : Int) = m % 256 := by rw [dgb_nat, dg_rev n k (by omega), HM.out]
      have hv : (convert 129 9 (.slice (some ⟨wr.heap.size, 0, none⟩) 1 1)).run Tryz.prog (wr.alloc (.cells #[.int .u8 (m % 256)] 5)) = .ok (.string ⟨#[dgb n (7 - k)]⟩) (wr.alloc (.cells #[.int .u8 (m % 256)] 5)) := by
        refine run_convert_bytes_back (P := Tryz.prog) _ 129 9 5 ⟨wr.heap.size, 0, none⟩ 1 [dgb n (7 - k)] Tryz.underlying129 Tryz.underlying5 Tryz.underlying9 (fun j hj => ?_)
        simp only [List.length_cons, List.length_nil] at hj
        obtain rfl : j = 0 := by omega
        simp [Addr.add, go_sem, hb]
      clear hb
      go_wp2
      refine ⟨⟨k + 1, by omega, by simp, congrArg _ (quo_step n m k h0 h1 (by omega) HM.out m0), ?_, hB.alloc hB.size _⟩, by simp [intOf]; omega⟩
      rw [HO.out]
      rfl
set_option maxHeartbeats 1000000 in
theorem radd8_any (s : ByteArray) (is : Bool) (d : Int) (w : World) (h0 : 0 ≤ d) (h1 : d < 18446744073709551616) :
    Calls Tryz.prog 67 #[.string s, .bool is, .int .u64 d] w fun e w' => e = .returned (.string (addF s is d)) ∧ Below w.heap.size w w' := by
  cases is
  · have e : addF s false d = put8 d := by simp [addF]
    rw [e]
    clear e
    go_enter Tryz.func67, Tryz.ntmps67
    go_wp2_with fail
    refine (rput_any d _ h0 h1).mono ?_
    rintro e w1 ⟨rfl, hb⟩
    go_wp2_with fail
    go_ret
    exact ⟨rfl, hb⟩
  · by_cases h : s.size = 8
    · have e : addF s true d = put8 (IntKind.u64.wrap (tk s 8 + d)) := by simp [addF, h]
      rw [e]
      clear e
      go_enter Tryz.func67, Tryz.ntmps67
      go_wp2_with fail
      refine (rtake_yes s _ h).mono ?_
      rintro e w1 ⟨rfl, hb⟩
      go_wp2_with fail
      refine (rput_any (IntKind.u64.wrap (tk s 8 + d)) _ (wrap_lo _) (wrap_hi _)).mono ?_
      rintro e w2 ⟨rfl, hb2⟩
      go_wp2_with fail
      go_ret
      exact ⟨rfl, hb.trans (hb2.mono hb.size)⟩
    · have e : addF s true d = s := by simp [addF, h]
      rw [e]
      clear e
      go_enter Tryz.func67, Tryz.ntmps67
      go_wp2_with fail
      refine (rtake_no s _ h).mono ?_
      rintro e w1 ⟨rfl, rfl⟩
      go_wp2_with fail
      go_ret
      exact ⟨rfl, Below.refl _ _⟩

end Go.Proofs.YtilnpeekajnlhaaGreat
namespace Go.Proofs.YtilnpeekajnlhaaGreat
def atL (s : ByteArray) (xs : List MG) : List MG := xs.filter fun x => touB x s
theorem count_lt {α : Type} {p q : α → Bool} (h : ∀ x, p x = true → q x = true) {z : α} (hq : q z = true) (hp : p z = false) : ∀ {L : List α}, z ∈ L → L.countP p < L.countP q
  | x :: L, hz => by
    have hle : L.countP p ≤ L.countP q := List.countP_mono_left (fun x _ => h x)
    rw [List.countP_cons, List.countP_cons]
    rcases List.mem_cons.1 hz with e | hz
    · subst e; rw [hq, hp]; simp; omega
    · have ih := count_lt h hq hp hz
      cases e1 : p x
      · cases e2 : q x <;> simp <;> omega
      · rw [h x e1]; simp; omega
/-- Strings are numbered in their order. -/
theorem ranks (L : List ByteArray) : ∃ r : ByteArray → Nat, ∀ x ∈ L, ∀ y ∈ L, lt x y = decide (r x < r y) := by
  refine ⟨fun x => L.countP (fun y => lt y x), fun x hx y hy => ?_⟩
  cases h : lt x y
  · symm
    rw [decide_eq_false_iff_not, Nat.not_lt]
    refine List.countP_mono_left (fun z _ hz => ?_)
    exact lt_of_lt_nlt hz h
  · symm
    rw [decide_eq_true_iff]
    exact count_lt (p := fun u => lt u x) (q := fun u => lt u y) (fun z hz => by
      have hz' : lt z x = true := hz
      have q : lt z y = true := by unfold lt at *; exact bl_trans _ _ _ hz' h
      exact q) (z := x) h (lt_irr x) hx
theorem emp_lt {x y : ByteArray} (h : emp x = true) : lt y x = false := by
  unfold emp at h; rw [List.isEmpty_iff] at h
  unfold lt; rw [h]; exact bl_nil _
structure PartsOf (ky to a b s : ByteArray) : Prop where
  inn : has a b s = true → (lt ky (maxS ky a) = true → has ky (maxS ky a) s = false) ∧ (bef (firstS to b) to = true → has (firstS to b) to s = false)
  out : has a b s = false → has ky to s = ((lt ky (maxS ky a) && has ky (maxS ky a) s) || (bef (firstS to b) to && has (firstS to b) to s))
  one : (lt ky (maxS ky a) && has ky (maxS ky a) s) = false ∨ (bef (firstS to b) to && has (firstS to b) to s) = false
set_option maxHeartbeats 4000000 in
theorem parts_of (ky to a b s : ByteArray) (h1 : sb ky to = true) (h2 : sb a b = true) (h3 : sb (maxS ky a) (firstS to b) = true) : PartsOf ky to a b s := by
  obtain ⟨r, hr⟩ := ranks [ky, to, a, b, s]
  have mk : ky ∈ [ky, to, a, b, s] := by simp
  have mt : to ∈ [ky, to, a, b, s] := by simp
  have ma : a ∈ [ky, to, a, b, s] := by simp
  have mb : b ∈ [ky, to, a, b, s] := by simp
  have ms : s ∈ [ky, to, a, b, s] := by simp
  have q1 := hr _ mk _ ma
  have q2 := hr _ ms _ mk
  have q3 := hr _ ms _ ma
  have q4 := hr _ ms _ mb
  have q5 := hr _ ms _ mt
  have q6 := hr _ mb _ mt
  have q7 := hr _ mk _ mt
  have q8 := hr _ ma _ mb
  have q9 := hr _ ma _ mt
  have q10 := hr _ mk _ mb
  have q11 := hr _ mk _ mk
  have q12 := hr _ mt _ mt
  clear hr mk mt ma mb ms
  have e1 : emp to = true → lt s to = false := emp_lt
  have e2 : emp b = true → lt s b = false := emp_lt
  have e6 : emp to = true → lt b to = false := emp_lt
  have e3 : emp a = true → lt s a = false := emp_lt
  have e9 : emp a = true → lt ky a = false := emp_lt
  have e10 : emp ky = true → lt s ky = false := emp_lt
  cases k1 : lt ky a <;> cases k2 : bef b to
  all_goals
    have em : maxS ky a = _ := show (if lt ky a then a else ky) = _ by rw [k1]
    have ef : firstS to b = _ := show (if bef b to then b else to) = _ by rw [k2]
    simp only [if_true, if_false, Bool.false_eq_true] at em ef
    rw [em, ef] at h3
    refine ⟨?_, fun hz => ?_, ?_⟩
    all_goals
      rw [em, ef]
      try rw [Bool.eq_iff_iff]
      try unfold has at hz
      unfold has
      unfold bef sb at *
      rw [q1] at *
      simp only [q2, q3, q4, q5, q6, q7, q8, q9, q10, q11, q12] at *
      cases c1 : emp to <;> cases c2 : emp b <;> cases c3 : emp a <;> cases c4 : emp ky <;> simp [c1, c2, c3, c4] at h1 h2 h3 k1 k2 e1 e2 e3 e6 e9 e10 ⊢ <;> (try simp [c2] at hz) <;> (try omega)
/-- What a message makes of a key's value. -/
def onQ (m : MG) (s : ByteArray) (q : ByteArray × Bool) : ByteArray × Bool :=
  if touB m s then (if m.kd = 1 then (m.vl, true) else if m.kd = 3 then (addF q.1 q.2 m.dl, true) else (emptyS, false)) else q
def valL (xs : List MG) (s : ByteArray) (q : ByteArray × Bool) : ByteArray × Bool := xs.foldl (fun q m => onQ m s q) q
theorem valL_app (xs ys : List MG) (s : ByteArray) (q : ByteArray × Bool) : valL (xs ++ ys) s q = valL ys s (valL xs s q) := by unfold valL; rw [List.foldl_append]
theorem valL_next {xs : List MG} {k : Nat} {x : MG} (h : xs[k]? = some x) (s : ByteArray) (q : ByteArray × Bool) : valL (xs.take (k + 1)) s q = onQ x s (valL (xs.take k) s q) := by
  rw [List.take_add_one, h]; simp [valL, List.foldl_append]
theorem onQ_no {m : MG} {s : ByteArray} (h : touB m s = false) (q : ByteArray × Bool) : onQ m s q = q := by unfold onQ; rw [h]; rfl
theorem valL_flat {f : MG → List MG} {s : ByteArray} (xs : List MG) (h : ∀ x ∈ xs, ∀ q, valL (f x) s q = onQ x s q) (q : ByteArray × Bool) : valL (xs.flatMap f) s q = valL xs s q := by
  induction xs generalizing q with
  | nil => rfl
  | cons x xs ih =>
    rw [List.flatMap_cons, valL_app, h x List.mem_cons_self, ih (fun y hy => h y (List.mem_cons_of_mem _ hy))]
    rfl
theorem tou_pt {m : MG} (h : isPt m.kd = true) (s : ByteArray) : touB m s = (m.ky.toList == s.toList) := by unfold touB; rw [h]; rfl
theorem tou_cl {m : MG} (h : m.kd = 4) (s : ByteArray) : touB m s = has m.ky m.to s := by unfold touB; rw [h]; rfl
theorem has_eq {a b s t : ByteArray} (h : s.toList = t.toList) : has a b s = has a b t := by unfold has sb emp lt; rw [h]
/-- What the parts of one message do. -/
structure OneOk (m : MG) (a b s : ByteArray) : Prop where
  inn : (sb a b && has a b s) = true → (∀ q, valL (if (clipM m a b).2 then [(clipM m a b).1] else []) s q = onQ m s q) ∧ ∀ x ∈ restM m a b, touB x s = false
  out : (sb a b && has a b s) = false → (∀ q, valL (restM m a b) s q = onQ m s q) ∧ ∀ x ∈ (if (clipM m a b).2 then [(clipM m a b).1] else []), touB x s = false
theorem onQ_clear {m x : MG} {s : ByteArray} (h4 : m.kd = 4) (hx : x.kd = 4) (h : touB x s = touB m s) (q : ByteArray × Bool) : onQ x s q = onQ m s q := by
  unfold onQ; rw [h, h4, hx]; rfl
theorem one_ok {m : MG} (hm : rcX m = true) (a b s : ByteArray) : OneOk m a b s := by
  obtain ⟨k1, k2, k3⟩ := kd_ok hm
  rcases k1 with k1 | ⟨k1, k4⟩
  · have ec : clipM m a b = if sb a b && has a b m.ky then (m, true) else (zM, false) := by unfold clipM; rw [if_pos k1]
    have er : restM m a b = if (clipM m a b).2 then [] else [m] := by unfold restM restQ; rw [if_pos k1]
    have et := tou_pt k1 s
    cases e : (sb a b && has a b m.ky)
    · rw [e] at ec
      simp only [Bool.false_eq_true, if_false] at ec
      rw [ec] at er
      simp only [Bool.false_eq_true, if_false] at er
      refine ⟨fun h => ?_, fun h => ?_⟩
      · have hn : touB m s = false := by
          rw [et, beq_eq_false_iff_ne]; intro he
          rw [has_eq he, h] at e; cases e
        rw [ec, er]
        refine ⟨fun q => ?_, fun x hx => ?_⟩
        · rw [onQ_no hn]; rfl
        · rw [List.mem_singleton.1 hx]; exact hn
      · rw [ec, er]
        exact ⟨fun q => rfl, fun x hx => by simp at hx⟩
    · rw [e] at ec
      simp only [if_true] at ec
      rw [ec] at er
      simp only [if_true] at er
      refine ⟨fun h => ?_, fun h => ?_⟩
      · rw [ec, er]
        exact ⟨fun q => rfl, fun x hx => by cases hx⟩
      · have hn : touB m s = false := by
          rw [et, beq_eq_false_iff_ne]; intro he
          rw [has_eq he, h] at e; cases e
        rw [ec, er]
        refine ⟨fun q => ?_, fun x hx => ?_⟩
        · rw [onQ_no hn]; rfl
        · simp at hx; rw [hx]; exact hn
  · have h4 : m.kd = 4 := by simpa using k4
    have e1 : spF m = m.ky := k3
    have e2 : spT m = m.to := by unfold spT; rw [h4]; rfl
    rw [e1, e2] at k2
    have et := tou_cl h4 s
    have ec : clipM m a b = if (meetF m.ky m.to a b).2.2 then (overM m (meetF m.ky m.to a b).1 (meetF m.ky m.to a b).2.1, true) else (zM, false) := by unfold clipM; rw [k1, k4]; rfl
    have er : restM m a b = if (clipM m a b).2 then (if lt m.ky (clipM m a b).1.ky then [overM m m.ky (clipM m a b).1.ky] else []) ++ (if bef (clipM m a b).1.to m.to then [overM m (clipM m a b).1.to m.to] else []) else [m] := by unfold restM restQ; rw [k1, k4]; rfl
    have o4 : ∀ x y, (overM m x y).kd = 4 := fun x y => h4
    cases hs : sb a b
    · have e : meetF m.ky m.to a b = (emptyS, emptyS, false) := by unfold meetF; rw [if_neg (by simp [hs])]
      rw [e] at ec
      simp only [Bool.false_eq_true, if_false] at ec
      rw [ec] at er
      simp only [Bool.false_eq_true, if_false] at er
      refine ⟨fun h => (by rw [hs] at h; simp at h), fun h => ?_⟩
      rw [ec, er]
      exact ⟨fun q => rfl, fun x hx => by simp at hx⟩
    · have hhm := has_meet m.ky m.to a b s k2 hs
      rw [meetF_E _ _ _ _ k2 hs] at ec hhm
      unfold meetE at ec hhm
      cases hok : sb (maxS m.ky a) (firstS m.to b)
      · rw [hok] at ec hhm
        simp only [Bool.false_eq_true, if_false, Bool.false_and] at ec hhm
        rw [ec] at er
        simp only [Bool.false_eq_true, if_false] at er
        refine ⟨fun h => ?_, fun h => ?_⟩
        · have ha : has a b s = true := by simpa [hs] using h
          rw [ha, Bool.and_true] at hhm
          rw [ec, er]
          refine ⟨fun q => ?_, fun x hx => ?_⟩
          · rw [onQ_no (by rw [et]; exact hhm)]; rfl
          · rw [List.mem_singleton.1 hx, et]; exact hhm
        · rw [ec, er]
          exact ⟨fun q => rfl, fun x hx => by simp at hx⟩
      · have P := parts_of m.ky m.to a b s k2 hs hok
        rw [hok] at ec hhm
        simp only [if_true, Bool.true_and] at ec hhm
        rw [ec] at er
        simp only [if_true] at er
        have ky' : (overM m (maxS m.ky a) (firstS m.to b)).ky = maxS m.ky a := rfl
        have to' : (overM m (maxS m.ky a) (firstS m.to b)).to = firstS m.to b := rfl
        rw [ky', to'] at er
        refine ⟨fun h => ?_, fun h => ?_⟩
        · have ha : has a b s = true := by simpa [hs] using h
          rw [ha, Bool.and_true] at hhm
          rw [ec, er]
          refine ⟨fun q => ?_, fun x hx => ?_⟩
          · exact onQ_clear h4 (o4 _ _) (by rw [tou_cl (o4 _ _), et]; exact hhm.symm) q
          · rcases List.mem_append.1 hx with hx | hx
            · split at hx
              · next c => rw [List.mem_singleton.1 hx, tou_cl (o4 _ _)]; exact (P.inn ha).1 c
              · cases hx
            · split at hx
              · next c => rw [List.mem_singleton.1 hx, tou_cl (o4 _ _)]; exact (P.inn ha).2 c
              · cases hx
        · have ha : has a b s = false := by simpa [hs] using h
          rw [ha, Bool.and_false] at hhm
          have hou := P.out ha
          have hon := P.one
          rw [ec, er]
          refine ⟨fun q => ?_, fun x hx => ?_⟩
          · have tL : touB (overM m m.ky (maxS m.ky a)) s = has m.ky (maxS m.ky a) s := tou_cl (o4 _ _) s
            have tR : touB (overM m (firstS m.to b) m.to) s = has (firstS m.to b) m.to s := tou_cl (o4 _ _) s
            cases c1 : lt m.ky (maxS m.ky a) <;> cases c2 : bef (firstS m.to b) m.to <;> rw [c1, c2] at hou hon <;> simp only [Bool.false_and, Bool.true_and, Bool.or_false, Bool.false_or] at hou hon
            · rw [onQ_no (by rw [et]; exact hou)]; rfl
            · exact onQ_clear h4 (o4 _ _) (by rw [tR, et]; exact hou.symm) q
            · exact onQ_clear h4 (o4 _ _) (by rw [tL, et]; exact hou.symm) q
            · show onQ (overM m (firstS m.to b) m.to) s (onQ (overM m m.ky (maxS m.ky a)) s q) = _
              rcases hon with hn | hn
              · rw [onQ_no (m := overM m m.ky (maxS m.ky a)) (by rw [tL]; exact hn)]
                exact onQ_clear h4 (o4 _ _) (by rw [tR, et, hou, hn]; rfl) q
              · rw [onQ_no (m := overM m (firstS m.to b) m.to) (by rw [tR]; exact hn)]
                exact onQ_clear h4 (o4 _ _) (by rw [tL, et, hou, hn]; simp) q
          · simp at hx
            rw [hx, tou_cl (o4 _ _)]
            exact hhm.symm
/-- What the parts of a buffer do. -/
theorem parts_in {xs : List MG} (hr : rightB xs = true) {a b s : ByteArray} (h : (sb a b && has a b s) = true) (q : ByteArray × Bool) : valL (forL a b xs) s q = valL xs s q ∧ atL s (resL a b xs) = [] := by
  have hx := ((right_iff xs).1 hr).1
  refine ⟨valL_flat xs (fun x hm q => ((one_ok (hx x hm) a b s).inn h).1 q) q, ?_⟩
  unfold atL resL
  rw [List.filter_eq_nil_iff]
  intro y hy
  obtain ⟨x, hm, hy⟩ := List.mem_flatMap.1 hy
  simp [((one_ok (hx x hm) a b s).inn h).2 y hy]
theorem parts_out {xs : List MG} (hr : rightB xs = true) {a b s : ByteArray} (h : (sb a b && has a b s) = false) (q : ByteArray × Bool) : valL (resL a b xs) s q = valL xs s q ∧ atL s (forL a b xs) = [] := by
  have hx := ((right_iff xs).1 hr).1
  refine ⟨valL_flat xs (fun x hm q => ((one_ok (hx x hm) a b s).out h).1 q) q, ?_⟩
  unfold atL forL
  rw [List.filter_eq_nil_iff]
  intro y hy
  obtain ⟨x, hm, hy⟩ := List.mem_flatMap.1 hy
  simp [((one_ok (hx x hm) a b s).out h).2 y hy]
end Go.Proofs.YtilnpeekajnlhaaGreat
