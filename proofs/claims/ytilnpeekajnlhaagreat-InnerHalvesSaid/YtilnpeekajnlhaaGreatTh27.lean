/- Texts of the proof, one behind the other. -/
import Derived.Test.YtilnpeekajnlhaaGreatTh16
import Derived.Test.YtilnpeekajnlhaaGreatTh06
import Derived.Test.YtilnpeekajnlhaaGreatTh26
import Derived.Test.YtilnpeekajnlhaaGreatTh14
import Derived.Test.YtilnpeekajnlhaaGreatTh15
import Derived.Test.YtilnpeekajnlhaaGreatTh18
import Derived.Test.YtilnpeekajnlhaaGreatTh11
import Derived.Deep.RegionHeld3
set_option linter.unusedVariables false
set_option linter.unusedSimpArgs false
namespace Go.Proofs.YtilnpeekajnlhaaGreat
open Go.RowKit Go.Maps
theorem bef_irr (a : ByteArray) : bef a a = false := by unfold bef; cases emp a <;> simp [lt_irr]
theorem clip_in {m : MG} (hm : rcX m = true) {a b : ByteArray} (h : (clipM m a b).2 = true) : lt (spF (clipM m a b).1) a = false ∧ bef b (spT (clipM m a b).1) = false ∧ sb a b = true := by
  obtain ⟨k1, k2, k3⟩ := kd_ok hm
  rcases k1 with k1 | ⟨k1, k4⟩
  · have eF : spF m = m.ky := k3
    have eT : spT m = m.ky ++ zS := by unfold spT; rw [k1]; rfl
    unfold clipM at h ⊢
    rw [k1] at h ⊢
    simp only [if_true] at h ⊢
    cases e : (sb a b && has a b m.ky)
    · rw [e] at h; cases h
    · rw [Bool.and_eq_true] at e
      have q := e.2
      unfold has at q
      rw [Bool.and_eq_true] at q
      simp only [if_true]
      rw [eF, eT]
      refine ⟨by simpa using q.1, ?_, e.1⟩
      unfold bef
      cases hb : emp b
      · have h1 : lt m.ky b = true := sb_yes q.2 hb
        have h2 : lt b (m.ky ++ zS) = false := by
          unfold lt at h1 ⊢
          rw [snoc_list]
          exact no_between _ _ h1
        have h3 : emp (m.ky ++ zS) = false := by
          unfold emp
          rw [snoc_list]
          simp
        rw [h2, h3]; rfl
      · rfl
  · have h4 : m.kd = 4 := by simpa using k4
    have e1 : spF m = m.ky := k3
    have e2 : spT m = m.to := by unfold spT; rw [h4]; rfl
    rw [e1, e2] at k2
    unfold clipM at h ⊢
    rw [k1, k4] at h ⊢
    simp only [if_true, Bool.false_eq_true, if_false] at h ⊢
    cases e : (meetF m.ky m.to a b).2.2
    · rw [e] at h; cases h
    · simp only [if_true]
      rw [(over_span h4 _ _).1, (over_span h4 _ _).2]
      have hs : sb a b = true := by
        unfold meetF at e
        split at e
        · rename_i k; exact k.2
        · cases e
      rw [meetF_E _ _ _ _ k2 hs] at e ⊢
      unfold meetE at e ⊢
      split at e
      · next k =>
        rw [if_pos k]
        refine ⟨?_, ?_, hs⟩
        · show lt (maxS m.ky a) a = false
          unfold maxS; split
          · exact lt_irr _
          · next q => simpa using q
        · show bef b (firstS m.to b) = false
          unfold firstS; split
          · exact bef_irr _
          · next q => simpa using q
      · cases e
theorem sb_nil {x : ByteArray} (h : emp x = false) : sb emptyS x = true := by
  unfold sb
  rw [h, Bool.false_or]
  unfold lt
  show Op.bytesLess emptyS.toList x.toList = true
  have : emptyS.toList = [] := by rw [toList_eq]
  rw [this, bl_nil_left]
  unfold emp at h
  rw [h]; rfl
theorem nlt_nil (k : ByteArray) : lt k emptyS = false := by
  unfold lt
  have : emptyS.toList = [] := by rw [toList_eq]
  rw [this]; exact bl_nil _
theorem rest_in {m : MG} (hm : rcX m = true) {x : ByteArray} (hx : emp x = false) {q : MG} (hq : q ∈ restM m emptyS x) : lt (spF q) x = false := by
  obtain ⟨k1, k2, k3⟩ := kd_ok hm
  have hsx := sb_nil hx
  unfold restM restQ at hq
  rcases k1 with k1 | ⟨k1, k4⟩
  · rw [if_pos k1] at hq
    split at hq
    · cases hq
    · rename_i k
      rw [List.mem_singleton.1 hq, k3]
      unfold clipM at k
      rw [if_pos k1] at k
      split at k
      · exact absurd rfl k
      · rename_i k5
        rw [hsx, Bool.true_and] at k5
        unfold has at k5
        rw [nlt_nil] at k5
        have k6 : sb m.ky x = false := by simpa using k5
        exact (sb_no k6).2
  · rw [if_neg (by rw [k1]; simp), if_pos k4] at hq
    have h4 : m.kd = 4 := by simpa using k4
    have e2 : spT m = m.to := by unfold spT; rw [h4]; rfl
    rw [k3, e2] at k2
    have hmx : maxS m.ky emptyS = m.ky := by unfold maxS; rw [nlt_nil]; rfl
    have hE := meetF_E m.ky m.to emptyS x k2 hsx
    have hcl : clipM m emptyS x = (if (meetF m.ky m.to emptyS x).2.2 = true then (overM m (meetF m.ky m.to emptyS x).1 (meetF m.ky m.to emptyS x).2.1, true) else (zM, false)) := by
      unfold clipM
      rw [if_neg (by rw [k1]; simp), if_pos k4]
    rw [hcl, hE] at hq
    unfold meetE at hq
    rw [hmx] at hq
    by_cases hk : sb m.ky (firstS m.to x) = true
    · rw [if_pos hk] at hq
      simp only [if_true] at hq
      rcases List.mem_append.1 hq with hq | hq
      · split at hq
        · rename_i kl
          change lt m.ky m.ky = true at kl
          rw [lt_irr] at kl; cases kl
        · cases hq
      · split at hq
        · rename_i kl
          change bef (firstS m.to x) m.to = true at kl
          rw [List.mem_singleton.1 hq]
          show lt (spF (overM m (firstS m.to x) m.to)) x = false
          rw [(over_span h4 _ _).1]
          unfold firstS at kl ⊢
          split
          · exact lt_irr _
          · rename_i k9
            rw [if_neg k9, bef_irr] at kl; cases kl
        · cases hq
    · rw [if_neg hk] at hq
      simp only [Bool.false_eq_true, if_false] at hq
      rw [List.mem_singleton.1 hq, k3]
      rw [sb_first, k2, Bool.true_and] at hk
      exact (sb_no (by simpa using hk)).2
theorem forL_mem {xs : List MG} {a b : ByteArray} {q : MG} (h : q ∈ forL a b xs) : ∃ m ∈ xs, (clipM m a b).2 = true ∧ q = (clipM m a b).1 := by
  obtain ⟨m, hm, hq⟩ := List.mem_flatMap.1 h
  split at hq
  · exact ⟨m, hm, by assumption, List.mem_singleton.1 hq⟩
  · cases hq
/-- What lies below a text, of what lies in a range. -/
theorem forL_wi2 {xs : List MG} (hr : ∀ x ∈ xs, rcX x = true) {f t x : ByteArray} (hw : xs.all (wiR f t) = true) (hs : sb f x = true) : (forL emptyS x xs).all (wiR f x) = true := by
  rw [List.all_eq_true] at hw ⊢
  intro q hq
  obtain ⟨m, hm, hc, rfl⟩ := forL_mem hq
  have h1 := clip_in (hr m hm) hc
  have h2 := clip_sub (hr m hm) hc
  have h3 := hw m hm
  unfold wiR at h3 ⊢
  simp only [Bool.and_eq_true, Bool.not_eq_true'] at h3 ⊢
  exact ⟨(kd_ok h2.rc).2.1, hs, nlt_tr h3.2.2.1 h2.lo, h1.2.1⟩
theorem resL_wi2 {xs : List MG} (hr : ∀ x ∈ xs, rcX x = true) {f t x : ByteArray} (hw : xs.all (wiR f t) = true) (hx : emp x = false) (hs : sb x t = true) : (resL emptyS x xs).all (wiR x t) = true := by
  rw [List.all_eq_true] at hw ⊢
  intro q hq
  obtain ⟨m, hm, hq⟩ := List.mem_flatMap.1 hq
  have h1 := rest_in (hr m hm) hx hq
  have h2 := (rest_sub (hr m hm) emptyS x).1 q hq
  have h3 := hw m hm
  unfold wiR at h3 ⊢
  simp only [Bool.and_eq_true, Bool.not_eq_true'] at h3 ⊢
  exact ⟨(kd_ok h2.rc).2.1, hs, h1, bef_tr h3.2.2.2 h2.hi⟩
end Go.Proofs.YtilnpeekajnlhaaGreat
namespace Go.Proofs.YtilnpeekajnlhaaGreat
open Go.RowKit Go.Maps
theorem inK_iff (p : List ByteArray) (f t : ByteArray) : ∀ k, Pv.inK p f t k = true ↔ ∀ j, j < k → lt f (Pv.at_ p j) = true ∧ sb (Pv.at_ p j) t = true
  | 0 => by simp [Pv.inK]
  | k + 1 => by
    show (Pv.inK p f t k && (lt f (Pv.at_ p k) && sb (Pv.at_ p k) t)) = true ↔ _
    rw [Bool.and_eq_true, Bool.and_eq_true, inK_iff p f t k]
    constructor
    · rintro ⟨h1, h2⟩ j hj
      by_cases e : j = k
      · subst e; exact h2
      · exact h1 j (by omega)
    · intro h
      exact ⟨fun j hj => h j (by omega), h k (by omega)⟩
theorem riseK_of {p : List ByteArray} (h : ∀ i j, i < j → j < p.length → lt (Pv.at_ p i) (Pv.at_ p j) = true) : ∀ k, k ≤ p.length → Pv.riseK p k = true
  | 0, _ => rfl
  | k + 1, hk => by
    show (Pv.riseK p k && (decide (k = 0) || lt (Pv.at_ p (k - 1)) (Pv.at_ p k))) = true
    rw [riseK_of h k (by omega), Bool.true_and]
    by_cases e : k = 0
    · simp [e]
    · rw [h (k - 1) k (by omega) (by omega)]; simp
theorem pv_iff (p : List ByteArray) (f t : ByteArray) : Pv.rightB p f t = true ↔ sb f t = true ∧ (∀ j, j < p.length → lt f (Pv.at_ p j) = true ∧ sb (Pv.at_ p j) t = true) ∧ (∀ i j, i < j → j < p.length → lt (Pv.at_ p i) (Pv.at_ p j) = true) := by
  unfold Pv.rightB
  rw [Bool.and_eq_true, Bool.and_eq_true, inK_iff]
  constructor
  · rintro ⟨h1, h2, h3⟩
    exact ⟨h2, h1, fun i j a b => Pv.rise_all h3 i j a b⟩
  · rintro ⟨h1, h2, h3⟩
    exact ⟨h2, h1, riseK_of h3 _ (Nat.le_refl _)⟩
theorem at_take {p : List ByteArray} {q j : Nat} (h : j < q) : Pv.at_ (p.take q) j = Pv.at_ p j := by
  unfold Pv.at_
  rw [List.getD_eq_getElem?_getD, List.getD_eq_getElem?_getD, List.getElem?_take, if_pos h]
theorem at_drop (p : List ByteArray) (q j : Nat) : Pv.at_ (p.drop q) j = Pv.at_ p (q + j) := by
  unfold Pv.at_
  rw [List.getD_eq_getElem?_getD, List.getD_eq_getElem?_getD, List.getElem?_drop]
theorem at_get {p : List ByteArray} {j : Nat} {x : ByteArray} (h : p[j]? = some x) : Pv.at_ p j = x := by
  unfold Pv.at_
  rw [List.getD_eq_getElem?_getD, h]; rfl
/-- What is known of a pivot. -/
theorem pv_at {p : List ByteArray} {f t x : ByteArray} {j : Nat} (h : Pv.rightB p f t = true) (hx : p[j]? = some x) : sb f t = true ∧ lt f x = true ∧ sb x t = true ∧ emp x = false := by
  obtain ⟨h1, h2, h3⟩ := (pv_iff p f t).1 h
  have hj := (List.getElem?_eq_some_iff.1 hx).1
  have q := h2 j hj
  rw [at_get hx] at q
  exact ⟨h1, q.1, q.2, Pv.emp_no q.1⟩
theorem pv_take {p : List ByteArray} {f t x : ByteArray} {q : Nat} (h : Pv.rightB p f t = true) (hx : p[q]? = some x) : Pv.rightB (p.take q) f x = true := by
  obtain ⟨h1, h2, h3⟩ := (pv_iff p f t).1 h
  obtain ⟨g1, g2, g3, g4⟩ := pv_at h hx
  have hj := (List.getElem?_eq_some_iff.1 hx).1
  rw [pv_iff]
  refine ⟨?_, fun j hj2 => ?_, fun i j hij hj2 => ?_⟩
  · unfold sb; rw [g2]; simp
  · rw [List.length_take] at hj2
    rw [at_take (by omega)]
    refine ⟨(h2 j (by omega)).1, ?_⟩
    have := h3 j q (by omega) hj
    rw [at_get hx] at this
    unfold sb; rw [this]; simp
  · rw [List.length_take] at hj2
    rw [at_take (by omega), at_take (by omega)]
    exact h3 i j hij (by omega)
theorem pv_drop {p : List ByteArray} {f t x : ByteArray} {q : Nat} (h : Pv.rightB p f t = true) (hx : p[q]? = some x) : Pv.rightB (p.drop (q + 1)) x t = true := by
  obtain ⟨h1, h2, h3⟩ := (pv_iff p f t).1 h
  obtain ⟨g1, g2, g3, g4⟩ := pv_at h hx
  rw [pv_iff]
  refine ⟨g3, fun j hj2 => ?_, fun i j hij hj2 => ?_⟩
  · rw [List.length_drop] at hj2
    rw [at_drop]
    have := h3 q (q + 1 + j) (by omega) (by omega)
    rw [at_get hx] at this
    exact ⟨this, (h2 _ (by omega)).2⟩
  · rw [List.length_drop] at hj2
    rw [at_drop, at_drop]
    exact h3 _ _ (by omega) (by omega)
theorem kidsK_iff (l : List Int) : ∀ j, j ≤ l.length → (kidsK l j = true ↔ (∀ x ∈ l.take j, 1 ≤ x ∧ x ≤ 4096) ∧ (l.take j).Nodup)
  | 0, _ => by simp [kidsK]
  | j + 1, hj => by
    obtain ⟨x, hx⟩ : ∃ x, l[j]? = some x := ⟨_, List.getElem?_eq_getElem (by omega)⟩
    rw [kids_at hx, Bool.and_eq_true, kidsK_iff l j (by omega), List.take_add_one, hx]
    unfold kidB
    simp only [Bool.and_eq_true, decide_eq_true_eq, Option.toList_some, List.mem_append, List.mem_singleton, Bool.not_eq_true', List.nodup_append]
    constructor
    · rintro ⟨⟨h1, h2⟩, h3, h4, h5⟩
      refine ⟨?_, h2, by simp, ?_⟩
      · rintro y (hy | rfl)
        · exact h1 y hy
        · exact ⟨h3, h4⟩
      · intro a ha b hb e
        subst e
        subst hb
        rw [List.contains_eq_mem] at h5
        simp at h5
        exact h5 ha
    · rintro ⟨h1, h2, -, h3⟩
      refine ⟨⟨fun y hy => h1 y (.inl hy), h2⟩, (h1 x (.inr rfl)).1, (h1 x (.inr rfl)).2, ?_⟩
      rw [List.contains_eq_mem]
      simp
      intro hm
      exact h3 x hm x rfl rfl
theorem kids_iff (l : List Int) : kidsB l = true ↔ (∀ x ∈ l, 1 ≤ x ∧ x ≤ 4096) ∧ l.Nodup := by
  unfold kidsB
  rw [kidsK_iff l l.length (Nat.le_refl _), List.take_length]
theorem kids_take {l : List Int} (h : kidsB l = true) (q : Nat) : kidsB (l.take q) = true := by
  rw [kids_iff] at h ⊢
  exact ⟨fun x hx => h.1 x (List.mem_of_mem_take hx), h.2.sublist (List.take_sublist _ _)⟩
theorem kids_drop {l : List Int} (h : kidsB l = true) (q : Nat) : kidsB (l.drop q) = true := by
  rw [kids_iff] at h ⊢
  exact ⟨fun x hx => h.1 x (List.mem_of_mem_drop hx), h.2.sublist (List.drop_sublist _ _)⟩
/-- The first half of a right node is right for what lies below the pivot. -/
theorem rn_low {kd : Int} {n k b q l : Nat} {ps : List ByteArray} {ks : List Int} {ms : List MG} {f t x : ByteArray} (h : RN kd n k b ps ks ms f t) (hl : ps.length = n) (hx : ps[q]? = some x) : RN 2 q (q + 1) 0 (ps.take q) (ks.take (q + 1)) (forL emptyS x ms) f x := by
  have hr := ((right_iff ms).1 h.hms).1
  have g := pv_at h.hps hx
  have hsx : sb f x = true := by unfold sb; rw [g.2.1]; simp
  exact ⟨rfl, rfl, rfl, pv_take h.hps hx, kids_take h.hks _, forL_right h.hms _ _, forL_wi2 hr h.hwi hsx⟩
theorem rn_high {kd : Int} {n k b q l : Nat} {ps : List ByteArray} {ks : List Int} {ms : List MG} {f t x : ByteArray} (h : RN kd n k b ps ks ms f t) (hl : ps.length = n) (hx : ps[q]? = some x) : RN 2 (n - (q + 1)) (k - (q + 1)) 0 (ps.drop (q + 1)) (ks.drop (q + 1)) (resL emptyS x ms) x t := by
  have hr := ((right_iff ms).1 h.hms).1
  have g := pv_at h.hps hx
  have hj := (List.getElem?_eq_some_iff.1 hx).1
  have hk := h.hk
  exact ⟨rfl, rfl, by omega, pv_drop h.hps hx, kids_drop h.hks _, resL_right h.hms _ _, resL_wi2 hr h.hwi g.2.2.2 g.2.2.1⟩
end Go.Proofs.YtilnpeekajnlhaaGreat
namespace Go.Proofs.YtilnpeekajnlhaaGreat.Pv
open Go.RowKit

set_option maxHeartbeats 1000000 in
theorem sameS_eq (A B : Option Addr) (p : List ByteArray) (n c c' : Nat) (w : World) (hl : p.length = n) (hn : n ≤ 100000) (hA : RdS w A p) (hB : RdS w B p) :
    Calls Tryz.prog 26 #[.slice A n c, .slice B n c'] w fun e w' => e = .returned (.bool true) ∧ Below w.heap.size w w' := by
  have HA := Lib.hid hA
  have HB := Lib.hid hB
  have HL := Lib.hid hl
  clear hA hB hl
  go_enter Tryz.func26, Tryz.ntmps26
  go_wp2
  go_loopw [5] (fun iv wr => ∃ k d : Nat, k ≤ n ∧ iv = .int .i64 k ∧ wr = w.drewN d) (fun i _ => n - (intOf i).toNat)
  case atStart => exact ⟨0, 0, by omega, rfl, rfl⟩
  case round =>
    obtain ⟨k, d, hk, rfl, hwr⟩ := hrel
    have HW := Lib.hid hwr
    clear hwr
    by_cases h8 : k < n
    · have i1 : (k : Int) < (n : Int) := by omega
      have i0 : (0 : Int) ≤ (k : Int) := by omega
      obtain ⟨b, off, rfl, hlt, f0⟩ := rds_get HA.out (k := k) (by have := HL.out; omega)
      obtain ⟨b2, off2, rfl, hlt2, f2⟩ := rds_get HB.out (k := k) (by have := HL.out; omega)
      have g0 : wr.cell? ⟨b, off + k, none⟩ = some (.string (at_ p k)) := by rw [HW.out]; exact f0
      have g2 : wr.cell? ⟨b2, off2 + k, none⟩ = some (.string (at_ p k)) := by rw [HW.out]; exact f2
      generalize at_ p k = x at g0 g2
      clear f0 f2
      go_wp2_with fail
      go_quiet (fail)
      go_wp2
      exact ⟨⟨k + 1, d + nq, by omega, by simp, by rw [HW.out, World.drewN_drewN]⟩, by simp [intOf]; omega⟩
    · have i1 : ¬ (k : Int) < (n : Int) := by omega
      go_wp2
      go_ret
      exact ⟨rfl, by rw [HW.out]; exact bel_drewN (Below.refl _ _) d⟩

end Go.Proofs.YtilnpeekajnlhaaGreat.Pv
namespace Go.Proofs.YtilnpeekajnlhaaGreat
open Go.RowKit Go.Maps
set_option maxRecDepth 100000 in
set_option maxHeartbeats 4000000 in
theorem same14 (kd : Int) (Pa Ja Ma Ba Pb Jb Mb Bb : Option Addr) (n k m pa ja ma ba pb jb mb bb : Nat) (ps : List ByteArray) (ks : List Int) (ms : List MG) (w : World) (hl : ps.length = n) (hn : n ≤ 1000) (hkl : ks.length = k) (hk1 : k ≤ 1000) (hm : ms.length = m) (hm1 : m ≤ 1000)
    (hP : ES.Rd w Pa ps) (hP2 : ES.Rd w Pb ps) (hJ : EI.Rd w Ja ks) (hJ2 : EI.Rd w Jb ks) (hM : EG.Rd w Ma ms) (hM2 : EG.Rd w Mb ms) :
    Calls Tryz.prog 9 #[NV kd (.slice Pa n pa) (.slice Ja k ja) (.slice Ma m ma) (.slice Ba 0 ba), NV kd (.slice Pb n pb) (.slice Jb k jb) (.slice Mb m mb) (.slice Bb 0 bb)] w fun e w' => e = .returned (.bool true) ∧ Below w.heap.size w w' := by
  have A1 := Lib.hid (fun W (h : Below w.heap.size w W) => Pv.sameS_eq Pa Pb ps n pa pb W hl (by omega) (es_rd.1 (hP.later h)) (es_rd.1 (hP2.later h)))
  have A2 := Lib.hid (fun W (h : Below w.heap.size w W) => same_any Ma Mb m ma mb ms W hm hm1 (hM.later h) (hM2.later h))
  have JJ := Lib.hid (fun W (h : Below w.heap.size w W) => hJ.later h)
  have J2 := Lib.hid (fun W (h : Below w.heap.size w W) => hJ2.later h)
  have HKL := Lib.hid hkl
  clear hl hkl hm hP hP2 hJ hJ2 hM hM2
  have y1 := two_new w (NO kd (.slice Pa n pa) (.slice Ja k ja) (.slice Ma m ma) (.slice Ba 0 ba)) (NO kd (.slice Pb n pb) (.slice Jb k jb) (.slice Mb m mb) (.slice Bb 0 bb))
  have H0 := Lib.hid (bel_alloc (alb w (NO kd (.slice Pa n pa) (.slice Ja k ja) (.slice Ma m ma) (.slice Ba 0 ba))) (NO kd (.slice Pb n pb) (.slice Jb k jb) (.slice Mb m mb) (.slice Bb 0 bb)))
  have Z := Lib.hid y1.1
  have Y := Lib.hid y1.2
  clear y1
  obtain ⟨c0, c1, c2, c3, c4⟩ := cells5 Z.out
  obtain ⟨d0, d1, d2, d3, d4⟩ := cells5 Y.out
  have hk0 : (0 : Int) ≤ (k : Int) := by omega
  have hk9 : (k : Int) ≤ 1000 := by omega
  go_enter Tryz.func9, Tryz.ntmps9
  go_wp2
  go_loopw [5] (fun iv wr => ∃ i : Nat, i ≤ k ∧ iv = .int .i64 i ∧ wr.heap[w.heap.size]? = some (NO kd (.slice Pa n pa) (.slice Ja k ja) (.slice Ma m ma) (.slice Ba 0 ba)) ∧ wr.heap[w.heap.size + 1]? = some (NO kd (.slice Pb n pb) (.slice Jb k jb) (.slice Mb m mb) (.slice Bb 0 bb)) ∧ Below w.heap.size w wr) (fun i _ => k - (intOf i).toNat)
  case atStart => exact ⟨0, Nat.zero_le _, rfl, Z.out, Y.out, H0.out⟩
  case round =>
    obtain ⟨i, hi, rfl, hz, hy, hb⟩ := hrel
    clear c0 c1 c2 c3 c4 d0 d1 d2 d3 d4
    replace Z := Lib.hid hz
    replace Y := Lib.hid hy
    replace H0 := Lib.hid hb
    clear hz hy hb
    obtain ⟨c0, c1, c2, c3, c4⟩ := cells5 Z.out
    obtain ⟨d0, d1, d2, d3, d4⟩ := cells5 Y.out
    have hi0 : (0 : Int) ≤ (i : Int) := by omega
    have hi9 : (i : Int) ≤ 1000 := by omega
    by_cases hik : i < k
    · have hlt : (i : Int) < (k : Int) := by omega
      obtain ⟨x, hx⟩ : ∃ x, ks[i]? = some x := ⟨_, List.getElem?_eq_getElem (by rw [HKL.out]; exact hik)⟩
      obtain ⟨b0, off, rfl, _, k0⟩ := ei_at (JJ.out _ H0.out) hx
      obtain ⟨b1, off1, rfl, _, k1⟩ := ei_at (J2.out _ H0.out) hx
      clear hx
      go_wp2_with fail
      go_quiet (fail)
      go_wp2
      exact ⟨⟨i + 1, by omega, by simp, Z.out, Y.out, bel_drewN H0.out _⟩, by simp [intOf]; omega⟩
    · have hlt : ¬ (i : Int) < (k : Int) := by omega
      go_wp2
      go_loopw [6] (fun iv wr => iv = .int .i64 0 ∧ wr.heap[w.heap.size]? = some (NO kd (.slice Pa n pa) (.slice Ja k ja) (.slice Ma m ma) (.slice Ba 0 ba)) ∧ wr.heap[w.heap.size + 1]? = some (NO kd (.slice Pb n pb) (.slice Jb k jb) (.slice Mb m mb) (.slice Bb 0 bb)) ∧ Below w.heap.size w wr) (fun _ _ => 0)
      case atStart => exact ⟨rfl, Z.out, Y.out, H0.out⟩
      case round =>
        obtain ⟨rfl, hz, hy, hb⟩ := hrel
        clear c0 c1 c2 c3 c4 d0 d1 d2 d3 d4
        replace Z := Lib.hid hz
        replace Y := Lib.hid hy
        replace H0 := Lib.hid hb
        clear hz hy hb
        obtain ⟨c0, c1, c2, c3, c4⟩ := cells5 Z.out
        obtain ⟨d0, d1, d2, d3, d4⟩ := cells5 Y.out
        go_wp2_with (first
          | (go_at_call 26; ((with_reducible refine (A1.out _ H0.out).mono ?_); rintro e w1 ⟨rfl, b⟩; replace H0 := Lib.hid (bel_trans H0.out b); replace Z := Lib.hid (keep_bel b Z.out); replace Y := Lib.hid (keep_bel b Y.out); clear b c0 c1 c2 c3 c4 d0 d1 d2 d3 d4; obtain ⟨c0, c1, c2, c3, c4⟩ := cells5 Z.out; obtain ⟨d0, d1, d2, d3, d4⟩ := cells5 Y.out))
          | (go_at_call 27; ((with_reducible refine (A2.out _ H0.out).mono ?_); rintro e w1 ⟨rfl, b⟩; replace H0 := Lib.hid (bel_trans H0.out b); replace Z := Lib.hid (keep_bel b Z.out); replace Y := Lib.hid (keep_bel b Y.out); clear b c0 c1 c2 c3 c4 d0 d1 d2 d3 d4; obtain ⟨c0, c1, c2, c3, c4⟩ := cells5 Z.out; obtain ⟨d0, d1, d2, d3, d4⟩ := cells5 Y.out))
          | fail)
        go_ret
        exact ⟨rfl, H0.out⟩
end Go.Proofs.YtilnpeekajnlhaaGreat
namespace Go.Proofs.YtilnpeekajnlhaaGreat
open Go.RowKit Go.Maps
/-- The greatest weight so far, and where. -/
def hotK (ws : List Int) : Nat → Int × Int
  | 0 => (0, 0)
  | j + 1 => match ws[j]? with
    | some x => if x > (hotK ws j).2 then ((j : Int), x) else hotK ws j
    | none => hotK ws j
set_option maxRecDepth 100000 in
set_option maxHeartbeats 8000000 in
theorem hot_any (kd : Int) (P J M B : Option Addr) (n pc k kc m mc b bc : Nat) (ps : List ByteArray) (ms : List MG) (f t : ByteArray) (w : World) (hl : ps.length = n) (hn : n ≤ 100) (hP : Pv.RdS w P ps) (hm : ms.length = m) (hm0 : m ≠ 0) (hm1 : m ≤ 1000) (hM : EG.Rd w M ms) (ho : OkA ms) (hok : ∀ x ∈ Pv.upto ps f t (Pv.many ps f t), OkA (forL x.2.1 x.2.2 ms)) :
    Calls Tryz.prog 20 #[NV kd (.slice P n pc) (.slice J k kc) (.slice M m mc) (.slice B b bc), .agg #[.string f, .string t]] w fun e w' => e = .returned (.tuple #[.int .i64 (hotK (wgts ps f t ms) (wgts ps f t ms).length).1, .int .i64 (hotK (wgts ps f t ms) (wgts ps f t ms).length).2]) ∧ Below w.heap.size w w' := by
  have WA := Lib.hid (fun W (h : Below w.heap.size w W) => weights_any kd P J M B n pc k kc m mc b bc ps ms f t W hl hn (Rd.later hP h) hm hm1 (hM.later h) ho hok)
  have HLW : Hid ((wgts ps f t ms).length ≤ 1000) := Lib.hid (by unfold wgts; rw [List.length_map, Pv.upto_length]; have := Pv.many_le ps f t; omega)
  obtain ⟨ws, hws⟩ : ∃ ws, ws = wgts ps f t ms := ⟨_, rfl⟩
  rw [← hws] at WA HLW ⊢
  obtain ⟨L, hL⟩ : ∃ L, L = ws.length := ⟨_, rfl⟩
  rw [← hL] at WA HLW ⊢
  have HL := Lib.hid hL.symm
  have hL9 : (L : Int) ≤ 1000 := by have := HLW.out; omega
  have hL0 : (0 : Int) ≤ (L : Int) := by omega
  have h0 : ((m : Int) == 0) = false := by rw [beq_eq_false_iff_ne]; omega
  have h00 : ¬ (m : Int) = 0 := by omega
  clear hws hL hl hP hm hM ho hok
  have y1 := two_new w (NO kd (.slice P n pc) (.slice J k kc) (.slice M m mc) (.slice B b bc)) (rgc f t)
  have H0 := Lib.hid (bel_alloc (alb w (NO kd (.slice P n pc) (.slice J k kc) (.slice M m mc) (.slice B b bc))) (rgc f t))
  have Z := Lib.hid y1.1
  have Y := Lib.hid y1.2
  clear y1
  obtain ⟨c0, c1, c2, c3, c4⟩ := cells5 Z.out
  obtain ⟨d0, d1, -, -⟩ := has_two Y.out
  go_enter Tryz.func20, Tryz.ntmps20
  go_wp2_with (first
    | (go_at_call 46; ((with_reducible refine (WA.out _ H0.out).mono ?_); rintro e w1 ⟨A', c', rfl, r1, b1⟩; have R1 := Lib.hid r1.rd; have B1 := Lib.hid (bel_trans H0.out b1); clear b1 r1 c0 c1 c2 c3 c4 d0 d1))
    | fail)
  go_loopw [6, 7, 8, 9, 20] (fun hv mv iv wv jv wr => ∃ j : Nat, j ≤ L ∧ jv = .int .i64 j ∧ hv = .int .i64 (hotK ws j).1 ∧ mv = .int .i64 (hotK ws j).2 ∧ w1 = wr) (fun _ _ _ _ j _ => L - (intOf j).toNat)
  case atStart => exact ⟨0, Nat.zero_le _, rfl, rfl, rfl, rfl⟩
  case round =>
    obtain ⟨j, hj, rfl, rfl, rfl, rfl⟩ := hrel
    by_cases hjl : j < L
    · have hj1 : (j : Int) < (L : Int) := by omega
      have hj0 : (0 : Int) ≤ (j : Int) := by omega
      have hj9 : (j : Int) ≤ 1000 := by omega
      obtain ⟨x, hx⟩ : ∃ x, ws[j]? = some x := ⟨_, List.getElem?_eq_getElem (by rw [HL.out]; exact hjl)⟩
      obtain ⟨b0, off, rfl, hlt0, k0⟩ := ei_at R1.out hx
      by_cases hg : x > (hotK ws j).2
      · have HN := Lib.hid (show hotK ws (j + 1) = ((j : Int), x) by show (match ws[j]? with | some x => _ | none => _) = _; rw [hx]; exact if_pos hg)
        have hg2 : (hotK ws j).2 < x := hg
        obtain ⟨s, hs⟩ : ∃ s, s = hotK ws j := ⟨_, rfl⟩
        rw [← hs] at hg hg2 ⊢
        clear hs hx hlt0
        go_wp2
        exact ⟨⟨j + 1, by omega, by simp, by rw [HN.out], by rw [HN.out], trivial⟩, by simp [intOf]; omega⟩
      · have HN := Lib.hid (show hotK ws (j + 1) = hotK ws j by show (match ws[j]? with | some x => _ | none => _) = _; rw [hx]; exact if_neg hg)
        have hg2 : ¬ (hotK ws j).2 < x := hg
        obtain ⟨s, hs⟩ : ∃ s, s = hotK ws j := ⟨_, rfl⟩
        rw [← hs] at hg hg2 HN ⊢
        clear hs hx hlt0
        go_wp2
        exact ⟨⟨j + 1, by omega, by simp, by rw [HN.out], by rw [HN.out], trivial⟩, by simp [intOf]; omega⟩
    · have hj1 : ¬ (j : Int) < (L : Int) := by omega
      have e : j = L := by omega
      have HE := Lib.hid e
      clear e
      go_wp2
      go_ret2
      exact ⟨by rw [HE.out]; rfl, B1.out⟩
end Go.Proofs.YtilnpeekajnlhaaGreat
namespace Go.Proofs.YtilnpeekajnlhaaGreat
open Go.RowKit Go.Maps
abbrev jA : ByteArray := ⟨#[97]⟩
abbrev jB : ByteArray := ⟨#[98]⟩
abbrev jM : ByteArray := ⟨#[109]⟩
abbrev jZ : ByteArray := ⟨#[122]⟩
abbrev q1 : MG := ⟨4, 1, jA, jZ, emptyS, 0⟩
abbrev q2 : MG := ⟨1, 2, jB, emptyS, emptyS, 0⟩
abbrev q3 : MG := ⟨4, 1, jA, jM, emptyS, 0⟩
abbrev q4 : MG := ⟨4, 1, jM, jZ, emptyS, 0⟩
abbrev jp : List ByteArray := [jM]
theorem lv_ok : OkA [q1, q2] := by
  intro x hx
  simp at hx
  rcases hx with rfl | rfl <;> refine ⟨?_, ?_, ?_⟩ <;> decide
theorem lv_ok3 : OkA [q3, q2] := by
  intro x hx
  simp at hx
  rcases hx with rfl | rfl <;> refine ⟨?_, ?_, ?_⟩ <;> decide
theorem lv_ok4 : OkA [q4] := by
  intro x hx
  simp at hx
  subst hx
  refine ⟨?_, ?_, ?_⟩ <;> decide
theorem lv_for0 : forL emptyS jM [q1, q2] = [q3, q2] := by
  have e1 : clipM q1 emptyS jM = (q3, true) := by
    simp [clipM, isPt, meetF, meetE, sb, emp, lt, maxS, firstS, bef, toList_eq, Op.bytesLess, overM]
  have e2 : clipM q2 emptyS jM = (q2, true) := by
    simp [clipM, isPt, sb, has, emp, lt, toList_eq, Op.bytesLess]
  simp [forL, e1, e2]
theorem lv_for1 : forL jM emptyS [q1, q2] = [q4] := by
  have e1 : clipM q1 jM emptyS = (q4, true) := by
    simp [clipM, isPt, meetF, meetE, sb, emp, lt, maxS, firstS, bef, toList_eq, Op.bytesLess, overM]
  have e2 : (clipM q2 jM emptyS).2 = false := by
    simp [clipM, isPt, sb, has, emp, lt, toList_eq, Op.bytesLess]
  simp [forL, e1, e2]
theorem lv_rightM : rightB [q1, q2] = true := by
  refine right_yes (fun i hi => ?_)
  have : i = 0 ∨ i = 1 := by simp at hi; omega
  rcases this with rfl | rfl
  · rw [rcI_zero rfl]; simp [rcX, isPt, sb, spF, spT, emp, lt, toList_eq, Op.bytesLess]
  · rw [rcI_succ (p := q1) (x := q2) rfl rfl]; simp [rcX, rcP, aheadM, isPt, sb, spF, spT, emp, lt, toList_eq, Op.bytesLess]
theorem lv_rightP : Pv.rightB jp emptyS emptyS = true := by
  simp [Pv.rightB, Pv.inK, Pv.risesB, Pv.riseK, Pv.at_, sb, emp, lt, ByteArray.toList_eq, Op.bytesLess]
theorem lv_many : Pv.many jp emptyS emptyS = 2 := by unfold Pv.many; rw [if_pos lv_rightP]; rfl
theorem lv_upto : Pv.upto jp emptyS emptyS 2 = [(0, emptyS, jM), (1, jM, emptyS)] := by
  simp [Pv.upto, Pv.prtOf, Pv.pF, Pv.pT, Pv.at_, List.range_succ]
theorem lv_wgts : wgts jp emptyS emptyS [q1, q2] = [35, 18] := by
  unfold wgts
  rw [lv_many, lv_upto]
  show [wgt _ _, wgt _ _] = _
  have e0 : wgt [q1, q2] (0, emptyS, jM) = 35 := by show byN (forL emptyS jM [q1, q2]) = 35; rw [lv_for0]; rfl
  have e1 : wgt [q1, q2] (1, jM, emptyS) = 18 := by show byN (forL jM emptyS [q1, q2]) = 18; rw [lv_for1]; rfl
  rw [e0, e1]
theorem lv_hok : ∀ x ∈ Pv.upto jp emptyS emptyS (Pv.many jp emptyS emptyS), OkA (forL x.2.1 x.2.2 [q1, q2]) := by
  rw [lv_many, lv_upto]
  intro x hx
  simp at hx
  rcases hx with rfl | rfl
  · show OkA (forL emptyS jM [q1, q2]); rw [lv_for0]; exact lv_ok3
  · show OkA (forL jM emptyS [q1, q2]); rw [lv_for1]; exact lv_ok4
theorem lv_hot : hotK [35, 18] 2 = (0, 35) := by decide
theorem lv_prt : Pv.prt jp jM = 1 := by simp [Pv.prt, Pv.prtK, Pv.at_, lt, ByteArray.toList_eq, Op.bytesLess]
theorem lv_wi : [q1, q2].all (wiR emptyS emptyS) = true := by
  simp [wiR, sb, spF, spT, isPt, emp, lt, bef, toList_eq, Op.bytesLess]
theorem lv_kids : kidsB [5, 6] = true := by decide
theorem lv_kid : kidL jp emptyS emptyS 0 [q1, q2] = [q3, q2] := by
  have e : Pv.spanB jp emptyS emptyS 0 = true := by unfold Pv.spanB; rw [lv_rightP]; rfl
  unfold kidL Pv.spanF
  rw [if_pos e, if_pos e]
  exact lv_for0
theorem lv_rn : RN 2 1 2 0 jp [5, 6] [q1, q2] emptyS emptyS := ⟨rfl, rfl, rfl, lv_rightP, lv_kids, lv_rightM, lv_wi⟩
end Go.Proofs.YtilnpeekajnlhaaGreat
namespace Go.Proofs.YtilnpeekajnlhaaGreat
open Go.RowKit Go.Maps
set_option maxRecDepth 100000 in
set_option maxHeartbeats 8000000 in
theorem live_true (w : World) : Calls Tryz.prog 6 #[] w fun r w' => r = .returned (.bool true) ∧ Below w.heap.size w w' := by
  obtain ⟨V, hV⟩ : ∃ V, V = (((w.alloc (.cells #[.string jM] 9)).alloc (.cells #[.int .i64 5, .int .i64 6] 3)).alloc (.cells #[.int .u8 4, .int .i64 1, .string jA, .string jZ, .string emptyS, .int .u64 0, .int .u8 1, .int .i64 2, .string jB, .string emptyS, .string emptyS, .int .u64 0] 50)).alloc (NO 2 (.slice (some ⟨w.heap.size, 0, none⟩) 1 1) (.slice (some ⟨w.heap.size + 1, 0, none⟩) 2 2) (.slice (some ⟨w.heap.size + 1 + 1, 0, none⟩) 2 2) (.slice none 0 0)) := ⟨_, rfl⟩
  have b1 := alb w (.cells #[.string jM] 9)
  have b2 := alb (w.alloc (.cells #[.string jM] 9)) (.cells #[.int .i64 5, .int .i64 6] 3)
  have b3 := alb ((w.alloc (.cells #[.string jM] 9)).alloc (.cells #[.int .i64 5, .int .i64 6] 3)) (.cells #[.int .u8 4, .int .i64 1, .string jA, .string jZ, .string emptyS, .int .u64 0, .int .u8 1, .int .i64 2, .string jB, .string emptyS, .string emptyS, .int .u64 0] 50)
  have b4 := alb (((w.alloc (.cells #[.string jM] 9)).alloc (.cells #[.int .i64 5, .int .i64 6] 3)).alloc (.cells #[.int .u8 4, .int .i64 1, .string jA, .string jZ, .string emptyS, .int .u64 0, .int .u8 1, .int .i64 2, .string jB, .string emptyS, .string emptyS, .int .u64 0] 50)) (NO 2 (.slice (some ⟨w.heap.size, 0, none⟩) 1 1) (.slice (some ⟨w.heap.size + 1, 0, none⟩) 2 2) (.slice (some ⟨w.heap.size + 1 + 1, 0, none⟩) 2 2) (.slice none 0 0))
  have rP := RE.Rd.lit (E := ES) w 9 [jM] #[.string jM] rfl
  have rK := RE.Rd.lit (E := EI) (w.alloc (.cells #[.string jM] 9)) 3 [5, 6] #[.int .i64 5, .int .i64 6] rfl
  have rM := RE.Rd.lit (E := EG) ((w.alloc (.cells #[.string jM] 9)).alloc (.cells #[.int .i64 5, .int .i64 6] 3)) 50 [q1, q2] #[.int .u8 4, .int .i64 1, .string jA, .string jZ, .string emptyS, .int .u64 0, .int .u8 1, .int .i64 2, .string jB, .string emptyS, .string emptyS, .int .u64 0] rfl
  have hz := heap_alloc_new (((w.alloc (.cells #[.string jM] 9)).alloc (.cells #[.int .i64 5, .int .i64 6] 3)).alloc (.cells #[.int .u8 4, .int .i64 1, .string jA, .string jZ, .string emptyS, .int .u64 0, .int .u8 1, .int .i64 2, .string jB, .string emptyS, .string emptyS, .int .u64 0] 50)) (NO 2 (.slice (some ⟨w.heap.size, 0, none⟩) 1 1) (.slice (some ⟨w.heap.size + 1, 0, none⟩) 2 2) (.slice (some ⟨w.heap.size + 1 + 1, 0, none⟩) 2 2) (.slice none 0 0))
  simp only [World.size_alloc] at rK rM hz
  have hP : ES.Rd V (some ⟨w.heap.size, 0, none⟩) [jM] := by rw [hV]; exact rP.later (bel_trans (bel_trans b2 b3) b4)
  have hK : EI.Rd V (some ⟨w.heap.size + 1, 0, none⟩) [5, 6] := by rw [hV]; exact rK.later (bel_trans b3 b4)
  have hM : EG.Rd V (some ⟨w.heap.size + 1 + 1, 0, none⟩) [q1, q2] := by rw [hV]; exact rM.later b4
  have Z0 : V.heap[w.heap.size + 1 + 1 + 1]? = some (NO 2 (.slice (some ⟨w.heap.size, 0, none⟩) 1 1) (.slice (some ⟨w.heap.size + 1, 0, none⟩) 2 2) (.slice (some ⟨w.heap.size + 1 + 1, 0, none⟩) 2 2) (.slice none 0 0)) := by rw [hV]; exact hz
  have hb : Below w.heap.size w V := by rw [hV]; exact bel_trans (bel_trans (bel_trans b1 b2) b3) b4
  have AF : Hid (∀ W, Below V.heap.size V W → Calls Tryz.prog 19 #[NV 2 (.slice (some ⟨w.heap.size, 0, none⟩) 1 1) (.slice (some ⟨w.heap.size + 1, 0, none⟩) 2 2) (.slice (some ⟨w.heap.size + 1 + 1, 0, none⟩) 2 2) (.slice none 0 0), .agg #[.string emptyS, .string emptyS], .int .i64 0] W fun r w' => (∃ A' c', r = .returned (.slice A' 2 c') ∧ EG.Row w' W.heap.size A' [q3, q2] c') ∧ Below W.heap.size W w') := Lib.hid (fun W h => by
    have q := ifor_any 2 (some ⟨w.heap.size, 0, none⟩) (some ⟨w.heap.size + 1, 0, none⟩) (some ⟨w.heap.size + 1 + 1, 0, none⟩) none 1 1 2 2 2 2 0 0 jp [q1, q2] emptyS emptyS 0 W rfl (by omega) (es_rd.1 (hP.later h)) rfl rfl (by omega) (hM.later h) lv_ok
    rw [lv_kid] at q
    exact q)
  have AH : Hid (∀ W, Below V.heap.size V W → Calls Tryz.prog 20 #[NV 2 (.slice (some ⟨w.heap.size, 0, none⟩) 1 1) (.slice (some ⟨w.heap.size + 1, 0, none⟩) 2 2) (.slice (some ⟨w.heap.size + 1 + 1, 0, none⟩) 2 2) (.slice none 0 0), .agg #[.string emptyS, .string emptyS]] W fun r w' => r = .returned (.tuple #[.int .i64 0, .int .i64 35]) ∧ Below W.heap.size W w') := Lib.hid (fun W h => by
    have q := hot_any 2 (some ⟨w.heap.size, 0, none⟩) (some ⟨w.heap.size + 1, 0, none⟩) (some ⟨w.heap.size + 1 + 1, 0, none⟩) none 1 1 2 2 2 2 0 0 jp [q1, q2] emptyS emptyS W rfl (by omega) (es_rd.1 (hP.later h)) rfl (by omega) (by omega) (hM.later h) lv_ok lv_hok
    rw [lv_wgts, show ([35, 18] : List Int).length = 2 from rfl, lv_hot] at q
    exact q)
  have AK : Hid (∀ W, Below V.heap.size V W → Calls Tryz.prog 21 #[NV 2 (.slice (some ⟨w.heap.size, 0, none⟩) 1 1) (.slice (some ⟨w.heap.size + 1, 0, none⟩) 2 2) (.slice (some ⟨w.heap.size + 1 + 1, 0, none⟩) 2 2) (.slice none 0 0), .string jM] W fun r w' => r = .returned (.tuple #[.int .i64 1, .bool true]) ∧ Below W.heap.size W w') := Lib.hid (fun W h => by
    have q := kid_any 2 (some ⟨w.heap.size, 0, none⟩) (some ⟨w.heap.size + 1, 0, none⟩) (some ⟨w.heap.size + 1 + 1, 0, none⟩) none 1 1 2 2 2 2 0 0 jp jM W rfl (by omega) (es_rd.1 (hP.later h)) rfl
    rw [lv_prt] at q
    exact q)
  have AR : Hid (∀ W, Below V.heap.size V W → Calls Tryz.prog 11 #[NV 2 (.slice (some ⟨w.heap.size, 0, none⟩) 1 1) (.slice (some ⟨w.heap.size + 1, 0, none⟩) 2 2) (.slice (some ⟨w.heap.size + 1 + 1, 0, none⟩) 2 2) (.slice none 0 0), .agg #[.string emptyS, .string emptyS]] W fun r w' => r = .returned (.bool true) ∧ Below W.heap.size W w') := Lib.hid (fun W h => iright_true 2 (some ⟨w.heap.size, 0, none⟩) (some ⟨w.heap.size + 1, 0, none⟩) (some ⟨w.heap.size + 1 + 1, 0, none⟩) none 1 1 2 2 2 2 0 0 jp [5, 6] [q1, q2] emptyS emptyS W rfl (by omega) (es_rd.1 (hP.later h)) rfl (hK.later h) (by intro x hx; simp at hx; rcases hx with rfl | rfl <;> decide) rfl (by omega) (hM.later h) lv_ok lv_rn)
  have HW := Lib.hid hb
  have Z := Lib.hid Z0
  have H0 := Lib.hid (Below.refl V.heap.size V)
  have HV := Lib.hid hV
  clear b1 b2 b3 b4 rP rK rM hz hP hK hM Z0 hb hV
  go_enter Tryz.func6, Tryz.ntmps6
  go_wp2_with (first
    | (go_at_call 19; ((with_reducible refine (AF.out _ (by rw [← HV.out]; exact Below.refl _ _)).mono ?_); rintro e w1 ⟨⟨A1, a1, rfl, r1⟩, b⟩; rw [← HV.out] at b; have R1 := Lib.hid r1.rd; replace H0 := Lib.hid b; replace Z := Lib.hid (keep_bel b Z.out); obtain ⟨c0, c1, c2, c3, c4⟩ := cells5 Z.out; clear b r1))
    | (go_at_call 20; ((with_reducible refine (AH.out _ H0.out).mono ?_); rintro e w2 ⟨rfl, b⟩; replace R1 := Lib.hid (R1.out.later b); replace H0 := Lib.hid (bel_trans H0.out b); replace Z := Lib.hid (keep_bel b Z.out); clear b c0 c1 c2 c3 c4; obtain ⟨c0, c1, c2, c3, c4⟩ := cells5 Z.out))
    | (go_at_call 21; ((with_reducible refine (AK.out _ H0.out).mono ?_); rintro e w3 ⟨rfl, b⟩; replace R1 := Lib.hid (R1.out.later b); replace H0 := Lib.hid (bel_trans H0.out b); replace Z := Lib.hid (keep_bel b Z.out); clear b c0 c1 c2 c3 c4; obtain ⟨c0, c1, c2, c3, c4⟩ := cells5 Z.out))
    | (go_at_call 11; ((with_reducible refine (AR.out _ H0.out).mono ?_); rintro e w4 ⟨rfl, b⟩; replace R1 := Lib.hid (R1.out.later b); replace H0 := Lib.hid (bel_trans H0.out b); replace Z := Lib.hid (keep_bel b Z.out); clear b c0 c1 c2 c3 c4; obtain ⟨c0, c1, c2, c3, c4⟩ := cells5 Z.out; obtain ⟨b0, off, rfl, _, _, _, _, g3, _, _⟩ := eg_at R1.out (i := 0) rfl; simp only [Nat.zero_mul, Nat.add_zero] at g3))
    | fail)
  go_ret
  exact ⟨rfl, bel_trans HW.out H0.out⟩
end Go.Proofs.YtilnpeekajnlhaaGreat
namespace Go.Proofs.YtilnpeekajnlhaaGreat
open Go.RowKit Go.Maps
theorem zm_dl : DlOk zM := by refine ⟨?_, ?_⟩ <;> decide
theorem clip_dl {m : MG} (hm : DlOk m) (a b : ByteArray) : DlOk (clipM m a b).1 := by
  unfold clipM
  repeat' split
  all_goals first | exact hm | exact zm_dl
theorem rest_dl {m : MG} (hm : DlOk m) (a b : ByteArray) : ∀ x ∈ restM m a b, DlOk x := by
  intro x hx
  unfold restM restQ at hx
  split at hx
  · split at hx
    · cases hx
    · rw [List.mem_singleton.1 hx]; exact hm
  · split at hx
    · split at hx
      · rcases List.mem_append.1 hx with hx | hx
        · split at hx
          · rw [List.mem_singleton.1 hx]; exact hm
          · cases hx
        · split at hx
          · rw [List.mem_singleton.1 hx]; exact hm
          · cases hx
      · rw [List.mem_singleton.1 hx]; exact hm
    · cases hx
theorem forL_dl {xs : List MG} (ho : ∀ x ∈ xs, DlOk x) (a b : ByteArray) : ∀ x ∈ forL a b xs, DlOk x := by
  intro x hx
  obtain ⟨m, hm, hx⟩ := List.mem_flatMap.1 hx
  split at hx
  · rw [List.mem_singleton.1 hx]; exact clip_dl (ho m hm) a b
  · cases hx
theorem resL_dl {xs : List MG} (ho : ∀ x ∈ xs, DlOk x) (a b : ByteArray) : ∀ x ∈ resL a b xs, DlOk x := by
  intro x hx
  obtain ⟨m, hm, hx⟩ := List.mem_flatMap.1 hx
  exact rest_dl (ho m hm) a b x hx
end Go.Proofs.YtilnpeekajnlhaaGreat
namespace Go.Proofs.YtilnpeekajnlhaaGreat
theorem valL_at (xs : List MG) (s : ByteArray) : ∀ q, valL (atL s xs) s q = valL xs s q := by
  induction xs with
  | nil => intro q; rfl
  | cons x xs ih =>
    intro q
    unfold atL at *
    rw [List.filter_cons]
    have e : valL (x :: xs) s q = valL xs s (onQ x s q) := rfl
    cases h : touB x s
    · rw [if_neg (by simp), e, onQ_no h, ih]
    · rw [if_pos rfl, e, ← ih]; rfl
theorem srt_buf {xs : List MG} (h : rightB xs = true) : Srt xs := by
  rw [right_iff] at h
  exact h.2.imp_of_mem (fun ha hb r => ahead_of_rel (h.1 _ ha) (h.1 _ hb) r)
theorem srt_at {xs : List MG} (h : Srt xs) (s : ByteArray) : Srt (atL s xs) := List.Pairwise.filter _ h
theorem at_stab (L : List MG) (s : ByteArray) (z : MG) : (atL s (stab L)).filter (eqv z) = (atL s L).filter (eqv z) := by
  unfold atL
  have c : ∀ M : List MG, (M.filter (fun x => touB x s)).filter (eqv z) = (M.filter (eqv z)).filter (fun x => touB x s) := by
    intro M
    rw [List.filter_filter, List.filter_filter]
    exact List.filter_congr (fun x _ => Bool.and_comm _ _)
  rw [c, c, stab_filter]
theorem val_lo {A C : List MG} {s : ByteArray} (hA : Srt A) (hC : atL s C = []) (q : ByteArray × Bool) : valL (stab (A ++ C)) s q = valL A s q := by
  have e : atL s (stab (A ++ C)) = atL s A := uniq (srt_at (srt_stab _) s) (srt_at hA s) (fun z => by
    rw [at_stab]
    have : atL s (A ++ C) = atL s A ++ atL s C := List.filter_append ..
    rw [this, hC, List.append_nil])
  rw [← valL_at (stab (A ++ C)), e, valL_at]
theorem val_hi {A C : List MG} {s : ByteArray} (hC : Srt C) (hA : atL s A = []) (q : ByteArray × Bool) : valL (stab (A ++ C)) s q = valL C s q := by
  have e : atL s (stab (A ++ C)) = atL s C := uniq (srt_at (srt_stab _) s) (srt_at hC s) (fun z => by
    rw [at_stab]
    have : atL s (A ++ C) = atL s A ++ atL s C := List.filter_append ..
    rw [this, hA, List.nil_append])
  rw [← valL_at (stab (A ++ C)), e, valL_at]
theorem half_lo {x s : ByteArray} (hx : emp x = false) (h : lt s x = true) : (sb emptyS x && has emptyS x s) = true := by
  rw [sb_nil hx]
  unfold has
  rw [nlt_nil]
  unfold sb
  rw [h]; simp
theorem half_hi {x s : ByteArray} (hx : emp x = false) (h : lt s x = false) : (sb emptyS x && has emptyS x s) = false := by
  have e : sb s x = false := by unfold sb; rw [hx, h]; rfl
  unfold has
  rw [e]; simp
theorem halves_lo {ms : List MG} (hr : rightB ms = true) {x s : ByteArray} (hx : emp x = false) (h : lt s x = true) (q : ByteArray × Bool) :
    valL (forL emptyS x ms) s q = valL ms s q ∧ valL (stab (forL emptyS x ms ++ resL emptyS x ms)) s q = valL ms s q := by
  obtain ⟨h1, h2⟩ := parts_in hr (half_lo hx h) q
  exact ⟨h1, by rw [val_lo (srt_buf (forL_right hr emptyS x)) h2, h1]⟩
theorem halves_hi {ms : List MG} (hr : rightB ms = true) {x s : ByteArray} (hx : emp x = false) (h : lt s x = false) (q : ByteArray × Bool) :
    valL (resL emptyS x ms) s q = valL ms s q ∧ valL (stab (forL emptyS x ms ++ resL emptyS x ms)) s q = valL ms s q := by
  obtain ⟨h1, h2⟩ := parts_out hr (half_hi hx h) q
  exact ⟨h1, by rw [val_hi (srt_buf (resL_right hr emptyS x)) h2, h1]⟩
end Go.Proofs.YtilnpeekajnlhaaGreat
namespace Go.Proofs.YtilnpeekajnlhaaGreat
open Go.RowKit Go.Maps
theorem bel_dw {B : Nat} {a w : World} (h : Below B a w) : Below B a w.drew := ⟨h.os, h.tape, h.output, h.size, h.block⟩
end Go.Proofs.YtilnpeekajnlhaaGreat
