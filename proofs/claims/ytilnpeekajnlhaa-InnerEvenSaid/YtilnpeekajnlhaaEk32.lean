/- Texts of the proof, one behind the other. -/
import Derived.Test.YtilnpeekajnlhaaEk31
import Derived.Test.YtilnpeekajnlhaaEk16
import Derived.Test.YtilnpeekajnlhaaEk06
import Derived.Test.YtilnpeekajnlhaaEk26
import Derived.Test.YtilnpeekajnlhaaEk14
import Derived.Test.YtilnpeekajnlhaaEk15
import Derived.Test.YtilnpeekajnlhaaEk18
set_option linter.unusedVariables false
set_option linter.unusedSimpArgs false
namespace Go.Proofs.Ytilnpeekajnlhaa
open Go.RowKit Go.Maps
theorem four_new (w : World) (a b c d : Obj) : ((((w.alloc a).alloc b).alloc c).alloc d).heap[w.heap.size]? = some a ∧ ((((w.alloc a).alloc b).alloc c).alloc d).heap[w.heap.size + 1]? = some b ∧ ((((w.alloc a).alloc b).alloc c).alloc d).heap[w.heap.size + 1 + 1]? = some c ∧ ((((w.alloc a).alloc b).alloc c).alloc d).heap[w.heap.size + 1 + 1 + 1]? = some d :=
  ⟨keep_bel (alb _ d) (three_new w a b c).1, keep_bel (alb _ d) (three_new w a b c).2.1, keep_bel (alb _ d) (three_new w a b c).2.2, by have := heap_alloc_new (((w.alloc a).alloc b).alloc c) d; simpa using this⟩
set_option maxRecDepth 100000 in
set_option maxHeartbeats 8000000 in
theorem even_any (kd1 kd2 : Int) (P1 J1 M1 B1 P2 J2 M2 B2 : Option Addr) (n1 p1 k1 j1 l1 m1 b1 c1 n2 p2 k2 j2 l2 m2 b2 c2 : Nat) (pa pb : List ByteArray) (ia ib : List Int) (ma mb : List MG) (at_ : ByteArray) (w : World)
    (q1 : pa.length = n1) (q2 : ia.length = k1) (q3 : ma.length = l1) (q4 : pb.length = n2) (q5 : ib.length = k2) (q6 : mb.length = l2) (hb : n1 ≤ 100 ∧ n2 ≤ 100 ∧ k1 ≤ 100 ∧ k2 ≤ 100 ∧ l1 ≤ 100 ∧ l2 ≤ 100)
    (h1 : ES.Rd w P1 pa ∧ EI.Rd w J1 ia ∧ EG.Rd w M1 ma) (h2 : ES.Rd w P2 pb ∧ EI.Rd w J2 ib ∧ EG.Rd w M2 mb) (ho : OkA (ma ++ mb))
    (n k h p l r : Nat) (ps : List ByteArray) (ks : List Int) (ms : List MG) (hps : ps = pa ++ [at_] ++ pb) (hks : ks = ia ++ ib) (hms : ms = stab (ma ++ mb)) (hn : n1 + 1 + n2 = n) (hkk : k1 + k2 = k) (hn1 : n ≤ 100) (hk : k = n + 1) (hh : k / 2 = h) (hp1 : h = p + 1) (x : ByteArray) (hat : ps[p]? = some x) (hL : (forL emptyS x ms).length = l) (hR : (resL emptyS x ms).length = r) :
    Calls Try.prog 28 #[NV kd1 (.slice P1 n1 p1) (.slice J1 k1 j1) (.slice M1 l1 m1) (.slice B1 b1 c1), NV kd2 (.slice P2 n2 p2) (.slice J2 k2 j2) (.slice M2 l2 m2) (.slice B2 b2 c2), .string at_] w (HalvesP w 2 2 p h l (n - h) (k - h) r (ps.take p) (ks.take h) (forL emptyS x ms) (ps.drop h) (ks.drop h) (resL emptyS x ms) x) := by
  have AJ := Lib.hid (fun W (b : Below w.heap.size w W) => join_any kd1 kd2 P1 J1 M1 B1 P2 J2 M2 B2 n1 p1 k1 j1 l1 m1 b1 c1 n2 p2 k2 j2 l2 m2 b2 c2 pa pb ia ib ma mb at_ W q1 q2 q3 q4 q5 q6 hb ⟨h1.1.later b, h1.2.1.later b, h1.2.2.later b⟩ ⟨h2.1.later b, h2.2.1.later b, h2.2.2.later b⟩)
  rw [hn, hkk, ← hps, ← hks, ← hms] at AJ
  unfold AddP at AJ
  have hm : ms.length = l1 + l2 := by rw [hms, stab_len, List.length_append, q3, q6]
  have hpl : ps.length = n := by rw [hps, List.length_append, List.length_append, q1, q4]; exact hn
  have hkl : ks.length = k := by rw [hks, List.length_append, q2, q5]; exact hkk
  have ho2 : OkA ms := by rw [hms]; exact ok_stab ho
  have AH := Lib.hid (fun P pc J kc M mc B bc W (g1 : ES.Rd W P ps) (g2 : EI.Rd W J ks) (g3 : EG.Rd W M ms) => halves_two 2 P J M B n pc k kc (l1 + l2) mc bc ps ks ms W hpl g1 hkl g2 hm (by omega) g3 ho2 hn1 hk h p l r hh hp1 x hat hL hR)
  unfold HalvesP at AH
  have y1 := four_new w (NO kd1 (.slice P1 n1 p1) (.slice J1 k1 j1) (.slice M1 l1 m1) (.slice B1 b1 c1)) (NO kd2 (.slice P2 n2 p2) (.slice J2 k2 j2) (.slice M2 l2 m2) (.slice B2 b2 c2)) ZN ZN
  have H0 := Lib.hid (bel_alloc (bel_alloc (bel_alloc (alb w (NO kd1 (.slice P1 n1 p1) (.slice J1 k1 j1) (.slice M1 l1 m1) (.slice B1 b1 c1))) (NO kd2 (.slice P2 n2 p2) (.slice J2 k2 j2) (.slice M2 l2 m2) (.slice B2 b2 c2))) ZN) ZN)
  have SZ := Lib.hid (show w.heap.size + 4 ≤ ((((w.alloc (NO kd1 (.slice P1 n1 p1) (.slice J1 k1 j1) (.slice M1 l1 m1) (.slice B1 b1 c1))).alloc (NO kd2 (.slice P2 n2 p2) (.slice J2 k2 j2) (.slice M2 l2 m2) (.slice B2 b2 c2))).alloc ZN).alloc ZN).heap.size by simp)
  have Z := Lib.hid y1.1
  have Y := Lib.hid y1.2.1
  have X3 := Lib.hid y1.2.2.1
  have X4 := Lib.hid y1.2.2.2
  clear y1 q1 q2 q3 q4 q5 q6 hb h1 h2 ho hps hks hms hn hkk hn1 hk hh hp1 hat hL hR hm hpl hkl ho2
  obtain ⟨c0, c1', c2', c3, c4⟩ := cells5 Z.out
  obtain ⟨d0, d1, d2, d3, d4⟩ := cells5 Y.out
  go_enter Try.func28, Try.ntmps28
  go_wp2_with (first
    | (go_at_call 59; ((with_reducible refine (AJ.out _ H0.out).mono ?_); rintro e w2 ⟨P, pc, J, kc, M, mc, B, bc, rfl, r1, r2, r3, b⟩; have R1 := Lib.hid r1.rd; have R2 := Lib.hid r2.rd; have R3' := Lib.hid r3.1; replace H0 := Lib.hid (bel_trans H0.out b); replace SZ := Lib.hid (Nat.le_trans SZ.out b.size); replace X3 := Lib.hid (keep_bel b X3.out); replace X4 := Lib.hid (keep_bel b X4.out); clear b r1 r2 r3 c0 c1' c2' c3 c4 d0 d1 d2 d3 d4))
    | (go_at_call 31; ((with_reducible refine (AH.out P pc J kc M mc B bc _ R1.out R2.out R3'.out).mono ?_); rintro e w3 ⟨P4, p4, J4, j4, M4, m4, B4, b4, P5, p5, J5, j5, M5, m5, B5, b5, rfl, r4, r5, b⟩; have R4 := Lib.hid (r4.base SZ.out); have R5 := Lib.hid (r5.base SZ.out); replace H0 := Lib.hid (bel_trans H0.out b); replace X3 := Lib.hid (keep_bel b X3.out); replace X4 := Lib.hid (keep_bel b X4.out); clear b r4 r5; obtain ⟨z0, z1, z2, z3, z4⟩ := cells5 X3.out; obtain ⟨y0, y1, y2, y3, y4⟩ := cells5 X4.out; obtain ⟨f0, f1, f2, f3, f4⟩ := froz5 X3.out; obtain ⟨e0, e1, e2, e3, e4⟩ := froz5 X4.out))
    | fail)
  generalize hW5 : ((((w3.setCell ⟨w.heap.size + 1 + 1, 0, none⟩ _).setCell ⟨w.heap.size + 1 + 1, 1, none⟩ _).setCell ⟨w.heap.size + 1 + 1, 2, none⟩ _).setCell ⟨w.heap.size + 1 + 1, 3, none⟩ _).setCell ⟨w.heap.size + 1 + 1, 4, none⟩ _ = W5
  have HC5 := Lib.hid (show Chg (fun g => g = w.heap.size + 1 + 1) w3 W5 by rw [← hW5]; exact chg5 _ _ _ _ _ _ _)
  have X5 := Lib.hid (show W5.heap[w.heap.size + 1 + 1]? = some (NO 2 (.slice P4 p p4) (.slice J4 h j4) (.slice M4 l m4) (.slice B4 0 b4)) from (by rw [← hW5]; exact set5w X3.out _ _ _ _ _))
  have Y5 := Lib.hid (show W5.heap[w.heap.size + 1 + 1 + 1]? = some ZN from keep_chg HC5.out X4.out (fun e => by omega))
  clear hW5
  generalize hW6 : World.setCell _ _ _ = W6
  have HC6 := Lib.hid (show Chg (fun g => g = w.heap.size + 1 + 1 + 1) W5 W6 by rw [← hW6]; exact chg5 _ _ _ _ _ _ _)
  have X6 := Lib.hid (show W6.heap[w.heap.size + 1 + 1]? = some (NO 2 (.slice P4 p p4) (.slice J4 h j4) (.slice M4 l m4) (.slice B4 0 b4)) from keep_chg HC6.out X5.out (fun e => by omega))
  have Y6 := Lib.hid (show W6.heap[w.heap.size + 1 + 1 + 1]? = some (NO 2 (.slice P5 (n - h) p5) (.slice J5 (k - h) j5) (.slice M5 r m5) (.slice B5 0 b5)) from (by rw [← hW6]; exact set5w Y5.out _ _ _ _ _))
  clear hW6 z0 z1 z2 z3 z4 y0 y1 y2 y3 y4
  obtain ⟨z0, z1, z2, z3, z4⟩ := cells5 X6.out
  obtain ⟨y0, y1, y2, y3, y4⟩ := cells5 Y6.out
  refine bodyPost_ret (v := .tuple #[NV 2 (.slice P4 p p4) (.slice J4 h j4) (.slice M4 l m4) (.slice B4 0 b4), NV 2 (.slice P5 (n - h) p5) (.slice J5 (k - h) j5) (.slice M5 r m5) (.slice B5 0 b5), .string x]) (by simp [results, Try.results28, go_sem, z0, z1, z2, z3, z4, y0, y1, y2, y3, y4]) rfl ⟨P4, p4, J4, j4, M4, m4, B4, b4, P5, p5, J5, j5, M5, m5, B5, b5, rfl, ?_, ?_, ?_⟩
  · exact ((R4.out.chgB HC5.out (by omega)).chgB HC6.out (by omega)).base (by omega)
  · exact ((R5.out.chgB HC5.out (by omega)).chgB HC6.out (by omega)).base (by omega)
  · exact bel_chg (bel_chg H0.out HC5.out (by omega)) HC6.out (by omega)
end Go.Proofs.Ytilnpeekajnlhaa
namespace Go.Proofs.Ytilnpeekajnlhaa
open Go.RowKit Go.Maps
theorem bef_irr (a : ByteArray) : bef a a = false := by unfold bef; cases emp a <;> simp [lt_irr]
theorem clip_in {m : MG} (hm : rcX m = true) {a b : ByteArray} (h : (clipM m a b).2 = true) : lt (spF (clipM m a b).1) a = false ∧ bef b (spT (clipM m a b).1) = false ∧ sb a b = true := by
  obtain ⟨k1, k2, k3⟩ := kd_ok hm
  rcases k1 with k1 | ⟨k1, k4⟩
  · have eF : spF m = m.ky := k3
    have eT : spT m = m.ky ++ zS := by unfold spT; rw [k1]; rfl
    unfold clipM at h ⊢
    rw [k1] at h ⊢
    simp only [if_true] at h ⊢
    cases e : (sb a b && has a b m.ky)
    · rw [e] at h; cases h
    · rw [Bool.and_eq_true] at e
      have q := e.2
      unfold has at q
      rw [Bool.and_eq_true] at q
      simp only [if_true]
      rw [eF, eT]
      refine ⟨by simpa using q.1, ?_, e.1⟩
      unfold bef
      cases hb : emp b
      · have h1 : lt m.ky b = true := sb_yes q.2 hb
        have h2 : lt b (m.ky ++ zS) = false := by
          unfold lt at h1 ⊢
          rw [snoc_list]
          exact no_between _ _ h1
        have h3 : emp (m.ky ++ zS) = false := by
          unfold emp
          rw [snoc_list]
          simp
        rw [h2, h3]; rfl
      · rfl
  · have h4 : m.kd = 4 := by simpa using k4
    have e1 : spF m = m.ky := k3
    have e2 : spT m = m.to := by unfold spT; rw [h4]; rfl
    rw [e1, e2] at k2
    unfold clipM at h ⊢
    rw [k1, k4] at h ⊢
    simp only [if_true, Bool.false_eq_true, if_false] at h ⊢
    cases e : (meetF m.ky m.to a b).2.2
    · rw [e] at h; cases h
    · simp only [if_true]
      rw [(over_span h4 _ _).1, (over_span h4 _ _).2]
      have hs : sb a b = true := by
        unfold meetF at e
        split at e
        · rename_i k; exact k.2
        · cases e
      rw [meetF_E _ _ _ _ k2 hs] at e ⊢
      unfold meetE at e ⊢
      split at e
      · next k =>
        rw [if_pos k]
        refine ⟨?_, ?_, hs⟩
        · show lt (maxS m.ky a) a = false
          unfold maxS; split
          · exact lt_irr _
          · next q => simpa using q
        · show bef b (firstS m.to b) = false
          unfold firstS; split
          · exact bef_irr _
          · next q => simpa using q
      · cases e
theorem sb_nil {x : ByteArray} (h : emp x = false) : sb emptyS x = true := by
  unfold sb
  rw [h, Bool.false_or]
  unfold lt
  show Op.bytesLess emptyS.toList x.toList = true
  have : emptyS.toList = [] := by rw [toList_eq]
  rw [this, bl_nil_left]
  unfold emp at h
  rw [h]; rfl
theorem nlt_nil (k : ByteArray) : lt k emptyS = false := by
  unfold lt
  have : emptyS.toList = [] := by rw [toList_eq]
  rw [this]; exact bl_nil _
theorem rest_in {m : MG} (hm : rcX m = true) {x : ByteArray} (hx : emp x = false) {q : MG} (hq : q ∈ restM m emptyS x) : lt (spF q) x = false := by
  obtain ⟨k1, k2, k3⟩ := kd_ok hm
  have hsx := sb_nil hx
  unfold restM restQ at hq
  rcases k1 with k1 | ⟨k1, k4⟩
  · rw [if_pos k1] at hq
    split at hq
    · cases hq
    · rename_i k
      rw [List.mem_singleton.1 hq, k3]
      unfold clipM at k
      rw [if_pos k1] at k
      split at k
      · exact absurd rfl k
      · rename_i k5
        rw [hsx, Bool.true_and] at k5
        unfold has at k5
        rw [nlt_nil] at k5
        have k6 : sb m.ky x = false := by simpa using k5
        exact (sb_no k6).2
  · rw [if_neg (by rw [k1]; simp), if_pos k4] at hq
    have h4 : m.kd = 4 := by simpa using k4
    have e2 : spT m = m.to := by unfold spT; rw [h4]; rfl
    rw [k3, e2] at k2
    have hmx : maxS m.ky emptyS = m.ky := by unfold maxS; rw [nlt_nil]; rfl
    have hE := meetF_E m.ky m.to emptyS x k2 hsx
    have hcl : clipM m emptyS x = (if (meetF m.ky m.to emptyS x).2.2 = true then (overM m (meetF m.ky m.to emptyS x).1 (meetF m.ky m.to emptyS x).2.1, true) else (zM, false)) := by
      unfold clipM
      rw [if_neg (by rw [k1]; simp), if_pos k4]
    rw [hcl, hE] at hq
    unfold meetE at hq
    rw [hmx] at hq
    by_cases hk : sb m.ky (firstS m.to x) = true
    · rw [if_pos hk] at hq
      simp only [if_true] at hq
      rcases List.mem_append.1 hq with hq | hq
      · split at hq
        · rename_i kl
          change lt m.ky m.ky = true at kl
          rw [lt_irr] at kl; cases kl
        · cases hq
      · split at hq
        · rename_i kl
          change bef (firstS m.to x) m.to = true at kl
          rw [List.mem_singleton.1 hq]
          show lt (spF (overM m (firstS m.to x) m.to)) x = false
          rw [(over_span h4 _ _).1]
          unfold firstS at kl ⊢
          split
          · exact lt_irr _
          · rename_i k9
            rw [if_neg k9, bef_irr] at kl; cases kl
        · cases hq
    · rw [if_neg hk] at hq
      simp only [Bool.false_eq_true, if_false] at hq
      rw [List.mem_singleton.1 hq, k3]
      rw [sb_first, k2, Bool.true_and] at hk
      exact (sb_no (by simpa using hk)).2
theorem forL_mem {xs : List MG} {a b : ByteArray} {q : MG} (h : q ∈ forL a b xs) : ∃ m ∈ xs, (clipM m a b).2 = true ∧ q = (clipM m a b).1 := by
  obtain ⟨m, hm, hq⟩ := List.mem_flatMap.1 h
  split at hq
  · exact ⟨m, hm, by assumption, List.mem_singleton.1 hq⟩
  · cases hq
/-- What a range has lies in it. -/
theorem forL_wi {xs : List MG} (hr : ∀ x ∈ xs, rcX x = true) (a b : ByteArray) : (forL a b xs).all (wiR a b) = true := by
  rw [List.all_eq_true]
  intro q hq
  obtain ⟨m, hm, hc, rfl⟩ := forL_mem hq
  have h1 := clip_in (hr m hm) hc
  have h2 := (clip_sub (hr m hm) hc).rc
  unfold wiR
  rw [(kd_ok h2).2.1, h1.2.2, h1.1, h1.2.1]; rfl
/-- What lies below a text, of what lies in a range. -/
theorem forL_wi2 {xs : List MG} (hr : ∀ x ∈ xs, rcX x = true) {f t x : ByteArray} (hw : xs.all (wiR f t) = true) (hs : sb f x = true) : (forL emptyS x xs).all (wiR f x) = true := by
  rw [List.all_eq_true] at hw ⊢
  intro q hq
  obtain ⟨m, hm, hc, rfl⟩ := forL_mem hq
  have h1 := clip_in (hr m hm) hc
  have h2 := clip_sub (hr m hm) hc
  have h3 := hw m hm
  unfold wiR at h3 ⊢
  simp only [Bool.and_eq_true, Bool.not_eq_true'] at h3 ⊢
  exact ⟨(kd_ok h2.rc).2.1, hs, nlt_tr h3.2.2.1 h2.lo, h1.2.1⟩
theorem resL_wi2 {xs : List MG} (hr : ∀ x ∈ xs, rcX x = true) {f t x : ByteArray} (hw : xs.all (wiR f t) = true) (hx : emp x = false) (hs : sb x t = true) : (resL emptyS x xs).all (wiR x t) = true := by
  rw [List.all_eq_true] at hw ⊢
  intro q hq
  obtain ⟨m, hm, hq⟩ := List.mem_flatMap.1 hq
  have h1 := rest_in (hr m hm) hx hq
  have h2 := (rest_sub (hr m hm) emptyS x).1 q hq
  have h3 := hw m hm
  unfold wiR at h3 ⊢
  simp only [Bool.and_eq_true, Bool.not_eq_true'] at h3 ⊢
  exact ⟨(kd_ok h2.rc).2.1, hs, h1, bef_tr h3.2.2.2 h2.hi⟩
theorem ins_perm (m : MG) (xs : List MG) : (insM m xs).Perm (m :: xs) := by
  unfold insM
  have h : (xs.take (insK m xs xs.length) ++ [m] ++ xs.drop (insK m xs xs.length)).Perm (m :: (xs.take (insK m xs xs.length) ++ xs.drop (insK m xs xs.length))) := by
    rw [List.append_assoc]
    exact List.perm_middle
  rw [List.take_append_drop] at h
  exact h
theorem acc_perm (ys : List MG) : ∀ acc : List MG, (accM acc ys).Perm (acc ++ ys) := by
  induction ys with
  | nil => intro acc; show acc.Perm (acc ++ []); rw [List.append_nil]
  | cons y ys ih =>
    intro acc
    show (accM (insM y acc) ys).Perm _
    refine (ih _).trans ?_
    refine ((ins_perm y acc).append_right ys).trans ?_
    show (y :: (acc ++ ys)).Perm (acc ++ y :: ys)
    exact List.perm_middle.symm
theorem stab_perm (L : List MG) : (stab L).Perm L := by
  have h := acc_perm L []
  rw [List.nil_append] at h
  exact h
def relS (x y : MG) : Prop := relM x y ∨ relM y x
/-- What is below a text and what is not, in order together, is a buffer. -/
theorem stab_right {L1 L2 : List MG} {f a t : ByteArray} (h1 : rightB L1 = true) (h2 : rightB L2 = true) (w1 : L1.all (wiR f a) = true) (w2 : L2.all (wiR a t) = true) (ha : emp a = false) : rightB (stab (L1 ++ L2)) = true := by
  obtain ⟨r1, p1⟩ := (right_iff L1).1 h1
  obtain ⟨r2, p2⟩ := (right_iff L2).1 h2
  have hrc : ∀ x ∈ L1 ++ L2, rcX x = true := by
    intro x hx
    rcases List.mem_append.1 hx with hx | hx
    · exact r1 x hx
    · exact r2 x hx
  have hS : (L1 ++ L2).Pairwise relS := by
    rw [List.pairwise_append]
    refine ⟨p1.imp (fun h => .inl h), p2.imp (fun h => .inl h), fun x hx y hy => ?_⟩
    have g1 := List.all_eq_true.1 w1 x hx
    have g2 := List.all_eq_true.1 w2 y hy
    unfold wiR at g1 g2
    simp only [Bool.and_eq_true, Bool.not_eq_true'] at g1 g2
    rcases Int.lt_trichotomy x.sq y.sq with h | h | h
    · exact .inl (.inl h)
    · refine .inl (.inr ⟨h, ?_⟩)
      obtain ⟨k1, k2⟩ := bef_no g1.2.2.2 ha
      unfold sb
      rw [k1, Bool.false_or]
      cases q : lt (spF y) (spT x)
      · rfl
      · have := lt_of_lt_nlt q k2
        rw [g2.2.2.1] at this; cases this
    · exact .inr (.inl h)
  have hP := (stab_perm (L1 ++ L2))
  have hS2 : (stab (L1 ++ L2)).Pairwise relS := (hP.pairwise_iff (fun {x y} h => Or.symm h)).2 hS
  have hT := srt_stab (L1 ++ L2)
  rw [right_iff]
  refine ⟨fun x hx => hrc x (stab_mem hx), ?_⟩
  unfold Srt at hT
  refine (hS2.and hT).imp_of_mem (fun {p x} hp hx h => ?_)
  rcases h.1 with k | k
  · exact k
  · exfalso
    have g := h.2
    unfold aheadM at g
    rcases k with k | ⟨k, ks⟩
    · simp [k] at g
    · have hx' := hrc x (stab_mem hx)
      have hp' := hrc p (stab_mem hp)
      obtain ⟨-, s1, s2⟩ := kd_ok hx'
      obtain ⟨-, s3, s4⟩ := kd_ok hp'
      have ⟨n1, n2⟩ := sb_no ks
      have n3 := sb_yes s1 n1
      have n4 : lt (spF x) (spF p) = true := lt_of_lt_nlt n3 n2
      rw [s2, s4] at n4
      rw [k, n4] at g
      simp at g
end Go.Proofs.Ytilnpeekajnlhaa
namespace Go.Proofs.Ytilnpeekajnlhaa
open Go.RowKit Go.Maps
theorem inK_iff (p : List ByteArray) (f t : ByteArray) : ∀ k, Pv.inK p f t k = true ↔ ∀ j, j < k → lt f (Pv.at_ p j) = true ∧ sb (Pv.at_ p j) t = true
  | 0 => by simp [Pv.inK]
  | k + 1 => by
    show (Pv.inK p f t k && (lt f (Pv.at_ p k) && sb (Pv.at_ p k) t)) = true ↔ _
    rw [Bool.and_eq_true, Bool.and_eq_true, inK_iff p f t k]
    constructor
    · rintro ⟨h1, h2⟩ j hj
      by_cases e : j = k
      · subst e; exact h2
      · exact h1 j (by omega)
    · intro h
      exact ⟨fun j hj => h j (by omega), h k (by omega)⟩
theorem riseK_of {p : List ByteArray} (h : ∀ i j, i < j → j < p.length → lt (Pv.at_ p i) (Pv.at_ p j) = true) : ∀ k, k ≤ p.length → Pv.riseK p k = true
  | 0, _ => rfl
  | k + 1, hk => by
    show (Pv.riseK p k && (decide (k = 0) || lt (Pv.at_ p (k - 1)) (Pv.at_ p k))) = true
    rw [riseK_of h k (by omega), Bool.true_and]
    by_cases e : k = 0
    · simp [e]
    · rw [h (k - 1) k (by omega) (by omega)]; simp
theorem pv_iff (p : List ByteArray) (f t : ByteArray) : Pv.rightB p f t = true ↔ sb f t = true ∧ (∀ j, j < p.length → lt f (Pv.at_ p j) = true ∧ sb (Pv.at_ p j) t = true) ∧ (∀ i j, i < j → j < p.length → lt (Pv.at_ p i) (Pv.at_ p j) = true) := by
  unfold Pv.rightB
  rw [Bool.and_eq_true, Bool.and_eq_true, inK_iff]
  constructor
  · rintro ⟨h1, h2, h3⟩
    exact ⟨h2, h1, fun i j a b => Pv.rise_all h3 i j a b⟩
  · rintro ⟨h1, h2, h3⟩
    exact ⟨h2, h1, riseK_of h3 _ (Nat.le_refl _)⟩
theorem at_take {p : List ByteArray} {q j : Nat} (h : j < q) : Pv.at_ (p.take q) j = Pv.at_ p j := by
  unfold Pv.at_
  rw [List.getD_eq_getElem?_getD, List.getD_eq_getElem?_getD, List.getElem?_take, if_pos h]
theorem at_drop (p : List ByteArray) (q j : Nat) : Pv.at_ (p.drop q) j = Pv.at_ p (q + j) := by
  unfold Pv.at_
  rw [List.getD_eq_getElem?_getD, List.getD_eq_getElem?_getD, List.getElem?_drop]
theorem at_get {p : List ByteArray} {j : Nat} {x : ByteArray} (h : p[j]? = some x) : Pv.at_ p j = x := by
  unfold Pv.at_
  rw [List.getD_eq_getElem?_getD, h]; rfl
/-- What is known of a pivot. -/
theorem pv_at {p : List ByteArray} {f t x : ByteArray} {j : Nat} (h : Pv.rightB p f t = true) (hx : p[j]? = some x) : sb f t = true ∧ lt f x = true ∧ sb x t = true ∧ emp x = false := by
  obtain ⟨h1, h2, h3⟩ := (pv_iff p f t).1 h
  have hj := (List.getElem?_eq_some_iff.1 hx).1
  have q := h2 j hj
  rw [at_get hx] at q
  exact ⟨h1, q.1, q.2, Pv.emp_no q.1⟩
theorem pv_take {p : List ByteArray} {f t x : ByteArray} {q : Nat} (h : Pv.rightB p f t = true) (hx : p[q]? = some x) : Pv.rightB (p.take q) f x = true := by
  obtain ⟨h1, h2, h3⟩ := (pv_iff p f t).1 h
  obtain ⟨g1, g2, g3, g4⟩ := pv_at h hx
  have hj := (List.getElem?_eq_some_iff.1 hx).1
  rw [pv_iff]
  refine ⟨?_, fun j hj2 => ?_, fun i j hij hj2 => ?_⟩
  · unfold sb; rw [g2]; simp
  · rw [List.length_take] at hj2
    rw [at_take (by omega)]
    refine ⟨(h2 j (by omega)).1, ?_⟩
    have := h3 j q (by omega) hj
    rw [at_get hx] at this
    unfold sb; rw [this]; simp
  · rw [List.length_take] at hj2
    rw [at_take (by omega), at_take (by omega)]
    exact h3 i j hij (by omega)
theorem pv_drop {p : List ByteArray} {f t x : ByteArray} {q : Nat} (h : Pv.rightB p f t = true) (hx : p[q]? = some x) : Pv.rightB (p.drop (q + 1)) x t = true := by
  obtain ⟨h1, h2, h3⟩ := (pv_iff p f t).1 h
  obtain ⟨g1, g2, g3, g4⟩ := pv_at h hx
  rw [pv_iff]
  refine ⟨g3, fun j hj2 => ?_, fun i j hij hj2 => ?_⟩
  · rw [List.length_drop] at hj2
    rw [at_drop]
    have := h3 q (q + 1 + j) (by omega) (by omega)
    rw [at_get hx] at this
    exact ⟨this, (h2 _ (by omega)).2⟩
  · rw [List.length_drop] at hj2
    rw [at_drop, at_drop]
    exact h3 _ _ (by omega) (by omega)
theorem kidsK_iff (l : List Int) : ∀ j, j ≤ l.length → (kidsK l j = true ↔ (∀ x ∈ l.take j, 1 ≤ x ∧ x ≤ 4096) ∧ (l.take j).Nodup)
  | 0, _ => by simp [kidsK]
  | j + 1, hj => by
    obtain ⟨x, hx⟩ : ∃ x, l[j]? = some x := ⟨_, List.getElem?_eq_getElem (by omega)⟩
    rw [kids_at hx, Bool.and_eq_true, kidsK_iff l j (by omega), List.take_add_one, hx]
    unfold kidB
    simp only [Bool.and_eq_true, decide_eq_true_eq, Option.toList_some, List.mem_append, List.mem_singleton, Bool.not_eq_true', List.nodup_append]
    constructor
    · rintro ⟨⟨h1, h2⟩, h3, h4, h5⟩
      refine ⟨?_, h2, by simp, ?_⟩
      · rintro y (hy | rfl)
        · exact h1 y hy
        · exact ⟨h3, h4⟩
      · intro a ha b hb e
        subst e
        subst hb
        rw [List.contains_eq_mem] at h5
        simp at h5
        exact h5 ha
    · rintro ⟨h1, h2, -, h3⟩
      refine ⟨⟨fun y hy => h1 y (.inl hy), h2⟩, (h1 x (.inr rfl)).1, (h1 x (.inr rfl)).2, ?_⟩
      rw [List.contains_eq_mem]
      simp
      intro hm
      exact h3 x hm x rfl rfl
theorem kids_iff (l : List Int) : kidsB l = true ↔ (∀ x ∈ l, 1 ≤ x ∧ x ≤ 4096) ∧ l.Nodup := by
  unfold kidsB
  rw [kidsK_iff l l.length (Nat.le_refl _), List.take_length]
theorem kids_take {l : List Int} (h : kidsB l = true) (q : Nat) : kidsB (l.take q) = true := by
  rw [kids_iff] at h ⊢
  exact ⟨fun x hx => h.1 x (List.mem_of_mem_take hx), h.2.sublist (List.take_sublist _ _)⟩
theorem kids_drop {l : List Int} (h : kidsB l = true) (q : Nat) : kidsB (l.drop q) = true := by
  rw [kids_iff] at h ⊢
  exact ⟨fun x hx => h.1 x (List.mem_of_mem_drop hx), h.2.sublist (List.drop_sublist _ _)⟩
/-- The first half of a right node is right for what lies below the pivot. -/
theorem rn_low {kd : Int} {n k b q l : Nat} {ps : List ByteArray} {ks : List Int} {ms : List MG} {f t x : ByteArray} (h : RN kd n k b ps ks ms f t) (hl : ps.length = n) (hx : ps[q]? = some x) : RN 2 q (q + 1) 0 (ps.take q) (ks.take (q + 1)) (forL emptyS x ms) f x := by
  have hr := ((right_iff ms).1 h.hms).1
  have g := pv_at h.hps hx
  have hsx : sb f x = true := by unfold sb; rw [g.2.1]; simp
  exact ⟨rfl, rfl, rfl, pv_take h.hps hx, kids_take h.hks _, forL_right h.hms _ _, forL_wi2 hr h.hwi hsx⟩
theorem rn_high {kd : Int} {n k b q l : Nat} {ps : List ByteArray} {ks : List Int} {ms : List MG} {f t x : ByteArray} (h : RN kd n k b ps ks ms f t) (hl : ps.length = n) (hx : ps[q]? = some x) : RN 2 (n - (q + 1)) (k - (q + 1)) 0 (ps.drop (q + 1)) (ks.drop (q + 1)) (resL emptyS x ms) x t := by
  have hr := ((right_iff ms).1 h.hms).1
  have g := pv_at h.hps hx
  have hj := (List.getElem?_eq_some_iff.1 hx).1
  have hk := h.hk
  exact ⟨rfl, rfl, by omega, pv_drop h.hps hx, kids_drop h.hks _, resL_right h.hms _ _, resL_wi2 hr h.hwi g.2.2.2 g.2.2.1⟩
/-- The parts that the law makes of a node. -/
theorem rn_part1 {kd : Int} {n k b q l : Nat} {ps : List ByteArray} {ks : List Int} {ms : List MG} {f t x : ByteArray} (h : RN kd n k b ps ks ms f t) (hl : ps.length = n) (hx : ps[q]? = some x) : RN 2 q (q + 1) 0 (ps.take q) (ks.take (q + 1)) (forL f x ms) f x := by
  have hr := ((right_iff ms).1 h.hms).1
  exact ⟨rfl, rfl, rfl, pv_take h.hps hx, kids_take h.hks _, forL_right h.hms _ _, forL_wi hr _ _⟩
theorem rn_part2 {kd : Int} {n k b q l : Nat} {ps : List ByteArray} {ks : List Int} {ms : List MG} {f t x : ByteArray} (h : RN kd n k b ps ks ms f t) (hl : ps.length = n) (hx : ps[q]? = some x) : RN 2 (n - (q + 1)) (k - (q + 1)) 0 (ps.drop (q + 1)) (ks.drop (q + 1)) (forL x t ms) x t := by
  have hr := ((right_iff ms).1 h.hms).1
  have hj := (List.getElem?_eq_some_iff.1 hx).1
  have hk := h.hk
  exact ⟨rfl, rfl, by omega, pv_drop h.hps hx, kids_drop h.hks _, forL_right h.hms _ _, forL_wi hr _ _⟩
/-- Joined they are a right node. -/
theorem rn_join {kd : Int} {n k b q l : Nat} {ps : List ByteArray} {ks : List Int} {ms : List MG} {f t x : ByteArray} (h : RN kd n k b ps ks ms f t) (hl : ps.length = n) (hx : ps[q]? = some x) : RN 2 n k 0 ps ks (stab (forL f x ms ++ forL x t ms)) f t := by
  have hr := ((right_iff ms).1 h.hms).1
  have g := pv_at h.hps hx
  have h1 := forL_wi hr f x
  have h2 := forL_wi hr x t
  refine ⟨rfl, rfl, h.hk, h.hps, h.hks, stab_right (forL_right h.hms f x) (forL_right h.hms x t) h1 h2 g.2.2.2, ?_⟩
  rw [List.all_eq_true]
  intro y hy
  have e : ∀ m : MG, m ∈ ms → ∀ a c, (clipM m a c).2 = true → wiR f t (clipM m a c).1 = true := fun m hm a c hc => wi_sub (clip_sub (hr m hm) hc) (List.all_eq_true.1 h.hwi m hm)
  rcases List.mem_append.1 (stab_mem hy) with hy | hy
  · obtain ⟨m, hm, hc, rfl⟩ := forL_mem hy
    exact e m hm _ _ hc
  · obtain ⟨m, hm, hc, rfl⟩ := forL_mem hy
    exact e m hm _ _ hc
/-- One pivot: what is for the first kid, and for the second one. -/
theorem one_pivot {f t x : ByteArray} (h1 : sb f t = true) (h2 : lt f x = true) (h3 : sb x t = true) (ms : List MG) : kidL [x] f t 0 ms = forL f x ms ∧ kidL [x] f t 1 ms = forL x t ms := by
  have hr : Pv.rightB [x] f t = true := by
    rw [pv_iff]
    refine ⟨h1, fun j hj => ?_, fun i j hij hj => ?_⟩
    · have : j = 0 := by simpa using hj
      subst this; exact ⟨h2, h3⟩
    · simp at hj; omega
  have s0 : Pv.spanB [x] f t 0 = true := by unfold Pv.spanB; rw [hr]; simp
  have s1 : Pv.spanB [x] f t 1 = true := by unfold Pv.spanB; rw [hr]; simp
  refine ⟨?_, ?_⟩
  · unfold kidL Pv.spanF; rw [if_pos s0, if_pos s0]; rfl
  · unfold kidL Pv.spanF; rw [if_pos s1, if_pos s1]; rfl
end Go.Proofs.Ytilnpeekajnlhaa
namespace Go.Proofs.Ytilnpeekajnlhaa.Pv
open Go.RowKit

set_option maxHeartbeats 1000000 in
theorem sameS_eq (A B : Option Addr) (p : List ByteArray) (n c c' : Nat) (w : World) (hl : p.length = n) (hn : n ≤ 100000) (hA : RdS w A p) (hB : RdS w B p) :
    Calls Try.prog 41 #[.slice A n c, .slice B n c'] w fun e w' => e = .returned (.bool true) ∧ Below w.heap.size w w' := by
  have HA := Lib.hid hA
  have HB := Lib.hid hB
  have HL := Lib.hid hl
  clear hA hB hl
  go_enter Try.func41, Try.ntmps41
  go_wp2
  go_loopw [5] (fun iv wr => ∃ k d : Nat, k ≤ n ∧ iv = .int .i64 k ∧ wr = w.drewN d) (fun i _ => n - (intOf i).toNat)
  case atStart => exact ⟨0, 0, by omega, rfl, rfl⟩
  case round =>
    obtain ⟨k, d, hk, rfl, hwr⟩ := hrel
    have HW := Lib.hid hwr
    clear hwr
    by_cases h8 : k < n
    · have i1 : (k : Int) < (n : Int) := by omega
      have i0 : (0 : Int) ≤ (k : Int) := by omega
      obtain ⟨b, off, rfl, hlt, f0⟩ := rds_get HA.out (k := k) (by have := HL.out; omega)
      obtain ⟨b2, off2, rfl, hlt2, f2⟩ := rds_get HB.out (k := k) (by have := HL.out; omega)
      have g0 : wr.cell? ⟨b, off + k, none⟩ = some (.string (at_ p k)) := by rw [HW.out]; exact f0
      have g2 : wr.cell? ⟨b2, off2 + k, none⟩ = some (.string (at_ p k)) := by rw [HW.out]; exact f2
      generalize at_ p k = x at g0 g2
      clear f0 f2
      go_wp2_with fail
      go_quiet (fail)
      go_wp2
      exact ⟨⟨k + 1, d + nq, by omega, by simp, by rw [HW.out, World.drewN_drewN]⟩, by simp [intOf]; omega⟩
    · have i1 : ¬ (k : Int) < (n : Int) := by omega
      go_wp2
      go_ret
      exact ⟨rfl, by rw [HW.out]; exact bel_drewN (Below.refl _ _) d⟩

end Go.Proofs.Ytilnpeekajnlhaa.Pv
namespace Go.Proofs.Ytilnpeekajnlhaa
open Go.RowKit Go.Maps
set_option maxRecDepth 100000 in
set_option maxHeartbeats 4000000 in
theorem same14 (kd : Int) (Pa Ja Ma Ba Pb Jb Mb Bb : Option Addr) (n k m pa ja ma ba pb jb mb bb : Nat) (ps : List ByteArray) (ks : List Int) (ms : List MG) (w : World) (hl : ps.length = n) (hn : n ≤ 1000) (hkl : ks.length = k) (hk1 : k ≤ 1000) (hm : ms.length = m) (hm1 : m ≤ 1000)
    (hP : ES.Rd w Pa ps) (hP2 : ES.Rd w Pb ps) (hJ : EI.Rd w Ja ks) (hJ2 : EI.Rd w Jb ks) (hM : EG.Rd w Ma ms) (hM2 : EG.Rd w Mb ms) :
    Calls Try.prog 13 #[NV kd (.slice Pa n pa) (.slice Ja k ja) (.slice Ma m ma) (.slice Ba 0 ba), NV kd (.slice Pb n pb) (.slice Jb k jb) (.slice Mb m mb) (.slice Bb 0 bb)] w fun e w' => e = .returned (.bool true) ∧ Below w.heap.size w w' := by
  have A1 := Lib.hid (fun W (h : Below w.heap.size w W) => Pv.sameS_eq Pa Pb ps n pa pb W hl (by omega) (es_rd.1 (hP.later h)) (es_rd.1 (hP2.later h)))
  have A2 := Lib.hid (fun W (h : Below w.heap.size w W) => same_any Ma Mb m ma mb ms W hm hm1 (hM.later h) (hM2.later h))
  have JJ := Lib.hid (fun W (h : Below w.heap.size w W) => hJ.later h)
  have J2 := Lib.hid (fun W (h : Below w.heap.size w W) => hJ2.later h)
  have HKL := Lib.hid hkl
  clear hl hkl hm hP hP2 hJ hJ2 hM hM2
  have y1 := two_new w (NO kd (.slice Pa n pa) (.slice Ja k ja) (.slice Ma m ma) (.slice Ba 0 ba)) (NO kd (.slice Pb n pb) (.slice Jb k jb) (.slice Mb m mb) (.slice Bb 0 bb))
  have H0 := Lib.hid (bel_alloc (alb w (NO kd (.slice Pa n pa) (.slice Ja k ja) (.slice Ma m ma) (.slice Ba 0 ba))) (NO kd (.slice Pb n pb) (.slice Jb k jb) (.slice Mb m mb) (.slice Bb 0 bb)))
  have Z := Lib.hid y1.1
  have Y := Lib.hid y1.2
  clear y1
  obtain ⟨c0, c1, c2, c3, c4⟩ := cells5 Z.out
  obtain ⟨d0, d1, d2, d3, d4⟩ := cells5 Y.out
  have hk0 : (0 : Int) ≤ (k : Int) := by omega
  have hk9 : (k : Int) ≤ 1000 := by omega
  go_enter Try.func13, Try.ntmps13
  go_wp2
  go_loopw [5] (fun iv wr => ∃ i : Nat, i ≤ k ∧ iv = .int .i64 i ∧ wr.heap[w.heap.size]? = some (NO kd (.slice Pa n pa) (.slice Ja k ja) (.slice Ma m ma) (.slice Ba 0 ba)) ∧ wr.heap[w.heap.size + 1]? = some (NO kd (.slice Pb n pb) (.slice Jb k jb) (.slice Mb m mb) (.slice Bb 0 bb)) ∧ Below w.heap.size w wr) (fun i _ => k - (intOf i).toNat)
  case atStart => exact ⟨0, Nat.zero_le _, rfl, Z.out, Y.out, H0.out⟩
  case round =>
    obtain ⟨i, hi, rfl, hz, hy, hb⟩ := hrel
    clear c0 c1 c2 c3 c4 d0 d1 d2 d3 d4
    replace Z := Lib.hid hz
    replace Y := Lib.hid hy
    replace H0 := Lib.hid hb
    clear hz hy hb
    obtain ⟨c0, c1, c2, c3, c4⟩ := cells5 Z.out
    obtain ⟨d0, d1, d2, d3, d4⟩ := cells5 Y.out
    have hi0 : (0 : Int) ≤ (i : Int) := by omega
    have hi9 : (i : Int) ≤ 1000 := by omega
    by_cases hik : i < k
    · have hlt : (i : Int) < (k : Int) := by omega
      obtain ⟨x, hx⟩ : ∃ x, ks[i]? = some x := ⟨_, List.getElem?_eq_getElem (by rw [HKL.out]; exact hik)⟩
      obtain ⟨b0, off, rfl, _, k0⟩ := ei_at (JJ.out _ H0.out) hx
      obtain ⟨b1, off1, rfl, _, k1⟩ := ei_at (J2.out _ H0.out) hx
      clear hx
      go_wp2_with fail
      go_quiet (fail)
      go_wp2
      exact ⟨⟨i + 1, by omega, by simp, Z.out, Y.out, bel_drewN H0.out _⟩, by simp [intOf]; omega⟩
    · have hlt : ¬ (i : Int) < (k : Int) := by omega
      go_wp2
      go_loopw [6] (fun iv wr => iv = .int .i64 0 ∧ wr.heap[w.heap.size]? = some (NO kd (.slice Pa n pa) (.slice Ja k ja) (.slice Ma m ma) (.slice Ba 0 ba)) ∧ wr.heap[w.heap.size + 1]? = some (NO kd (.slice Pb n pb) (.slice Jb k jb) (.slice Mb m mb) (.slice Bb 0 bb)) ∧ Below w.heap.size w wr) (fun _ _ => 0)
      case atStart => exact ⟨rfl, Z.out, Y.out, H0.out⟩
      case round =>
        obtain ⟨rfl, hz, hy, hb⟩ := hrel
        clear c0 c1 c2 c3 c4 d0 d1 d2 d3 d4
        replace Z := Lib.hid hz
        replace Y := Lib.hid hy
        replace H0 := Lib.hid hb
        clear hz hy hb
        obtain ⟨c0, c1, c2, c3, c4⟩ := cells5 Z.out
        obtain ⟨d0, d1, d2, d3, d4⟩ := cells5 Y.out
        go_wp2_with (first
          | (go_at_call 41; ((with_reducible refine (A1.out _ H0.out).mono ?_); rintro e w1 ⟨rfl, b⟩; replace H0 := Lib.hid (bel_trans H0.out b); replace Z := Lib.hid (keep_bel b Z.out); replace Y := Lib.hid (keep_bel b Y.out); clear b c0 c1 c2 c3 c4 d0 d1 d2 d3 d4; obtain ⟨c0, c1, c2, c3, c4⟩ := cells5 Z.out; obtain ⟨d0, d1, d2, d3, d4⟩ := cells5 Y.out))
          | (go_at_call 11; ((with_reducible refine (A2.out _ H0.out).mono ?_); rintro e w1 ⟨rfl, b⟩; replace H0 := Lib.hid (bel_trans H0.out b); replace Z := Lib.hid (keep_bel b Z.out); replace Y := Lib.hid (keep_bel b Y.out); clear b c0 c1 c2 c3 c4 d0 d1 d2 d3 d4; obtain ⟨c0, c1, c2, c3, c4⟩ := cells5 Z.out; obtain ⟨d0, d1, d2, d3, d4⟩ := cells5 Y.out))
          | fail)
        go_ret
        exact ⟨rfl, H0.out⟩
end Go.Proofs.Ytilnpeekajnlhaa
namespace Go.Proofs.Ytilnpeekajnlhaa
open Go.RowKit Go.Maps
/-- The greatest weight so far, and where. -/
def hotK (ws : List Int) : Nat → Int × Int
  | 0 => (0, 0)
  | j + 1 => match ws[j]? with
    | some x => if x > (hotK ws j).2 then ((j : Int), x) else hotK ws j
    | none => hotK ws j
set_option maxRecDepth 100000 in
set_option maxHeartbeats 8000000 in
theorem hot_any (kd : Int) (P J M B : Option Addr) (n pc k kc m mc b bc : Nat) (ps : List ByteArray) (ms : List MG) (f t : ByteArray) (w : World) (hl : ps.length = n) (hn : n ≤ 100) (hP : Pv.RdS w P ps) (hm : ms.length = m) (hm0 : m ≠ 0) (hm1 : m ≤ 1000) (hM : EG.Rd w M ms) (ho : OkA ms) (hok : ∀ x ∈ Pv.upto ps f t (Pv.many ps f t), OkA (forL x.2.1 x.2.2 ms)) :
    Calls Try.prog 35 #[NV kd (.slice P n pc) (.slice J k kc) (.slice M m mc) (.slice B b bc), .agg #[.string f, .string t]] w fun e w' => e = .returned (.tuple #[.int .i64 (hotK (wgts ps f t ms) (wgts ps f t ms).length).1, .int .i64 (hotK (wgts ps f t ms) (wgts ps f t ms).length).2]) ∧ Below w.heap.size w w' := by
  have WA := Lib.hid (fun W (h : Below w.heap.size w W) => weights_any kd P J M B n pc k kc m mc b bc ps ms f t W hl hn (Rd.later hP h) hm hm1 (hM.later h) ho hok)
  have HLW : Hid ((wgts ps f t ms).length ≤ 1000) := Lib.hid (by unfold wgts; rw [List.length_map, Pv.upto_length]; have := Pv.many_le ps f t; omega)
  obtain ⟨ws, hws⟩ : ∃ ws, ws = wgts ps f t ms := ⟨_, rfl⟩
  rw [← hws] at WA HLW ⊢
  obtain ⟨L, hL⟩ : ∃ L, L = ws.length := ⟨_, rfl⟩
  rw [← hL] at WA HLW ⊢
  have HL := Lib.hid hL.symm
  have hL9 : (L : Int) ≤ 1000 := by have := HLW.out; omega
  have hL0 : (0 : Int) ≤ (L : Int) := by omega
  have h0 : ((m : Int) == 0) = false := by rw [beq_eq_false_iff_ne]; omega
  have h00 : ¬ (m : Int) = 0 := by omega
  clear hws hL hl hP hm hM ho hok
  have y1 := two_new w (NO kd (.slice P n pc) (.slice J k kc) (.slice M m mc) (.slice B b bc)) (rgc f t)
  have H0 := Lib.hid (bel_alloc (alb w (NO kd (.slice P n pc) (.slice J k kc) (.slice M m mc) (.slice B b bc))) (rgc f t))
  have Z := Lib.hid y1.1
  have Y := Lib.hid y1.2
  clear y1
  obtain ⟨c0, c1, c2, c3, c4⟩ := cells5 Z.out
  obtain ⟨d0, d1, -, -⟩ := has_two Y.out
  go_enter Try.func35, Try.ntmps35
  go_wp2_with (first
    | (go_at_call 70; ((with_reducible refine (WA.out _ H0.out).mono ?_); rintro e w1 ⟨A', c', rfl, r1, b1⟩; have R1 := Lib.hid r1.rd; have B1 := Lib.hid (bel_trans H0.out b1); clear b1 r1 c0 c1 c2 c3 c4 d0 d1))
    | fail)
  go_loopw [6, 7, 8, 9, 20] (fun hv mv iv wv jv wr => ∃ j : Nat, j ≤ L ∧ jv = .int .i64 j ∧ hv = .int .i64 (hotK ws j).1 ∧ mv = .int .i64 (hotK ws j).2 ∧ w1 = wr) (fun _ _ _ _ j _ => L - (intOf j).toNat)
  case atStart => exact ⟨0, Nat.zero_le _, rfl, rfl, rfl, rfl⟩
  case round =>
    obtain ⟨j, hj, rfl, rfl, rfl, rfl⟩ := hrel
    by_cases hjl : j < L
    · have hj1 : (j : Int) < (L : Int) := by omega
      have hj0 : (0 : Int) ≤ (j : Int) := by omega
      have hj9 : (j : Int) ≤ 1000 := by omega
      obtain ⟨x, hx⟩ : ∃ x, ws[j]? = some x := ⟨_, List.getElem?_eq_getElem (by rw [HL.out]; exact hjl)⟩
      obtain ⟨b0, off, rfl, hlt0, k0⟩ := ei_at R1.out hx
      by_cases hg : x > (hotK ws j).2
      · have HN := Lib.hid (show hotK ws (j + 1) = ((j : Int), x) by show (match ws[j]? with | some x => _ | none => _) = _; rw [hx]; exact if_pos hg)
        have hg2 : (hotK ws j).2 < x := hg
        obtain ⟨s, hs⟩ : ∃ s, s = hotK ws j := ⟨_, rfl⟩
        rw [← hs] at hg hg2 ⊢
        clear hs hx hlt0
        go_wp2
        exact ⟨⟨j + 1, by omega, by simp, by rw [HN.out], by rw [HN.out], trivial⟩, by simp [intOf]; omega⟩
      · have HN := Lib.hid (show hotK ws (j + 1) = hotK ws j by show (match ws[j]? with | some x => _ | none => _) = _; rw [hx]; exact if_neg hg)
        have hg2 : ¬ (hotK ws j).2 < x := hg
        obtain ⟨s, hs⟩ : ∃ s, s = hotK ws j := ⟨_, rfl⟩
        rw [← hs] at hg hg2 HN ⊢
        clear hs hx hlt0
        go_wp2
        exact ⟨⟨j + 1, by omega, by simp, by rw [HN.out], by rw [HN.out], trivial⟩, by simp [intOf]; omega⟩
    · have hj1 : ¬ (j : Int) < (L : Int) := by omega
      have e : j = L := by omega
      have HE := Lib.hid e
      clear e
      go_wp2
      go_ret2
      exact ⟨by rw [HE.out]; rfl, B1.out⟩
end Go.Proofs.Ytilnpeekajnlhaa
namespace Go.Proofs.Ytilnpeekajnlhaa
open Go.RowKit Go.Maps
abbrev jA : ByteArray := ⟨#[97]⟩
abbrev jB : ByteArray := ⟨#[98]⟩
abbrev jM : ByteArray := ⟨#[109]⟩
abbrev jZ : ByteArray := ⟨#[122]⟩
abbrev q1 : MG := ⟨4, 1, jA, jZ, emptyS, 0⟩
abbrev q2 : MG := ⟨1, 2, jB, emptyS, emptyS, 0⟩
abbrev q3 : MG := ⟨4, 1, jA, jM, emptyS, 0⟩
abbrev q4 : MG := ⟨4, 1, jM, jZ, emptyS, 0⟩
abbrev jp : List ByteArray := [jM]
theorem lv_ok : OkA [q1, q2] := by
  intro x hx
  simp at hx
  rcases hx with rfl | rfl <;> refine ⟨?_, ?_, ?_⟩ <;> decide
theorem lv_ok3 : OkA [q3, q2] := by
  intro x hx
  simp at hx
  rcases hx with rfl | rfl <;> refine ⟨?_, ?_, ?_⟩ <;> decide
theorem lv_ok4 : OkA [q4] := by
  intro x hx
  simp at hx
  subst hx
  refine ⟨?_, ?_, ?_⟩ <;> decide
theorem lv_for0 : forL emptyS jM [q1, q2] = [q3, q2] := by
  have e1 : clipM q1 emptyS jM = (q3, true) := by
    simp [clipM, isPt, meetF, meetE, sb, emp, lt, maxS, firstS, bef, toList_eq, Op.bytesLess, overM]
  have e2 : clipM q2 emptyS jM = (q2, true) := by
    simp [clipM, isPt, sb, has, emp, lt, toList_eq, Op.bytesLess]
  simp [forL, e1, e2]
theorem lv_for1 : forL jM emptyS [q1, q2] = [q4] := by
  have e1 : clipM q1 jM emptyS = (q4, true) := by
    simp [clipM, isPt, meetF, meetE, sb, emp, lt, maxS, firstS, bef, toList_eq, Op.bytesLess, overM]
  have e2 : (clipM q2 jM emptyS).2 = false := by
    simp [clipM, isPt, sb, has, emp, lt, toList_eq, Op.bytesLess]
  simp [forL, e1, e2]
theorem lv_rightM : rightB [q1, q2] = true := by
  refine right_yes (fun i hi => ?_)
  have : i = 0 ∨ i = 1 := by simp at hi; omega
  rcases this with rfl | rfl
  · rw [rcI_zero rfl]; simp [rcX, isPt, sb, spF, spT, emp, lt, toList_eq, Op.bytesLess]
  · rw [rcI_succ (p := q1) (x := q2) rfl rfl]; simp [rcX, rcP, aheadM, isPt, sb, spF, spT, emp, lt, toList_eq, Op.bytesLess]
theorem lv_rightP : Pv.rightB jp emptyS emptyS = true := by
  simp [Pv.rightB, Pv.inK, Pv.risesB, Pv.riseK, Pv.at_, sb, emp, lt, ByteArray.toList_eq, Op.bytesLess]
theorem lv_many : Pv.many jp emptyS emptyS = 2 := by unfold Pv.many; rw [if_pos lv_rightP]; rfl
theorem lv_upto : Pv.upto jp emptyS emptyS 2 = [(0, emptyS, jM), (1, jM, emptyS)] := by
  simp [Pv.upto, Pv.prtOf, Pv.pF, Pv.pT, Pv.at_, List.range_succ]
theorem lv_wgts : wgts jp emptyS emptyS [q1, q2] = [35, 18] := by
  unfold wgts
  rw [lv_many, lv_upto]
  show [wgt _ _, wgt _ _] = _
  have e0 : wgt [q1, q2] (0, emptyS, jM) = 35 := by show byN (forL emptyS jM [q1, q2]) = 35; rw [lv_for0]; rfl
  have e1 : wgt [q1, q2] (1, jM, emptyS) = 18 := by show byN (forL jM emptyS [q1, q2]) = 18; rw [lv_for1]; rfl
  rw [e0, e1]
theorem lv_hok : ∀ x ∈ Pv.upto jp emptyS emptyS (Pv.many jp emptyS emptyS), OkA (forL x.2.1 x.2.2 [q1, q2]) := by
  rw [lv_many, lv_upto]
  intro x hx
  simp at hx
  rcases hx with rfl | rfl
  · show OkA (forL emptyS jM [q1, q2]); rw [lv_for0]; exact lv_ok3
  · show OkA (forL jM emptyS [q1, q2]); rw [lv_for1]; exact lv_ok4
theorem lv_hot : hotK [35, 18] 2 = (0, 35) := by decide
theorem lv_prt : Pv.prt jp jM = 1 := by simp [Pv.prt, Pv.prtK, Pv.at_, lt, ByteArray.toList_eq, Op.bytesLess]
theorem lv_wi : [q1, q2].all (wiR emptyS emptyS) = true := by
  simp [wiR, sb, spF, spT, isPt, emp, lt, bef, toList_eq, Op.bytesLess]
theorem lv_kids : kidsB [5, 6] = true := by decide
theorem lv_kid : kidL jp emptyS emptyS 0 [q1, q2] = [q3, q2] := by
  have e : Pv.spanB jp emptyS emptyS 0 = true := by unfold Pv.spanB; rw [lv_rightP]; rfl
  unfold kidL Pv.spanF
  rw [if_pos e, if_pos e]
  exact lv_for0
theorem lv_rn : RN 2 1 2 0 jp [5, 6] [q1, q2] emptyS emptyS := ⟨rfl, rfl, rfl, lv_rightP, lv_kids, lv_rightM, lv_wi⟩
end Go.Proofs.Ytilnpeekajnlhaa
