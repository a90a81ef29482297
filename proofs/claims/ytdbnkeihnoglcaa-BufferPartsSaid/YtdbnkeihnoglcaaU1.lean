/- What is taken and what is left, key by key: plain mathematics. -/
import Derived.Test.YtdbnkeihnoglcaaU0
import Derived.Test.YtdbnkeihnoglcaaV1
import Derived.Test.YtdbnkeihnoglcaaM4
namespace Go.Proofs.Ytdbnkeihnoglcaa
set_option linter.unusedSimpArgs false
set_option linter.unusedVariables false
theorem count_lt {α : Type} {p q : α → Bool} (h : ∀ x, p x = true → q x = true) {z : α} (hq : q z = true) (hp : p z = false) : ∀ {L : List α}, z ∈ L → L.countP p < L.countP q
  | x :: L, hz => by
    have hle : L.countP p ≤ L.countP q := List.countP_mono_left (fun x _ => h x)
    rw [List.countP_cons, List.countP_cons]
    rcases List.mem_cons.1 hz with e | hz
    · subst e; rw [hq, hp]; simp; omega
    · have ih := count_lt h hq hp hz
      cases e1 : p x
      · cases e2 : q x <;> simp <;> omega
      · rw [h x e1]; simp; omega
/-- Strings are numbered in their order. -/
theorem ranks (L : List ByteArray) : ∃ r : ByteArray → Nat, ∀ x ∈ L, ∀ y ∈ L, lt x y = decide (r x < r y) := by
  refine ⟨fun x => L.countP (fun y => lt y x), fun x hx y hy => ?_⟩
  cases h : lt x y
  · symm
    rw [decide_eq_false_iff_not, Nat.not_lt]
    refine List.countP_mono_left (fun z _ hz => ?_)
    exact lt_of_lt_nlt hz h
  · symm
    rw [decide_eq_true_iff]
    exact count_lt (p := fun u => lt u x) (q := fun u => lt u y) (fun z hz => by
      have hz' : lt z x = true := hz
      have q : lt z y = true := by unfold lt at *; exact bl_trans _ _ _ hz' h
      exact q) (z := x) h (lt_irr x) hx
theorem emp_lt {x y : ByteArray} (h : emp x = true) : lt y x = false := by
  unfold emp at h; rw [List.isEmpty_iff] at h
  unfold lt; rw [h]; exact bl_nil _
theorem emp_lt2 {x y : ByteArray} (h : emp x = true) (h2 : emp y = false) : lt x y = true := by
  unfold emp at h h2; rw [List.isEmpty_iff] at h
  unfold lt; rw [h, bl_nil_left, h2]; rfl
structure PartsOf (ky to a b s : ByteArray) : Prop where
  inn : has a b s = true → (lt ky (maxS ky a) = true → has ky (maxS ky a) s = false) ∧ (bef (firstS to b) to = true → has (firstS to b) to s = false)
  out : has a b s = false → has ky to s = ((lt ky (maxS ky a) && has ky (maxS ky a) s) || (bef (firstS to b) to && has (firstS to b) to s))
  one : (lt ky (maxS ky a) && has ky (maxS ky a) s) = false ∨ (bef (firstS to b) to && has (firstS to b) to s) = false
set_option maxHeartbeats 4000000 in
theorem parts_of (ky to a b s : ByteArray) (h1 : sb ky to = true) (h2 : sb a b = true) (h3 : sb (maxS ky a) (firstS to b) = true) : PartsOf ky to a b s := by
  obtain ⟨r, hr⟩ := ranks [ky, to, a, b, s]
  have mk : ky ∈ [ky, to, a, b, s] := by simp
  have mt : to ∈ [ky, to, a, b, s] := by simp
  have ma : a ∈ [ky, to, a, b, s] := by simp
  have mb : b ∈ [ky, to, a, b, s] := by simp
  have ms : s ∈ [ky, to, a, b, s] := by simp
  have q1 := hr _ mk _ ma
  have q2 := hr _ ms _ mk
  have q3 := hr _ ms _ ma
  have q4 := hr _ ms _ mb
  have q5 := hr _ ms _ mt
  have q6 := hr _ mb _ mt
  have q7 := hr _ mk _ mt
  have q8 := hr _ ma _ mb
  have q9 := hr _ ma _ mt
  have q10 := hr _ mk _ mb
  have q11 := hr _ mk _ mk
  have q12 := hr _ mt _ mt
  clear hr mk mt ma mb ms
  have e1 : emp to = true → lt s to = false := emp_lt
  have e2 : emp b = true → lt s b = false := emp_lt
  have e6 : emp to = true → lt b to = false := emp_lt
  have e3 : emp a = true → lt s a = false := emp_lt
  have e9 : emp a = true → lt ky a = false := emp_lt
  have e10 : emp ky = true → lt s ky = false := emp_lt
  cases k1 : lt ky a <;> cases k2 : bef b to
  all_goals
    have em : maxS ky a = _ := show (if lt ky a then a else ky) = _ by rw [k1]
    have ef : firstS to b = _ := show (if bef b to then b else to) = _ by rw [k2]
    simp only [if_true, if_false, Bool.false_eq_true] at em ef
    rw [em, ef] at h3
    refine ⟨?_, fun hz => ?_, ?_⟩
    all_goals
      rw [em, ef]
      try rw [Bool.eq_iff_iff]
      try unfold has at hz
      unfold has
      unfold bef sb at *
      rw [q1] at *
      simp only [q2, q3, q4, q5, q6, q7, q8, q9, q10, q11, q12] at *
      cases c1 : emp to <;> cases c2 : emp b <;> cases c3 : emp a <;> cases c4 : emp ky <;> simp [c1, c2, c3, c4] at h1 h2 h3 k1 k2 e1 e2 e3 e6 e9 e10 ⊢ <;> (try simp [c2] at hz) <;> (try omega)
/-- What a message makes of a key's value. -/
def onQ (m : MG) (s : ByteArray) (q : ByteArray × Bool) : ByteArray × Bool :=
  if touB m s then (if m.kd = 1 then (m.vl, true) else if m.kd = 3 then (addF q.1 q.2 m.dl, true) else (emptyS, false)) else q
def valL (xs : List MG) (s : ByteArray) (q : ByteArray × Bool) : ByteArray × Bool := xs.foldl (fun q m => onQ m s q) q
theorem valL_app (xs ys : List MG) (s : ByteArray) (q : ByteArray × Bool) : valL (xs ++ ys) s q = valL ys s (valL xs s q) := by unfold valL; rw [List.foldl_append]
theorem valL_next {xs : List MG} {k : Nat} {x : MG} (h : xs[k]? = some x) (s : ByteArray) (q : ByteArray × Bool) : valL (xs.take (k + 1)) s q = onQ x s (valL (xs.take k) s q) := by
  rw [List.take_add_one, h]; simp [valL, List.foldl_append]
theorem onQ_no {m : MG} {s : ByteArray} (h : touB m s = false) (q : ByteArray × Bool) : onQ m s q = q := by unfold onQ; rw [h]; rfl
theorem valL_no {xs : List MG} {s : ByteArray} (h : ∀ x ∈ xs, touB x s = false) (q : ByteArray × Bool) : valL xs s q = q := by
  induction xs generalizing q with
  | nil => rfl
  | cons x xs ih =>
    show valL xs s (onQ x s q) = q
    rw [onQ_no (h x List.mem_cons_self), ih (fun y hy => h y (List.mem_cons_of_mem _ hy))]
theorem valL_flat {f : MG → List MG} {s : ByteArray} (xs : List MG) (h : ∀ x ∈ xs, ∀ q, valL (f x) s q = onQ x s q) (q : ByteArray × Bool) : valL (xs.flatMap f) s q = valL xs s q := by
  induction xs generalizing q with
  | nil => rfl
  | cons x xs ih =>
    rw [List.flatMap_cons, valL_app, h x List.mem_cons_self, ih (fun y hy => h y (List.mem_cons_of_mem _ hy))]
    rfl
theorem tou_pt {m : MG} (h : isPt m.kd = true) (s : ByteArray) : touB m s = (m.ky.toList == s.toList) := by unfold touB; rw [h]; rfl
theorem tou_cl {m : MG} (h : m.kd = 4) (s : ByteArray) : touB m s = has m.ky m.to s := by unfold touB; rw [h]; rfl
theorem has_eq {a b s t : ByteArray} (h : s.toList = t.toList) : has a b s = has a b t := by unfold has sb emp lt; rw [h]
/-- What the parts of one message do. -/
structure OneOk (m : MG) (a b s : ByteArray) : Prop where
  inn : (sb a b && has a b s) = true → (∀ q, valL (if (clipM m a b).2 then [(clipM m a b).1] else []) s q = onQ m s q) ∧ ∀ x ∈ restM m a b, touB x s = false
  out : (sb a b && has a b s) = false → (∀ q, valL (restM m a b) s q = onQ m s q) ∧ ∀ x ∈ (if (clipM m a b).2 then [(clipM m a b).1] else []), touB x s = false
theorem onQ_clear {m x : MG} {s : ByteArray} (h4 : m.kd = 4) (hx : x.kd = 4) (h : touB x s = touB m s) (q : ByteArray × Bool) : onQ x s q = onQ m s q := by
  unfold onQ; rw [h, h4, hx]; rfl
theorem one_ok {m : MG} (hm : rcX m = true) (a b s : ByteArray) : OneOk m a b s := by
  obtain ⟨k1, k2, k3⟩ := kd_ok hm
  rcases k1 with k1 | ⟨k1, k4⟩
  · have ec : clipM m a b = if sb a b && has a b m.ky then (m, true) else (zM, false) := by unfold clipM; rw [if_pos k1]
    have er : restM m a b = if (clipM m a b).2 then [] else [m] := by unfold restM restQ; rw [if_pos k1]
    have et := tou_pt k1 s
    cases e : (sb a b && has a b m.ky)
    · rw [e] at ec
      simp only [Bool.false_eq_true, if_false] at ec
      rw [ec] at er
      simp only [Bool.false_eq_true, if_false] at er
      refine ⟨fun h => ?_, fun h => ?_⟩
      · have hn : touB m s = false := by
          rw [et, beq_eq_false_iff_ne]; intro he
          rw [has_eq he, h] at e; cases e
        rw [ec, er]
        refine ⟨fun q => ?_, fun x hx => ?_⟩
        · rw [onQ_no hn]; rfl
        · rw [List.mem_singleton.1 hx]; exact hn
      · rw [ec, er]
        exact ⟨fun q => rfl, fun x hx => by simp at hx⟩
    · rw [e] at ec
      simp only [if_true] at ec
      rw [ec] at er
      simp only [if_true] at er
      refine ⟨fun h => ?_, fun h => ?_⟩
      · rw [ec, er]
        exact ⟨fun q => rfl, fun x hx => by cases hx⟩
      · have hn : touB m s = false := by
          rw [et, beq_eq_false_iff_ne]; intro he
          rw [has_eq he, h] at e; cases e
        rw [ec, er]
        refine ⟨fun q => ?_, fun x hx => ?_⟩
        · rw [onQ_no hn]; rfl
        · simp at hx; rw [hx]; exact hn
  · have h4 : m.kd = 4 := by simpa using k4
    have e1 : spF m = m.ky := k3
    have e2 : spT m = m.to := by unfold spT; rw [h4]; rfl
    rw [e1, e2] at k2
    have et := tou_cl h4 s
    have ec : clipM m a b = if (meetF m.ky m.to a b).2.2 then (overM m (meetF m.ky m.to a b).1 (meetF m.ky m.to a b).2.1, true) else (zM, false) := by unfold clipM; rw [k1, k4]; rfl
    have er : restM m a b = if (clipM m a b).2 then (if lt m.ky (clipM m a b).1.ky then [overM m m.ky (clipM m a b).1.ky] else []) ++ (if bef (clipM m a b).1.to m.to then [overM m (clipM m a b).1.to m.to] else []) else [m] := by unfold restM restQ; rw [k1, k4]; rfl
    have o4 : ∀ x y, (overM m x y).kd = 4 := fun x y => h4
    cases hs : sb a b
    · have e : meetF m.ky m.to a b = (emptyS, emptyS, false) := by unfold meetF; rw [if_neg (by simp [hs])]
      rw [e] at ec
      simp only [Bool.false_eq_true, if_false] at ec
      rw [ec] at er
      simp only [Bool.false_eq_true, if_false] at er
      refine ⟨fun h => (by rw [hs] at h; simp at h), fun h => ?_⟩
      rw [ec, er]
      exact ⟨fun q => rfl, fun x hx => by simp at hx⟩
    · have hhm := has_meet m.ky m.to a b s k2 hs
      rw [meetF_E _ _ _ _ k2 hs] at ec hhm
      unfold meetE at ec hhm
      cases hok : sb (maxS m.ky a) (firstS m.to b)
      · rw [hok] at ec hhm
        simp only [Bool.false_eq_true, if_false, Bool.false_and] at ec hhm
        rw [ec] at er
        simp only [Bool.false_eq_true, if_false] at er
        refine ⟨fun h => ?_, fun h => ?_⟩
        · have ha : has a b s = true := by simpa [hs] using h
          rw [ha, Bool.and_true] at hhm
          rw [ec, er]
          refine ⟨fun q => ?_, fun x hx => ?_⟩
          · rw [onQ_no (by rw [et]; exact hhm)]; rfl
          · rw [List.mem_singleton.1 hx, et]; exact hhm
        · rw [ec, er]
          exact ⟨fun q => rfl, fun x hx => by simp at hx⟩
      · have P := parts_of m.ky m.to a b s k2 hs hok
        rw [hok] at ec hhm
        simp only [if_true, Bool.true_and] at ec hhm
        rw [ec] at er
        simp only [if_true] at er
        have ky' : (overM m (maxS m.ky a) (firstS m.to b)).ky = maxS m.ky a := rfl
        have to' : (overM m (maxS m.ky a) (firstS m.to b)).to = firstS m.to b := rfl
        rw [ky', to'] at er
        refine ⟨fun h => ?_, fun h => ?_⟩
        · have ha : has a b s = true := by simpa [hs] using h
          rw [ha, Bool.and_true] at hhm
          rw [ec, er]
          refine ⟨fun q => ?_, fun x hx => ?_⟩
          · exact onQ_clear h4 (o4 _ _) (by rw [tou_cl (o4 _ _), et]; exact hhm.symm) q
          · rcases List.mem_append.1 hx with hx | hx
            · split at hx
              · next c => rw [List.mem_singleton.1 hx, tou_cl (o4 _ _)]; exact (P.inn ha).1 c
              · cases hx
            · split at hx
              · next c => rw [List.mem_singleton.1 hx, tou_cl (o4 _ _)]; exact (P.inn ha).2 c
              · cases hx
        · have ha : has a b s = false := by simpa [hs] using h
          rw [ha, Bool.and_false] at hhm
          have hou := P.out ha
          have hon := P.one
          rw [ec, er]
          refine ⟨fun q => ?_, fun x hx => ?_⟩
          · have tL : touB (overM m m.ky (maxS m.ky a)) s = has m.ky (maxS m.ky a) s := tou_cl (o4 _ _) s
            have tR : touB (overM m (firstS m.to b) m.to) s = has (firstS m.to b) m.to s := tou_cl (o4 _ _) s
            cases c1 : lt m.ky (maxS m.ky a) <;> cases c2 : bef (firstS m.to b) m.to <;> rw [c1, c2] at hou hon <;> simp only [Bool.false_and, Bool.true_and, Bool.or_false, Bool.false_or] at hou hon
            · rw [onQ_no (by rw [et]; exact hou)]; rfl
            · exact onQ_clear h4 (o4 _ _) (by rw [tR, et]; exact hou.symm) q
            · exact onQ_clear h4 (o4 _ _) (by rw [tL, et]; exact hou.symm) q
            · show onQ (overM m (firstS m.to b) m.to) s (onQ (overM m m.ky (maxS m.ky a)) s q) = _
              rcases hon with hn | hn
              · rw [onQ_no (m := overM m m.ky (maxS m.ky a)) (by rw [tL]; exact hn)]
                exact onQ_clear h4 (o4 _ _) (by rw [tR, et, hou, hn]; rfl) q
              · rw [onQ_no (m := overM m (firstS m.to b) m.to) (by rw [tR]; exact hn)]
                exact onQ_clear h4 (o4 _ _) (by rw [tL, et, hou, hn]; simp) q
          · simp at hx
            rw [hx, tou_cl (o4 _ _)]
            exact hhm.symm
/-- What the parts of a buffer do. -/
theorem parts_in {xs : List MG} (hr : rightB xs = true) {a b s : ByteArray} (h : (sb a b && has a b s) = true) (q : ByteArray × Bool) : valL (forL a b xs) s q = valL xs s q ∧ atL s (resL a b xs) = [] := by
  have hx := ((right_iff xs).1 hr).1
  refine ⟨valL_flat xs (fun x hm q => ((one_ok (hx x hm) a b s).inn h).1 q) q, ?_⟩
  unfold atL resL
  rw [List.filter_eq_nil_iff]
  intro y hy
  obtain ⟨x, hm, hy⟩ := List.mem_flatMap.1 hy
  simp [((one_ok (hx x hm) a b s).inn h).2 y hy]
theorem parts_out {xs : List MG} (hr : rightB xs = true) {a b s : ByteArray} (h : (sb a b && has a b s) = false) (q : ByteArray × Bool) : valL (resL a b xs) s q = valL xs s q ∧ atL s (forL a b xs) = [] := by
  have hx := ((right_iff xs).1 hr).1
  refine ⟨valL_flat xs (fun x hm q => ((one_ok (hx x hm) a b s).out h).1 q) q, ?_⟩
  unfold atL forL
  rw [List.filter_eq_nil_iff]
  intro y hy
  obtain ⟨x, hm, hy⟩ := List.mem_flatMap.1 hy
  simp [((one_ok (hx x hm) a b s).out h).2 y hy]
end Go.Proofs.Ytdbnkeihnoglcaa
