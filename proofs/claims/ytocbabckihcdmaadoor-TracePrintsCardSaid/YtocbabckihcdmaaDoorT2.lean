/- Moves: the first 60, both Same, both Rounds. -/
import Derived.Test.YtocbabckihcdmaaDoorT1
import Derived.Deep.Cut
import Derived.Deep.DeepCutAuto
namespace Go.Proofs.YtocbabckihcdmaaDoor
set_option linter.unusedSimpArgs false
open Go.RowKit Go.Maps
set_option linter.unusedVariables false
theorem few_any (A : Option Addr) (n c : Nat) (w : World) (hc : n ≤ c) (hm : c ≤ maxLen) :
    Calls Tryd.prog 6 #[.slice A n c] w fun e w' => e = .returned (.slice A (min n 60) c) ∧ w = w' := by
  unfold maxLen at hm
  by_cases h : n ≤ 60
  · have hmin : min (n : Int) 60 = (n : Int) := by omega
    have he : Hid (min n 60 = n) := Lib.hid (by omega)
    go_enter Tryd.func6, Tryd.ntmps6
    go_wp2
    all_goals
      go_ret
      exact ⟨by rw [he.out]; rfl, rfl⟩
  · have hmin : min (n : Int) 60 = 60 := by omega
    have he : Hid (min n 60 = 60) := Lib.hid (by omega)
    have hc2 : (60 : Int) ≤ (c : Int) := by omega
    go_enter Tryd.func6, Tryd.ntmps6
    go_wp2
    all_goals
      go_ret
      exact ⟨by rw [he.out]; rfl, rfl⟩
set_option maxRecDepth 10000 in
set_option maxHeartbeats 2000000 in
theorem same_m (A B : Option Addr) (n c d : Nat) (xs : List MV) (w : World) (hl : xs.length = n) (hn : n ≤ 1000) (hA : EM.Rd w A xs) (hB : EM.Rd w B xs) :
    Calls Tryd.prog 11 #[.slice A n c, .slice B n d] w fun r w' => r = .returned (.bool true) ∧ Below w.heap.size w w' := by
  have HL := Lib.hid hl
  have HA := Lib.hid hA
  have HB2 := Lib.hid hB
  clear hl hA hB
  go_enter Tryd.func11, Tryd.ntmps11
  go_wp2
  go_loopw [5] (fun iv wr => ∃ (k : Nat), k ≤ n ∧ iv = .int .i64 k ∧ Below w.heap.size w wr) (fun i _ => n - (intOf i).toNat)
  case atStart => exact ⟨0, by omega, rfl, Below.refl _ _⟩
  case round =>
    obtain ⟨k, hk, rfl, hb⟩ := hrel
    have HB := Lib.hid hb
    clear hb
    by_cases h8 : k < n
    · have hk1 : (k : Int) < (n : Int) := by omega
      have hk0 : (0 : Int) ≤ (k : Int) := by omega
      obtain ⟨x, hx⟩ : ∃ x, xs[k]? = some x := ⟨_, List.getElem?_eq_getElem (by rw [HL.out]; omega)⟩
      obtain ⟨b, off, rfl, hlt, g0, g1, g2, g3, g4⟩ := em_at (HA.out.later HB.out) hx
      obtain ⟨b', off', rfl, hlt', e0, e1, e2, e3, e4⟩ := em_at (HB2.out.later HB.out) hx
      clear hx hlt hlt'
      go_wp2_with fail
      go_quiet (fail)
      go_wp2
      exact ⟨⟨k + 1, by omega, by simp, bel_drewN HB.out _⟩, by simp [intOf]; omega⟩
    · have hk1 : ¬ (k : Int) < (n : Int) := by omega
      go_wp2
      go_ret
      exact ⟨rfl, HB.out⟩
set_option maxRecDepth 10000 in
set_option maxHeartbeats 2000000 in
theorem same_i (A B : Option Addr) (n c d : Nat) (xs : List Int) (w : World) (hl : xs.length = n) (hn : n ≤ 1000) (hA : EI.Rd w A xs) (hB : EI.Rd w B xs) :
    Calls Tryd.prog 15 #[.slice A n c, .slice B n d] w fun r w' => r = .returned (.bool true) ∧ Below w.heap.size w w' := by
  have HL := Lib.hid hl
  have HA := Lib.hid hA
  have HB2 := Lib.hid hB
  clear hl hA hB
  go_enter Tryd.func15, Tryd.ntmps15
  go_wp2
  go_loopw [5] (fun iv wr => ∃ (k : Nat), k ≤ n ∧ iv = .int .i64 k ∧ Below w.heap.size w wr) (fun i _ => n - (intOf i).toNat)
  case atStart => exact ⟨0, by omega, rfl, Below.refl _ _⟩
  case round =>
    obtain ⟨k, hk, rfl, hb⟩ := hrel
    have HB := Lib.hid hb
    clear hb
    by_cases h8 : k < n
    · have hk1 : (k : Int) < (n : Int) := by omega
      have hk0 : (0 : Int) ≤ (k : Int) := by omega
      obtain ⟨x, hx⟩ : ∃ x, xs[k]? = some x := ⟨_, List.getElem?_eq_getElem (by rw [HL.out]; omega)⟩
      obtain ⟨b, off, rfl, hlt, g0⟩ := ei_at (HA.out.later HB.out) hx
      obtain ⟨b', off', rfl, hlt', e0⟩ := ei_at (HB2.out.later HB.out) hx
      clear hx hlt hlt'
      go_wp2_with fail
      go_quiet (fail)
      go_wp2
      exact ⟨⟨k + 1, by omega, by simp, bel_drewN HB.out _⟩, by simp [intOf]; omega⟩
    · have hk1 : ¬ (k : Int) < (n : Int) := by omega
      go_wp2
      go_ret
      exact ⟨rfl, HB.out⟩
/-- How many moves there were since one was begun (0: none is), and what operations took. -/
def stA (a w : Int) : Int := if w = 1 then 1 else if 0 < a then a + 1 else a
def stR (q : Int × List Int) (m : MV) : Int × List Int := if m.w = 16 ∧ 0 < stA q.1 m.w then (0, q.2 ++ [stA q.1 m.w]) else (stA q.1 m.w, q.2)
def rP (l : List MV) : Int × List Int := l.foldl stR (0, [])
theorem rP_next {l : List MV} {k : Nat} {x : MV} (h : l[k]? = some x) : rP (l.take (k + 1)) = stR (rP (l.take k)) x := by
  unfold rP; rw [List.take_add_one, h]; simp
theorem rP_app (l : List MV) (x : MV) : rP (l ++ [x]) = stR (rP l) x := by unfold rP; simp
theorem stA_b {a w : Int} (h : 0 ≤ a) : 0 ≤ stA a w ∧ stA a w ≤ a + 1 := by
  unfold stA; split
  · omega
  · split <;> omega
theorem rP_b (l : List MV) : ∀ k, 0 ≤ (rP (l.take k)).1 ∧ (rP (l.take k)).1 ≤ k ∧ (rP (l.take k)).2.length ≤ k := by
  intro k
  induction k with
  | zero => simp [rP]
  | succ k ih =>
    cases h : l[k]? with
    | none =>
      have hk := List.getElem?_eq_none_iff.1 h
      have e1 : l.take (k + 1) = l.take k := by rw [List.take_of_length_le hk, List.take_of_length_le (by omega)]
      rw [e1]; omega
    | some x =>
      rw [rP_next h]
      have b := stA_b (a := (rP (l.take k)).1) (w := x.w) ih.1
      unfold stR
      split
      · simp; omega
      · simp only; omega
set_option maxRecDepth 10000 in
set_option maxHeartbeats 4000000 in
theorem rounds_any (c : Int) (A : Option Addr) (n cap : Nat) (xs : List MV) (w : World) (hl : xs.length = n) (hn : n ≤ 1000) (hA : EM.Rd w A xs) :
    Calls Tryd.prog 16 #[.slice A n cap, .int .i64 c] w fun r w' => ∃ A' c', r = .returned (.slice A' (rP (pk (fun x => x.s == c) xs)).2.length c') ∧ EI.Row w' w.heap.size A' (rP (pk (fun x => x.s == c) xs)).2 c' ∧ Below w.heap.size w w' := by
  have OA := Lib.hid (of_any c A n cap xs w hl hn hA)
  obtain ⟨ys, hys⟩ : ∃ ys, pk (fun x => x.s == c) xs = ys := ⟨_, rfl⟩
  have hlen : ys.length ≤ 1000 := by rw [← hys]; exact Nat.le_trans (pk_len _ _) (by omega)
  unfold PickP at OA
  rw [hys] at OA ⊢
  obtain ⟨m, hm⟩ : ∃ m, ys.length = m := ⟨_, rfl⟩
  rw [hm] at OA
  have HM := Lib.hid hm
  have hm9 : m ≤ 1000 := by omega
  have HM9 := Lib.hid hm9
  have HPB := Lib.hid (rP_b ys)
  clear hys hlen hm hl hA hn
  go_enter Tryd.func16, Tryd.ntmps16
  go_upto_region 4 with (first
    | (go_at_call 13; ((with_reducible refine OA.out.mono ?_); rintro e w1 ⟨AY, cy, rfl, ry, by1⟩; have RY := Lib.hid ry.rd; have B1 := Lib.hid by1; clear ry by1))
    | fail)
  go_loopw [5, 6, 13] (fun sv nv iv wr => ∃ (k : Nat) (A' : Option Addr) (c' q : Nat) (a : Int), k ≤ m ∧ iv = .int .i64 k ∧ nv = .int .i64 a ∧ sv = .slice A' q c' ∧ Hid ((rP (ys.take k)).1 = a) ∧ Hid ((rP (ys.take k)).2.length = q) ∧ Hid (EI.Row wr w1.heap.size A' (rP (ys.take k)).2 c') ∧ Below w1.heap.size w1 wr) (fun _ _ i _ => m - (intOf i).toNat)
  case atStart => exact ⟨0, none, 0, 0, 0, by omega, rfl, rfl, rfl, Lib.hid rfl, Lib.hid rfl, Lib.hid (.inl ⟨rfl, rfl⟩), Below.refl _ _⟩
  case round =>
    obtain ⟨k, A', c', q, a, hk, rfl, rfl, rfl, HQ1, HQ2, HR, hb⟩ := hrel
    have HB := Lib.hid hb
    clear hb
    have WS : Hid (w.heap.size ≤ wr.heap.size) := Lib.hid (Nat.le_trans B1.out.size HB.out.size)
    by_cases h8 : k < m
    · have hk1 : (k : Int) < (m : Int) := by omega
      have hk0 : (0 : Int) ≤ (k : Int) := by omega
      obtain ⟨x, hx⟩ : ∃ x, ys[k]? = some x := ⟨_, List.getElem?_eq_getElem (by rw [HM.out]; omega)⟩
      obtain ⟨b, off, rfl, hlt, g0, g1, g2, g3, g4⟩ := em_at (RY.out.later HB.out) hx
      have pb := HPB.out k
      rw [HQ1.out, HQ2.out] at pb
      have hnx := rP_next hx
      obtain ⟨⟨a2, o⟩, ho⟩ : ∃ z, rP (ys.take k) = z := ⟨_, rfl⟩
      rw [ho] at HQ1 HQ2 HR hnx
      have e1 := HQ1.out
      have e2 := HQ2.out
      simp only at e1 e2
      subst e1
      have HL2 := Lib.hid e2
      have HNX := Lib.hid hnx
      have HR2 := Lib.hid (HR.out.later (alb wr (MO x)))
      clear hx hnx hlt ho HQ1 HQ2 e2
      have BX := Lib.hid (bel_alloc HB.out (MO x))
      have pb0 := pb.1
      have PB := Lib.hid pb
      clear pb
      have W1 : IntKind.i64.wrap (a2 + 1) = a2 + 1 := IntWalk.i64_in _ (by have := PB.out; have := HM9.out; omega)
      obtain ⟨f0, f1, f2, f3, f4⟩ := cells5 (heap_alloc_new wr (MO x))
      by_cases hw1 : x.w = 1
      · have d1 : (x.w == 1) = true := by simpa using hw1
        have d2 : (x.w == 16) = false := by rw [hw1]; rfl
        have HE : Hid (stR (a2, o) x = (1, o)) := Lib.hid (by unfold stR stA; rw [hw1]; simp)
        clear hw1
        go_wp2
        exact ⟨⟨k + 1, A', c', q, 1, by omega, by simp, rfl, rfl, Lib.hid (by rw [HNX.out, HE.out]), Lib.hid (by rw [HNX.out, HE.out]; exact HL2.out), Lib.hid (by rw [HNX.out, HE.out]; exact HR2.out), BX.out⟩, by simp [intOf]; omega⟩
      · have d1 : (x.w == 1) = false := by simpa using hw1
        by_cases ha : 0 < a2
        · have HS : Hid (stA a2 x.w = a2 + 1) := Lib.hid (by unfold stA; rw [if_neg hw1, if_pos ha])
          have hp : 0 < a2 + 1 := by omega
          clear hw1
          by_cases hw2 : x.w = 16
          · have d2 : (x.w == 16) = true := by simpa using hw2
            have HE : Hid (stR (a2, o) x = (0, o ++ [a2 + 1])) := Lib.hid (by unfold stR; simp only; rw [HS.out, if_pos ⟨hw2, hp⟩])
            have RW := Lib.hid (HR2.out.later (alb _ (.cells #[.int .i64 (a2 + 1)] 3)))
            have RL : Hid (EI.Rd ((wr.alloc (MO x)).alloc (.cells #[.int .i64 (a2 + 1)] 3)) (some ⟨wr.heap.size + 1, 0, none⟩) [a2 + 1]) := Lib.hid (by have g := RE.Rd.lit (E := EI) (wr.alloc (MO x)) 3 [a2 + 1] #[.int .i64 (a2 + 1)] rfl; simpa using g)
            have BS := Lib.hid (bel_alloc BX.out (.cells #[.int .i64 (a2 + 1)] 3))
            clear hw2
            go_wp2_with (first
              | (at_builtin; refine RE.wpList_put EI _ rfl (.tmp 33) (.tmp 35) rfl (base := w1.heap.size) A' q c' _ _ 1 1 [a2 + 1] rfl rfl RW.out HL2.out (by have := PB.out; have := HM9.out; omega) BS.out.size rfl (by omega) RL.out ?_; intro A2 c2 w2 r1 r2 r3; have R1 := Lib.hid r1; have R2 := Lib.hid r2; clear r1 r2 r3)
              | fail)
            exact ⟨⟨k + 1, A2, c2, q + 1, 0, by omega, by simp, rfl, rfl, Lib.hid (by rw [HNX.out, HE.out]), Lib.hid (by rw [HNX.out, HE.out, List.length_append]; exact congrArg (· + 1) HL2.out), Lib.hid (by rw [HNX.out, HE.out]; exact R1.out), BS.out.trans (RE.Row.below R2.out RW.out (Nat.le_refl _) BS.out.size)⟩, by simp [intOf]; omega⟩
          · have d2 : (x.w == 16) = false := by simpa using hw2
            have HE : Hid (stR (a2, o) x = (a2 + 1, o)) := Lib.hid (by unfold stR; simp only; rw [HS.out, if_neg (fun h => hw2 h.1)])
            clear hw2
            go_wp2
            exact ⟨⟨k + 1, A', c', q, a2 + 1, by omega, by simp, rfl, rfl, Lib.hid (by rw [HNX.out, HE.out]), Lib.hid (by rw [HNX.out, HE.out]; exact HL2.out), Lib.hid (by rw [HNX.out, HE.out]; exact HR2.out), BX.out⟩, by simp [intOf]; omega⟩
        · have HE : Hid (stR (a2, o) x = (a2, o)) := Lib.hid (by unfold stR stA; rw [if_neg hw1, if_neg ha, if_neg (fun h => ha h.2)])
          clear hw1
          by_cases hw2 : x.w = 16
          · have d2 : (x.w == 16) = true := by simpa using hw2
            clear hw2
            go_wp2
            exact ⟨⟨k + 1, A', c', q, a2, by omega, by simp, rfl, rfl, Lib.hid (by rw [HNX.out, HE.out]), Lib.hid (by rw [HNX.out, HE.out]; exact HL2.out), Lib.hid (by rw [HNX.out, HE.out]; exact HR2.out), BX.out⟩, by simp [intOf]; omega⟩
          · have d2 : (x.w == 16) = false := by simpa using hw2
            clear hw2
            go_wp2
            exact ⟨⟨k + 1, A', c', q, a2, by omega, by simp, rfl, rfl, Lib.hid (by rw [HNX.out, HE.out]), Lib.hid (by rw [HNX.out, HE.out]; exact HL2.out), Lib.hid (by rw [HNX.out, HE.out]; exact HR2.out), BX.out⟩, by simp [intOf]; omega⟩
    · have hk1 : ¬ (k : Int) < (m : Int) := by omega
      have e : ys.take k = ys := List.take_of_length_le (by rw [HM.out]; omega)
      rw [e] at HQ2 HR
      have hq := HQ2.out
      subst hq
      go_wp2
      go_ret
      exact ⟨_, _, rfl, HR.out.base B1.out.size, bel_trans B1.out HB.out⟩
end Go.Proofs.YtocbabckihcdmaaDoor
