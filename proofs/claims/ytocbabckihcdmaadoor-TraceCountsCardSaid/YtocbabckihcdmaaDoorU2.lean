/- What operations took, as the document counts. -/
import Derived.Test.YtocbabckihcdmaaDoorT2
namespace Go.Proofs.YtocbabckihcdmaaDoor
set_option linter.unusedSimpArgs false
open Go.RowKit Go.Maps
set_option linter.unusedVariables false
theorem alb_app {α : Type} (l : List α) : (l ++ []) = l := List.append_nil l
set_option maxRecDepth 10000 in
set_option maxHeartbeats 4000000 in
theorem rounds_ref (c : Int) (A : Option Addr) (n cap : Nat) (xs : List MV) (w : World) (hl : xs.length = n) (hn : n ≤ 1000) (hA : EM.Rd w A xs) :
    Calls Tryd.prog 17 #[.slice A n cap, .int .i64 c] w fun r w' => ∃ A' c', r = .returned (.slice A' (rP (pk (fun x => x.s == c) xs)).2.length c') ∧ EI.Row w' w.heap.size A' (rP (pk (fun x => x.s == c) xs)).2 c' ∧ Below w.heap.size w w' := by
  have HL := Lib.hid hl
  have HN := Lib.hid hn
  have B0 := Lib.hid (alb w (.cells #[] 3))
  have HA := Lib.hid (fun W (b : Below w.heap.size w W) => hA.later b)
  have HPB := Lib.hid (fun k => rP_b (pk (fun x => x.s == c) (xs.take k)) (pk (fun x => x.s == c) (xs.take k)).length)
  clear hl hA hn
  go_enter Tryd.func17, Tryd.ntmps17
  go_upto_region 5 with fail
  go_loopw [5, 6, 7, 8] (fun sv gv nv iv wr => ∃ (k : Nat) (A' : Option Addr) (c' q : Nat) (a nn : Int), k ≤ n ∧ iv = .int .i64 k ∧ nv = .int .i64 nn ∧ gv = .bool (decide (0 < a)) ∧ sv = .slice A' q c' ∧ Hid ((rP (pk (fun x => x.s == c) (xs.take k))).1 = a) ∧ Hid (0 < a → nn = a) ∧ Hid (0 ≤ nn ∧ nn ≤ k) ∧ Hid ((rP (pk (fun x => x.s == c) (xs.take k))).2.length = q) ∧ Hid (EI.Row wr w.heap.size A' (rP (pk (fun x => x.s == c) (xs.take k))).2 c') ∧ Below w.heap.size w wr) (fun _ _ _ i _ => n - (intOf i).toNat)
  case atStart => exact ⟨0, some ⟨w.heap.size, 0, none⟩, 0, 0, 0, 0, by omega, rfl, rfl, rfl, rfl, Lib.hid rfl, Lib.hid (fun h => absurd h (by omega)), Lib.hid (by omega), Lib.hid rfl, Lib.hid (.inl ⟨rfl, rfl⟩), B0.out⟩
  case round =>
    obtain ⟨k, A', c', q, a, nn, hk, rfl, rfl, rfl, rfl, HQ1, HQN, HNB, HQ2, HR, hb⟩ := hrel
    have HB := Lib.hid hb
    clear hb
    by_cases h8 : k < n
    · have hk1 : (k : Int) < (n : Int) := by omega
      have hk0 : (0 : Int) ≤ (k : Int) := by omega
      obtain ⟨x, hx⟩ : ∃ x, xs[k]? = some x := ⟨_, List.getElem?_eq_getElem (by rw [HL.out]; omega)⟩
      obtain ⟨b, off, rfl, hlt, g0, g1, g2, g3, g4⟩ := em_at (HA.out _ HB.out) hx
      have hq : q ≤ k := by
        have pb := (HPB.out k).2.2
        rw [List.take_length, HQ2.out] at pb
        exact Nat.le_trans pb (Nat.le_trans (pk_len _ _) (by rw [List.length_take]; omega))
      have HQK := Lib.hid hq
      have ha0 : 0 ≤ a := by
        have pb := (HPB.out k).1
        rw [List.take_length, HQ1.out] at pb
        exact pb
      have hnx := pk_next (p := fun x : MV => x.s == c) hx
      have W1 : IntKind.i64.wrap (nn + 1) = nn + 1 := IntWalk.i64_in _ (by have := HNB.out; have := HN.out; omega)
      have WK : IntKind.i64.wrap ((k : Int) + 1) = (k : Int) + 1 := IntWalk.i64_in _ (by have := HN.out; omega)
      clear hlt hx hq
      by_cases hs : x.s = c
      · have s1 : (x.s == c) = true := by simpa using hs
        have s2 : (x.s != c) = false := by simp [hs]
        have HP : Hid (rP (pk (fun x => x.s == c) (xs.take (k + 1))) = stR (rP (pk (fun x => x.s == c) (xs.take k))) x) := Lib.hid (by rw [hnx, if_pos s1, rP_app])
        obtain ⟨⟨a2, o⟩, ho⟩ : ∃ z, rP (pk (fun x => x.s == c) (xs.take k)) = z := ⟨_, rfl⟩
        rw [ho] at HQ1 HQ2 HR HP
        have e1 := HQ1.out
        have e2 := HQ2.out
        simp only at e1 e2
        subst e1
        have HL2 := Lib.hid e2
        clear hnx ho HQ1 HQ2 e2 s1 hs
        by_cases hw1 : x.w = 1
        · have d1 : (x.w == 1) = true := by simpa using hw1
          have d2 : (x.w == 16) = false := by rw [hw1]; rfl
          have HE : Hid (stR (a2, o) x = (1, o)) := Lib.hid (by unfold stR stA; rw [hw1]; simp)
          clear hw1 W1
          have W1 : IntKind.i64.wrap ((0 : Int) + 1) = 0 + 1 := by decide
          go_wp2
          exact ⟨⟨k + 1, A', c', q, 1, 1, by omega, by simp, rfl, rfl, rfl, Lib.hid (by rw [HP.out, HE.out]), Lib.hid (fun _ => rfl), Lib.hid (by omega), Lib.hid (by rw [HP.out, HE.out]; exact HL2.out), Lib.hid (by rw [HP.out, HE.out]; exact HR.out), HB.out⟩, by simp [intOf]; omega⟩
        · have d1 : (x.w == 1) = false := by simpa using hw1
          by_cases ha : 0 < a2
          · have hna := HQN.out ha
            subst hna
            have HS : Hid (stA nn x.w = nn + 1) := Lib.hid (by unfold stA; rw [if_neg hw1, if_pos ha])
            have hp : 0 < nn + 1 := by omega
            have db : decide (0 < nn) = true := by simpa using ha
            clear hw1
            by_cases hw2 : x.w = 16
            · have d2 : (x.w == 16) = true := by simpa using hw2
              have HE : Hid (stR (nn, o) x = (0, o ++ [nn + 1])) := Lib.hid (by unfold stR; simp only; rw [HS.out, if_pos ⟨hw2, hp⟩])
              have RW := Lib.hid (HR.out.later (alb _ (.cells #[.int .i64 (nn + 1)] 3)))
              have RL : Hid (EI.Rd (wr.alloc (.cells #[.int .i64 (nn + 1)] 3)) (some ⟨wr.heap.size, 0, none⟩) [nn + 1]) := Lib.hid (RE.Rd.lit (E := EI) wr 3 [nn + 1] #[.int .i64 (nn + 1)] rfl)
              have BS := Lib.hid (bel_alloc HB.out (.cells #[.int .i64 (nn + 1)] 3))
              clear hw2
              go_wp2_with (first
                | (at_builtin; refine RE.wpList_put EI _ rfl (.tmp 40) (.tmp 42) rfl (base := w.heap.size) A' q c' _ _ 1 1 [nn + 1] rfl rfl RW.out HL2.out (by have := HQK.out; have := HN.out; omega) BS.out.size rfl (by omega) RL.out ?_; intro A2 c2 w2 r1 r2 r3; have R1 := Lib.hid r1; have R2 := Lib.hid r2; clear r1 r2 r3)
                | fail)
              exact ⟨⟨k + 1, A2, c2, q + 1, 0, nn + 1, by omega, by simp, rfl, rfl, rfl, Lib.hid (by rw [HP.out, HE.out]), Lib.hid (fun h => absurd h (by omega)), Lib.hid (by have := HNB.out; omega), Lib.hid (by rw [HP.out, HE.out, List.length_append]; exact congrArg (· + 1) HL2.out), Lib.hid (by rw [HP.out, HE.out]; exact R1.out), BS.out.trans (RE.Row.below R2.out RW.out (Nat.le_refl _) BS.out.size)⟩, by simp [intOf]; omega⟩
            · have d2 : (x.w == 16) = false := by simpa using hw2
              have HE : Hid (stR (nn, o) x = (nn + 1, o)) := Lib.hid (by unfold stR; simp only; rw [HS.out, if_neg (fun h => hw2 h.1)])
              have dq : decide (0 < nn + 1) = true := by simpa using hp
              clear hw2
              go_wp2
              exact ⟨⟨k + 1, A', c', q, nn + 1, nn + 1, by omega, by simp, rfl, by simp [hp, ha], rfl, Lib.hid (by rw [HP.out, HE.out]), Lib.hid (fun _ => rfl), Lib.hid (by have := HNB.out; omega), Lib.hid (by rw [HP.out, HE.out]; exact HL2.out), Lib.hid (by rw [HP.out, HE.out]; exact HR.out), HB.out⟩, by simp [intOf]; omega⟩
          · have hz : a2 = 0 := by omega
            subst hz
            have HE : Hid (stR (0, o) x = (0, o)) := Lib.hid (by unfold stR stA; rw [if_neg hw1, if_neg ha, if_neg (fun h => ha h.2)])
            clear hw1 ha
            go_wp2
            exact ⟨⟨k + 1, A', c', q, 0, nn + 1, by omega, by simp, rfl, rfl, rfl, Lib.hid (by rw [HP.out, HE.out]), Lib.hid (fun h => absurd h (by omega)), Lib.hid (by have := HNB.out; omega), Lib.hid (by rw [HP.out, HE.out]; exact HL2.out), Lib.hid (by rw [HP.out, HE.out]; exact HR.out), HB.out⟩, by simp [intOf]; omega⟩
      · have s1 : (x.s == c) = false := by simpa using hs
        have s2 : (x.s != c) = true := by simpa using hs
        have HP : Hid (pk (fun x => x.s == c) (xs.take (k + 1)) = pk (fun x => x.s == c) (xs.take k)) := Lib.hid (by rw [hnx, if_neg (by rw [s1]; decide), List.append_nil])
        clear hnx hs s1 W1
        go_wp2
        exact ⟨⟨k + 1, A', c', q, a, nn, by omega, by simp, rfl, rfl, rfl, Lib.hid (by rw [HP.out]; exact HQ1.out), HQN, Lib.hid (by have := HNB.out; omega), Lib.hid (by rw [HP.out]; exact HQ2.out), Lib.hid (by rw [HP.out]; exact HR.out), HB.out⟩, by simp [intOf]; omega⟩
    · have hkn : k = n := by omega
      subst hkn
      have hk1 : ¬ (k : Int) < (k : Int) := by omega
      have HT : Hid (xs.take k = xs) := Lib.hid (by rw [← HL.out, List.take_length])
      go_wp2
      go_ret
      exact ⟨A', c', by rw [← HQ2.out, HT.out]; rfl, by have := HR.out; rw [HT.out] at this; exact this, HB.out⟩
end Go.Proofs.YtocbabckihcdmaaDoor
