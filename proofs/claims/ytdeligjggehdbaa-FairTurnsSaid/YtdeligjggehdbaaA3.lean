/- The document's windows. -/
import Derived.Test.YtdeligjggehdbaaA1
namespace Go.Proofs.Ytdeligjggehdbaa
set_option linter.unusedSimpArgs false
open Go.RowKit
set_option linter.unusedVariables false

theorem rdi_sub {w : World} {b off : Nat} {l : List Int} (h : RdI w (some ⟨b, off, none⟩) l) (i W : Nat) : RdI w (some ⟨b, off + i, none⟩) ((l.drop i).take W) := by
  rcases h with h | ⟨b', off', e, hlt, hc⟩
  · left
    rw [List.map_eq_nil_iff] at h ⊢
    subst h; simp
  · cases e
    refine .inr ⟨b, off + i, rfl, hlt, fun j u hj => ?_⟩
    rw [List.getElem?_map, List.getElem?_take] at hj
    split at hj
    · rw [List.getElem?_drop] at hj
      have := hc (i + j) u (by rw [List.getElem?_map]; exact hj)
      rw [Nat.add_assoc]; exact this
    · simp at hj
theorem rdi_drew {w : World} {A : Option Addr} {l : List Int} (h : RdI w A l) : RdI w.drew A l := by
  rcases h with h | ⟨b', off', e, hlt, hc⟩
  · exact .inl h
  · exact .inr ⟨b', off', e, hlt, fun j u hj => by have := hc j u hj; simpa using this⟩

theorem has_q (A : Option Addr) (n c : Nat) (l : List Int) (x : Int) (w : World) (hl : l.length = n) (hn : n ≤ 1000000) (hA : RdI w A l) :
    Calls Try.prog 15 #[.slice A n c, .int .i64 x] w fun e w' => e = .returned (.bool (l.contains x)) ∧ w' = w :=
  (has_any A n c l x w hl hn hA).mono fun _ _ ⟨a, b⟩ => ⟨a, b.symm⟩
theorem rfair_lo (A1 A2 : Option Addr) (n1 c1 n2 c2 : Nat) (win : Int) (w : World) (h : win < 1) :
    Calls Try.prog 8 #[.slice A1 n1 c1, .slice A2 n2 c2, .int .i64 win] w fun e w' => e = .returned (.bool false) ∧ w = w' := by
  go_enter Try.func8, Try.ntmps8
  go_wp2
  all_goals
    go_ret
    exact ⟨rfl, rfl⟩

set_option maxHeartbeats 1000000 in
theorem rfair_hi (A1 A2 : Option Addr) (n1 c1 n2 c2 : Nat) (p q : List Int) (W : Nat) (w : World) (hW : 1 ≤ W) (hp : p.length = n1) (hq : q.length = n2) (h1 : n1 ≤ 1000000) (h2 : n2 ≤ 1000000) (hc : n1 ≤ c1) (hcm : c1 ≤ maxLen) (hA : RdI w A1 p) (hB : RdI w A2 q) (hWm : (W : Int) ≤ 9223372036854775807) :
    Calls Try.prog 8 #[.slice A1 n1 c1, .slice A2 n2 c2, .int .i64 W] w fun e w' => e = .returned (.bool (decide (gF p q ≤ W))) ∧ ∃ m, w' = w.drewN m := by
  unfold maxLen at hcm
  have HP := Lib.hid hp
  have HQ := Lib.hid hq
  have HA := Lib.hid hA
  have HB := Lib.hid hB
  clear hp hq hA hB
  obtain ⟨r, hr⟩ : ∃ r, r = decide (gF p q ≤ W) := ⟨_, rfl⟩
  rw [← hr]
  have hr' : r = true ↔ FairP p q W := by rw [hr, decide_eq_true_eq, gF_char]
  have HR := Lib.hid hr'
  clear hr hr'
  have hW1 : ¬ ((W : Int) < 1) := by omega
  go_enter Try.func8, Try.ntmps8
  go_wp2
  go_loopw [7] (fun iv wr => ∃ i m : Nat, i ≤ n1 ∧ iv = .int .i64 i ∧ (∀ i', i' < i → i' + W ≤ p.length → ∀ k (h : k < q.length), ((p.drop i').take W).contains q[k] = true) ∧ wr = w.drewN m) (fun i _ => n1 - (intOf i).toNat)
  case atStart => exact ⟨0, 0, by omega, rfl, fun i' h => by omega, rfl⟩
  case round =>
    obtain ⟨i, m, hi, rfl, hall', rfl⟩ := hrel
    have hall := Lib.hid hall'
    clear hall'
    by_cases h8 : i + W ≤ n1
    · have hi1 : (i : Int) < (n1 : Int) := by omega
      have hi2 : (W : Int) ≤ (n1 : Int) - (i : Int) := by omega
      have hi0 : (0 : Int) ≤ (i : Int) := by omega
      go_wp2
      go_loopw [8] (fun iv wr => ∃ k m2 : Nat, k ≤ n2 ∧ iv = .int .i64 k ∧ (∀ k' (h : k' < q.length), k' < k → ((p.drop i).take W).contains q[k'] = true) ∧ wr = w.drewN m2) (fun k _ => n2 - (intOf k).toNat)
      case atStart => exact ⟨0, m, by omega, rfl, fun k' _ h => by omega, rfl⟩
      case round =>
        obtain ⟨k, m2, hk, rfl, hin', hwr⟩ := hrel
        have HW := Lib.hid hwr
        clear hwr
        have hin := Lib.hid hin'
        clear hin'
        by_cases h9 : k = n2
        · have hkn : ¬ (k : Int) < (n2 : Int) := by omega
          have hnx : Hid (∀ i', i' < i + 1 → i' + W ≤ p.length → ∀ k (h : k < q.length), ((p.drop i').take W).contains q[k] = true) := Lib.hid (by
            intro i' h1 h2 k' h3
            by_cases c : i' = i
            · subst c; exact hin.out k' h3 (by have := HQ.out; omega)
            · exact hall.out i' (by omega) h2 k' h3)
          go_wp2
          exact ⟨⟨i + 1, m2, by omega, by simp, hnx.out, HW.out⟩, by simp [intOf]; omega⟩
        · have hkn : k < n2 := by omega
          have hk1 : (k : Int) < (n2 : Int) := by omega
          have hk0 : (0 : Int) ≤ (k : Int) := by omega
          have hkl : k < q.length := by rw [HQ.out]; exact hkn
          obtain ⟨b, off, rfl, hlt, g⟩ := rdi_get HB.out hkl
          obtain ⟨b1, off1, rfl, hlt1, _⟩ := rdi_get HA.out (k := i) (by rw [HP.out]; omega)
          obtain ⟨x, hx⟩ : ∃ x, x = q.getD k 0 := ⟨_, rfl⟩
          rw [← hx] at g
          have g2 : wr.cell? ⟨b, off + k, none⟩ = some (.int .i64 x) := by rw [HW.out]; exact g
          clear g
          have hx' : x = q[k] := by rw [hx, List.getD_eq_getElem?_getD, List.getElem?_eq_getElem hkl]; rfl
          have HX := Lib.hid hx'
          clear hx hx'
          have C := Lib.hid (fun V (hV : RdI V (some ⟨b1, off1 + i, none⟩) ((p.drop i).take W)) => has_q (some ⟨b1, off1 + i, none⟩) W (c1 - i) ((p.drop i).take W) x V (by simp [HP.out]; omega) (by omega) hV)
          have HS : Hid (RdI wr (some ⟨b1, off1 + i, none⟩) ((p.drop i).take W)) := Lib.hid (by rw [HW.out]; exact rdi_sub HA.out i W)
          have hs1 : (i : Int) + (W : Int) ≤ (c1 : Int) := by omega
          have hs2 : (i : Int) ≤ (i : Int) + (W : Int) := by omega
          have hs3 : ¬ (c1 = i) := by omega
          by_cases hy : ((p.drop i).take W).contains x = true
          · rw [hy] at C
            have hnx : Hid (∀ k' (h : k' < q.length), k' < k + 1 → ((p.drop i).take W).contains q[k'] = true) := Lib.hid (by
              intro k' h1 h2
              by_cases c : k' = k
              · subst c; rw [← HX.out]; exact hy
              · exact hin.out k' h1 (by omega))
            clear hy
            go_wp2_with fail
            have hsum : IntKind.i64.wrap ((i : Int) + (W : Int)) = (i : Int) + (W : Int) := IntWalk.i64_in _ (by omega)
            have hsu2 : ((i : Int) + (W : Int)).toNat = i + W := by omega
            go_quiet ((go_at_call 15; exact Calls.quiet_of_same (C.out _ (by exact HS.out))))
            clear hsum hsu2
            go_wp2
            exact ⟨⟨k + 1, m2 + nq, by omega, by simp, hnx.out, by rw [HW.out, World.drewN_drewN]⟩, by simp [intOf]; omega⟩
          · have hy' : ((p.drop i).take W).contains x = false := by simpa using hy
            rw [hy'] at C
            have hr2 : Hid (r = false) := Lib.hid (by
              have : ¬ r = true := fun h => hy (by rw [HX.out]; exact (fair_iff p q W hW).1 (HR.out.1 h) i (by rw [HP.out]; exact h8) k hkl)
              simpa using this)
            clear hy hy'
            go_wp2_with fail
            have hsum : IntKind.i64.wrap ((i : Int) + (W : Int)) = (i : Int) + (W : Int) := IntWalk.i64_in _ (by omega)
            have hsu2 : ((i : Int) + (W : Int)).toNat = i + W := by omega
            go_quiet ((go_at_call 15; exact Calls.quiet_of_same (C.out _ (by exact HS.out))))
            clear hsum hsu2
            go_wp2
            go_ret
            exact ⟨retB_eq hr2.out, m2 + nq, by rw [HW.out, World.drewN_drewN]⟩
    · have hr2 : Hid (r = true) := Lib.hid (HR.out.2 ((fair_iff p q W hW).2 (fun i' h => hall.out i' (by have := HP.out; omega) h)))
      by_cases h9 : i = n1
      · have hi1 : ¬ (i : Int) < (n1 : Int) := by omega
        go_wp2
        all_goals
          go_ret
          exact ⟨retB_eq hr2.out, _, rfl⟩
      · have hi1 : (i : Int) < (n1 : Int) := by omega
        have hi2 : ¬ ((W : Int) ≤ (n1 : Int) - (i : Int)) := by omega
        have hi0 : (0 : Int) ≤ (i : Int) := by omega
        go_wp2
        all_goals
          go_ret
          exact ⟨retB_eq hr2.out, _, rfl⟩
theorem rfair_any (A1 A2 : Option Addr) (n1 c1 n2 c2 : Nat) (p q : List Int) (win : Int) (w : World) (hp : p.length = n1) (hq : q.length = n2) (h1 : n1 ≤ 1000000) (h2 : n2 ≤ 1000000) (hc : n1 ≤ c1) (hcm : c1 ≤ maxLen) (hA : RdI w A1 p) (hB : RdI w A2 q) (hWm : win ≤ 9223372036854775807) :
    Calls Try.prog 8 #[.slice A1 n1 c1, .slice A2 n2 c2, .int .i64 win] w fun e w' => e = .returned (.bool (decide (gF p q ≤ win))) ∧ ∃ m, w' = w.drewN m := by
  by_cases h : win < 1
  · have := gF_lo p q
    have e : decide (gF p q ≤ win) = false := by simp; omega
    rw [e]
    exact (rfair_lo A1 A2 n1 c1 n2 c2 win w h).mono fun _ _ ⟨a, b⟩ => ⟨a, 0, by rw [← b]; rfl⟩
  · obtain ⟨W, rfl⟩ : ∃ W : Nat, win = W := ⟨win.toNat, by omega⟩
    exact rfair_hi A1 A2 n1 c1 n2 c2 p q W w (by omega) hp hq h1 h2 hc hcm hA hB hWm
end Go.Proofs.Ytdeligjggehdbaa
