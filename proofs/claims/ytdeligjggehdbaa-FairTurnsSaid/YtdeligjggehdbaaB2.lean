/- The law FairWindows: its walk. -/
import Derived.Test.YtdeligjggehdbaaB1
namespace Go.Proofs.Ytdeligjggehdbaa
set_option linter.unusedSimpArgs false
open Go.RowKit Go.Maps
set_option linter.unusedVariables false

theorem rdi_take {w : World} {A : Option Addr} {l : List Int} (h : RdI w A l) (k : Nat) : RdI w A (l.take k) := by
  rcases h with h | ⟨b, off, e, hlt, hc⟩
  · left; rw [List.map_eq_nil_iff] at h ⊢; subst h; simp
  · refine .inr ⟨b, off, e, hlt, fun j u hj => hc j u ?_⟩
    rw [List.getElem?_map, List.getElem?_take] at hj
    rw [List.getElem?_map]
    split at hj
    · exact hj
    · simp at hj

set_option maxRecDepth 100000 in
set_option maxHeartbeats 2000000 in
theorem windows_in (A1 A2 : Option Addr) (n1 c1 n2 c2 : Nat) (p q : List Int) (win : Int) (w : World) (m1 m2 : Nat) (hm1 : m1 = min n1 60) (hm2 : m2 = min n2 60) (hp : p.length = m1) (hq : q.length = m2) (hc1 : n1 ≤ c1) (hcm1 : c1 ≤ maxLen) (hc2 : n2 ≤ c2) (hcm2 : c2 ≤ maxLen) (hA : RdI w A1 p) (hB : RdI w A2 q)
    (wp : ∀ x ∈ p, (Lit.int .i64 x).wf = true) (wq : ∀ x ∈ q, (Lit.int .i64 x).wf = true) (hwin : win ≤ 9223372036854775807) :
    Calls Try.prog 3 #[.slice A1 n1 c1, .slice A2 n2 c2, .int .i64 win] w fun e w' => e = .returned (.bool true) ∧ Below w.heap.size w w' := by
  have hlo := gF_lo p q
  have hhi := gF_hi p q
  rw [hp] at hhi
  have hm160 : m1 ≤ 60 := by omega
  have hm260 : m2 ≤ 60 := by omega
  have hmc : m1 ≤ c1 := by omega
  have HP := Lib.hid (fun V (h : Below w.heap.size w V) => hA.later h)
  have HQ := Lib.hid (fun V (h : Below w.heap.size w V) => hB.later h)
  have C5a := Lib.hid (fun V => by have h := few_any A1 n1 c1 V hc1 hcm1; rw [← hm1] at h; exact h)
  have C5b := Lib.hid (fun V => by have h := few_any A2 n2 c2 V hc2 hcm2; rw [← hm2] at h; exact h)
  have C6 := Lib.hid (fun V hA hB => gap_any A1 A2 m1 c1 m2 c2 p q V hp hq (by omega) (by omega) hA hB wp wq)
  have C7 := Lib.hid (fun x V hA hB => fair_any A1 A2 m1 c1 m2 c2 p q x V hp hq (by omega) (by omega) hA hB wp wq)
  have C8 := Lib.hid (fun V hA hB => rfair_any A1 A2 m1 c1 m2 c2 p q win V hp hq (by omega) (by omega) hmc hcm1 hA hB hwin)
  have C9 := Lib.hid (fun V hA hB => rgap_any A1 A2 m1 c1 m2 c2 p q V hp hq (by omega) (by omega) hmc hcm1 hA hB)
  clear hm1 hm2 hp hq hA hB wp wq hcm1 hcm2 hc1 hc2
  obtain ⟨g, hg⟩ : ∃ g, g = gF p q := ⟨_, rfl⟩
  rw [← hg] at C6 C7 C8 C9 hlo hhi
  clear hg
  have h2 : decide (g ≤ g) = true := by simp
  have h3 : decide (g ≤ g - 1) = false := by simp; omega
  have C7b := Lib.hid (fun V hA hB => by have h := C7.out g V hA hB; rw [h2] at h; exact h)
  have C7c := Lib.hid (fun V hA hB => by have h := C7.out (g - 1) V hA hB; rw [h3] at h; exact h)
  clear h2 h3
  have hgm : IntKind.i64.wrap (g - 1) = g - 1 := IntWalk.i64_in _ (by omega)
  by_cases hw : g ≤ win
  · have h1 : decide (g ≤ win) = true := by simpa using hw
    have C7a := Lib.hid (fun V hA hB => by have h := C7.out win V hA hB; rw [h1] at h; exact h)
    rw [h1] at C8
    have hw2 : ¬ win < g := by omega
    clear h1 C7
    go_enter Try.func3, Try.ntmps3
    go_wp2_with (first
      | (go_at_call 5; ((with_reducible refine (C5a.out _).mono ?_); rintro e w1 ⟨rfl, rfl⟩))
      | (go_at_call 5; ((with_reducible refine (C5b.out _).mono ?_); rintro e w1 ⟨rfl, rfl⟩))
      | (go_at_call 6; ((with_reducible refine (C6.out _ (HP.out _ (by first | assumption | exact Below.refl _ _)) (HQ.out _ (by first | assumption | exact Below.refl _ _))).mono ?_); rintro e w1 ⟨rfl, hb⟩; have hbw : Below w.heap.size w w1 := bel_step (by first | assumption | exact Below.refl _ _) hb (Nat.le_refl _); clear hb))
      | (go_at_call 7; ((with_reducible refine (C7a.out _ (HP.out _ (by first | assumption | exact Below.refl _ _)) (HQ.out _ (by first | assumption | exact Below.refl _ _))).mono ?_); rintro e w1 ⟨rfl, hb⟩; have hbw : Below w.heap.size w w1 := bel_step (by first | assumption | exact Below.refl _ _) hb (Nat.le_refl _); clear hb))
      | (go_at_call 7; ((with_reducible refine (C7b.out _ (HP.out _ (by first | assumption | exact Below.refl _ _)) (HQ.out _ (by first | assumption | exact Below.refl _ _))).mono ?_); rintro e w1 ⟨rfl, hb⟩; have hbw : Below w.heap.size w w1 := bel_step (by first | assumption | exact Below.refl _ _) hb (Nat.le_refl _); clear hb))
      | (go_at_call 7; ((with_reducible refine (C7c.out _ (HP.out _ (by first | assumption | exact Below.refl _ _)) (HQ.out _ (by first | assumption | exact Below.refl _ _))).mono ?_); rintro e w1 ⟨rfl, hb⟩; have hbw : Below w.heap.size w w1 := bel_step (by first | assumption | exact Below.refl _ _) hb (Nat.le_refl _); clear hb))
      | (go_at_call 8; ((with_reducible refine (C8.out _ (HP.out _ (by first | assumption | exact Below.refl _ _)) (HQ.out _ (by first | assumption | exact Below.refl _ _))).mono ?_); rintro e w1 ⟨rfl, d, hd⟩; have hbw : Below w.heap.size w w1 := (by rw [hd]; exact bel_drewN (by first | assumption | exact Below.refl _ _) d); clear hd))
      | (go_at_call 9; ((with_reducible refine (C9.out _ (HP.out _ (by first | assumption | exact Below.refl _ _)) (HQ.out _ (by first | assumption | exact Below.refl _ _))).mono ?_); rintro e w1 ⟨rfl, d, hd⟩; have hbw : Below w.heap.size w w1 := (by rw [hd]; exact bel_drewN (by first | assumption | exact Below.refl _ _) d); clear hd))
      | (go_at_call 10; (refine (live_any _).mono ?_; rintro e w1 ⟨rfl, hb⟩; have hbw : Below w.heap.size w w1 := bel_step (by first | assumption | exact Below.refl _ _) hb (Nat.le_refl _); clear hb))
      | fail)
    all_goals
      go_ret
      exact ⟨rfl, by assumption⟩
  · have h1 : decide (g ≤ win) = false := by simpa using hw
    have C7a := Lib.hid (fun V hA hB => by have h := C7.out win V hA hB; rw [h1] at h; exact h)
    rw [h1] at C8
    have hw2 : win < g := by omega
    clear h1 C7
    go_enter Try.func3, Try.ntmps3
    go_wp2_with (first
      | (go_at_call 5; ((with_reducible refine (C5a.out _).mono ?_); rintro e w1 ⟨rfl, rfl⟩))
      | (go_at_call 5; ((with_reducible refine (C5b.out _).mono ?_); rintro e w1 ⟨rfl, rfl⟩))
      | (go_at_call 6; ((with_reducible refine (C6.out _ (HP.out _ (by first | assumption | exact Below.refl _ _)) (HQ.out _ (by first | assumption | exact Below.refl _ _))).mono ?_); rintro e w1 ⟨rfl, hb⟩; have hbw : Below w.heap.size w w1 := bel_step (by first | assumption | exact Below.refl _ _) hb (Nat.le_refl _); clear hb))
      | (go_at_call 7; ((with_reducible refine (C7a.out _ (HP.out _ (by first | assumption | exact Below.refl _ _)) (HQ.out _ (by first | assumption | exact Below.refl _ _))).mono ?_); rintro e w1 ⟨rfl, hb⟩; have hbw : Below w.heap.size w w1 := bel_step (by first | assumption | exact Below.refl _ _) hb (Nat.le_refl _); clear hb))
      | (go_at_call 7; ((with_reducible refine (C7b.out _ (HP.out _ (by first | assumption | exact Below.refl _ _)) (HQ.out _ (by first | assumption | exact Below.refl _ _))).mono ?_); rintro e w1 ⟨rfl, hb⟩; have hbw : Below w.heap.size w w1 := bel_step (by first | assumption | exact Below.refl _ _) hb (Nat.le_refl _); clear hb))
      | (go_at_call 7; ((with_reducible refine (C7c.out _ (HP.out _ (by first | assumption | exact Below.refl _ _)) (HQ.out _ (by first | assumption | exact Below.refl _ _))).mono ?_); rintro e w1 ⟨rfl, hb⟩; have hbw : Below w.heap.size w w1 := bel_step (by first | assumption | exact Below.refl _ _) hb (Nat.le_refl _); clear hb))
      | (go_at_call 8; ((with_reducible refine (C8.out _ (HP.out _ (by first | assumption | exact Below.refl _ _)) (HQ.out _ (by first | assumption | exact Below.refl _ _))).mono ?_); rintro e w1 ⟨rfl, d, hd⟩; have hbw : Below w.heap.size w w1 := (by rw [hd]; exact bel_drewN (by first | assumption | exact Below.refl _ _) d); clear hd))
      | (go_at_call 9; ((with_reducible refine (C9.out _ (HP.out _ (by first | assumption | exact Below.refl _ _)) (HQ.out _ (by first | assumption | exact Below.refl _ _))).mono ?_); rintro e w1 ⟨rfl, d, hd⟩; have hbw : Below w.heap.size w w1 := (by rw [hd]; exact bel_drewN (by first | assumption | exact Below.refl _ _) d); clear hd))
      | (go_at_call 10; (refine (live_any _).mono ?_; rintro e w1 ⟨rfl, hb⟩; have hbw : Below w.heap.size w w1 := bel_step (by first | assumption | exact Below.refl _ _) hb (Nat.le_refl _); clear hb))
      | fail)
    all_goals
      go_ret
      exact ⟨rfl, by assumption⟩
theorem windows_any (A1 A2 : Option Addr) (n1 c1 n2 c2 : Nat) (p q : List Int) (win : Int) (w : World) (hp : p.length = n1) (hq : q.length = n2) (hc1 : n1 ≤ c1) (hcm1 : c1 ≤ maxLen) (hc2 : n2 ≤ c2) (hcm2 : c2 ≤ maxLen) (hA : RdI w A1 p) (hB : RdI w A2 q)
    (wp : ∀ x ∈ p, (Lit.int .i64 x).wf = true) (wq : ∀ x ∈ q, (Lit.int .i64 x).wf = true) (hwin : win ≤ 9223372036854775807) :
    Calls Try.prog 3 #[.slice A1 n1 c1, .slice A2 n2 c2, .int .i64 win] w fun e w' => e = .returned (.bool true) ∧ Below w.heap.size w w' :=
  windows_in A1 A2 n1 c1 n2 c2 (p.take 60) (q.take 60) win w (min n1 60) (min n2 60) rfl rfl (by simp; omega) (by simp; omega) hc1 hcm1 hc2 hcm2 (rdi_take hA 60) (rdi_take hB 60) (fun x hx => wp x (List.mem_of_mem_take hx)) (fun x hx => wq x (List.mem_of_mem_take hx)) hwin
end Go.Proofs.Ytdeligjggehdbaa
