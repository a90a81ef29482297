/- What must be whatever is asked; a window; the document's least window. -/
import Derived.Test.YtdeligjggehdbaaA9
namespace Go.Proofs.Ytdeligjggehdbaa
set_option linter.unusedSimpArgs false
open Go.RowKit Go.Maps
set_option linter.unusedVariables false

theorem fair_any (A1 A2 : Option Addr) (n1 c1 n2 c2 : Nat) (p q : List Int) (win : Int) (w : World) (hp : p.length = n1) (hq : q.length = n2) (h1 : n1 ≤ 1000000) (h2 : n2 ≤ 1000000) (hA : RdI w A1 p) (hB : RdI w A2 q)
    (wp : ∀ x ∈ p, (Lit.int .i64 x).wf = true) (wq : ∀ x ∈ q, (Lit.int .i64 x).wf = true) :
    Calls Try.prog 7 #[.slice A1 n1 c1, .slice A2 n2 c2, .int .i64 win] w fun e w' => e = .returned (.bool (decide (gF p q ≤ win))) ∧ Below w.heap.size w w' := by
  have C := Lib.hid (fun V hA hB => gap_any A1 A2 n1 c1 n2 c2 p q V hp hq h1 h2 hA hB wp wq)
  have HA := Lib.hid hA
  have HB := Lib.hid hB
  clear hp hq hA hB wp wq
  obtain ⟨g, hg⟩ : ∃ g, g = gF p q := ⟨_, rfl⟩
  rw [← hg] at C
  rw [← hg]
  clear hg
  go_enter Try.func7, Try.ntmps7
  go_wp2_with (go_at_call 6; refine (C.out _ HA.out HB.out).mono ?_; rintro e w1 ⟨rfl, hb⟩)
  go_ret
  exact ⟨rfl, hb⟩

set_option maxHeartbeats 1000000 in
theorem rgap_any (A1 A2 : Option Addr) (n1 c1 n2 c2 : Nat) (p q : List Int) (w : World) (hp : p.length = n1) (hq : q.length = n2) (h1 : n1 ≤ 1000000) (h2 : n2 ≤ 1000000) (hc : n1 ≤ c1) (hcm : c1 ≤ maxLen) (hA : RdI w A1 p) (hB : RdI w A2 q) :
    Calls Try.prog 9 #[.slice A1 n1 c1, .slice A2 n2 c2] w fun e w' => e = .returned (.int .i64 (gF p q)) ∧ ∃ m, w' = w.drewN m := by
  have hlo := gF_lo p q
  have hhi := gF_hi p q
  rw [hp] at hhi
  have C := Lib.hid (fun win V (hm : win ≤ 9223372036854775807) (hA : RdI V A1 p) (hB : RdI V A2 q) => rfair_any A1 A2 n1 c1 n2 c2 p q win V hp hq h1 h2 hc hcm hA hB hm)
  have HA := Lib.hid hA
  have HB := Lib.hid hB
  clear hp hq hA hB hcm
  obtain ⟨g, hg⟩ : ∃ g, g = gF p q := ⟨_, rfl⟩
  rw [← hg] at C hlo hhi
  rw [← hg]
  clear hg
  go_enter Try.func9, Try.ntmps9
  go_wp2
  go_loopw [5] (fun iv wr => ∃ (k : Int) (d : Nat), 1 ≤ k ∧ k ≤ g ∧ iv = .int .i64 k ∧ wr = w.drewN d) (fun i _ => (g - intOf i).toNat)
  case atStart => exact ⟨1, 0, by omega, hlo, rfl, rfl⟩
  case round =>
    obtain ⟨k, d, hk1, hk2, rfl, hwr⟩ := hrel
    have HW := Lib.hid hwr
    have HA2 : Hid (RdI wr A1 p) := Lib.hid (by rw [HW.out]; exact HA.out)
    have HB2 : Hid (RdI wr A2 q) := Lib.hid (by rw [HW.out]; exact HB.out)
    clear hwr
    by_cases h8 : g ≤ k
    · have hd : decide (g ≤ k) = true := by simpa using h8
      go_wp2_with (go_at_call 8; refine (C.out _ _ (by omega) HA2.out HB2.out).mono ?_; rintro e w1 ⟨rfl, d2, hw1⟩; rw [hd]; have HW1 := Lib.hid hw1; clear hw1)
      all_goals
        go_ret
        exact ⟨ret_eq (by omega), d + d2, by rw [HW1.out, HW.out, World.drewN_drewN]⟩
    · have hd : decide (g ≤ k) = false := by simpa using h8
      go_wp2_with (go_at_call 8; refine (C.out _ _ (by omega) HA2.out HB2.out).mono ?_; rintro e w1 ⟨rfl, d2, hw1⟩; rw [hd]; have HW1 := Lib.hid hw1; clear hw1)
      all_goals exact ⟨⟨k + 1, d + d2, by omega, by omega, rfl, by rw [HW1.out, HW.out, World.drewN_drewN]⟩, by simp [intOf]; omega⟩

theorem live_gap : gF [1, 2, 1, 1, 2] [1, 2] = 3 := by decide
theorem live_turns : (TF [1, 2, 1, 1, 2] [1, 2] 5).1.length = 2 := by decide
theorem live_rounds : (repF [1, 2] 3).length = 6 := by decide
theorem live_wf : (∀ x ∈ ([1, 2, 1, 1, 2] : List Int), (Lit.int .i64 x).wf = true) ∧ (∀ x ∈ ([1, 2] : List Int), (Lit.int .i64 x).wf = true) := by decide
theorem rdi_lit (w : World) (t : TypeId) (l : List Int) : RdI (w.alloc (.cells (l.map (Value.int .i64)).toArray t)) (some ⟨w.heap.size, 0, none⟩) l := by
  refine .inr ⟨w.heap.size, 0, rfl, by simp, fun j u hj => ?_⟩
  have := World.news_of_block (w := w.alloc (.cells (l.map (Value.int .i64)).toArray t)) (B := w.heap.size) (cs := (l.map (Value.int .i64)).toArray) (t := t) (fr := (0, 0)) (heap_alloc_new w _) j u (by simpa using hj)
  have hadd : (⟨w.heap.size, 0, none⟩ : Addr).add j = ⟨w.heap.size, 0 + j, none⟩ := by unfold Addr.add; split <;> simp_all
  rw [hadd] at this; exact this
set_option maxHeartbeats 1000000 in
theorem live_any (w : World) : Calls Try.prog 10 #[] w fun e w' => e = .returned (.bool true) ∧ Below w.heap.size w w' := by
  have HP : Hid (∀ V, Below (w.heap.size + 2) ((w.alloc (.cells #[.int .i64 1, .int .i64 2, .int .i64 1, .int .i64 1, .int .i64 2] 3)).alloc (.cells #[.int .i64 1, .int .i64 2] 3)) V → RdI V (some ⟨w.heap.size, 0, none⟩) [1, 2, 1, 1, 2] ∧ RdI V (some ⟨w.heap.size + 1, 0, none⟩) [1, 2]) := Lib.hid (fun V hV =>
    ⟨((rdi_lit w 3 [1, 2, 1, 1, 2]).later ((Below.refl _ _).alloc (Nat.le_refl _) (.cells #[.int .i64 1, .int .i64 2] 3))).later (hV.mono (by simp)), by have h := (rdi_lit (w.alloc (.cells #[.int .i64 1, .int .i64 2, .int .i64 1, .int .i64 1, .int .i64 2] 3)) 3 [1, 2]).later (hV.mono (by simp)); have e : (w.alloc (.cells #[.int .i64 1, .int .i64 2, .int .i64 1, .int .i64 1, .int .i64 2] 3)).heap.size = w.heap.size + 1 := (by simp); rw [e] at h; exact h⟩)
  have C6 := Lib.hid (fun V hA hB => (by have h := gap_any (some ⟨w.heap.size, 0, none⟩) (some ⟨w.heap.size + 1, 0, none⟩) 5 5 2 2 [1, 2, 1, 1, 2] [1, 2] V rfl rfl (by omega) (by omega) hA hB live_wf.1 live_wf.2; rw [live_gap] at h; exact h : Calls Try.prog 6 _ V _))
  have C7 := Lib.hid (fun V win hA hB => (by have h := fair_any (some ⟨w.heap.size, 0, none⟩) (some ⟨w.heap.size + 1, 0, none⟩) 5 5 2 2 [1, 2, 1, 1, 2] [1, 2] win V rfl rfl (by omega) (by omega) hA hB live_wf.1 live_wf.2; rw [live_gap] at h; exact h : Calls Try.prog 7 _ V _))
  have C11 := Lib.hid (fun V hA hB => turns_any (some ⟨w.heap.size, 0, none⟩) (some ⟨w.heap.size + 1, 0, none⟩) 5 5 2 2 [1, 2, 1, 1, 2] [1, 2] V rfl rfl (by omega) (by omega) (by omega) (by unfold maxLen; omega) hA hB live_wf.1 live_wf.2)
  have C14 := Lib.hid (fun V hB => rounds_yes (some ⟨w.heap.size + 1, 0, none⟩) 2 2 3 [1, 2] V rfl (by omega) (by omega) (by omega) (by omega) hB)
  go_enter Try.func10, Try.ntmps10
  go_wp2_with fail
  have K0 := Lib.hid (Below.refl (w.heap.size + 2) ((w.alloc (.cells #[.int .i64 1, .int .i64 2, .int .i64 1, .int .i64 1, .int .i64 2] 3)).alloc (.cells #[.int .i64 1, .int .i64 2] 3)))
  have hW : Below w.heap.size w ((w.alloc (.cells #[.int .i64 1, .int .i64 2, .int .i64 1, .int .i64 1, .int .i64 2] 3)).alloc (.cells #[.int .i64 1, .int .i64 2] 3)) := by go_grown
  have hs : w.heap.size + 2 = ((w.alloc (.cells #[.int .i64 1, .int .i64 2, .int .i64 1, .int .i64 1, .int .i64 2] 3)).alloc (.cells #[.int .i64 1, .int .i64 2] 3)).heap.size := by simp
  have HW := Lib.hid hW
  have HS := Lib.hid hs
  clear hW hs
  generalize (w.alloc (.cells #[.int .i64 1, .int .i64 2, .int .i64 1, .int .i64 1, .int .i64 2] 3)).alloc (.cells #[.int .i64 1, .int .i64 2] 3) = W at *
  refine (C6.out _ (HP.out _ K0.out).1 (HP.out _ K0.out).2).mono ?_
  rintro e w1 ⟨rfl, hb⟩
  have K1 := Lib.hid (K0.out.trans (hb.mono (by rw [HS.out]; exact Nat.le_refl _)))
  clear hb
  go_wp2_with fail
  refine (C7.out _ 3 (HP.out _ K1.out).1 (HP.out _ K1.out).2).mono ?_
  rintro e w2 ⟨rfl, hb⟩
  have K2 := Lib.hid (K1.out.trans (hb.mono (by rw [HS.out]; exact K1.out.size)))
  clear hb
  go_wp2_with fail
  refine (C7.out _ 2 (HP.out _ K2.out).1 (HP.out _ K2.out).2).mono ?_
  rintro e w3 ⟨rfl, hb⟩
  have K3 := Lib.hid (K2.out.trans (hb.mono (by rw [HS.out]; exact K2.out.size)))
  clear hb
  go_wp2_with fail
  refine (C11.out _ (HP.out _ K3.out).1 (HP.out _ K3.out).2).mono ?_
  rintro e w4 ⟨v, xs, rfl, hown, _, hb⟩
  have K4 := Lib.hid (K3.out.trans (hb.mono (by rw [HS.out]; exact K3.out.size)))
  rw [live_turns] at hown
  obtain ⟨g, cap, rfl, _, _⟩ := hown.form (by omega)
  clear hb hown
  go_wp2_with fail
  refine (C14.out _ (HP.out _ K4.out).2).mono ?_
  rintro e w5 ⟨v, rfl, hown, hb⟩
  have K5 := Lib.hid (K4.out.trans (hb.mono (by rw [HS.out]; exact K4.out.size)))
  rw [live_rounds] at hown
  obtain ⟨g, cap, rfl, _, _⟩ := hown.form (by omega)
  clear hb hown
  go_wp2_with fail
  go_ret
  exact ⟨rfl, HW.out.trans (K5.out.mono (by omega))⟩
end Go.Proofs.Ytdeligjggehdbaa
