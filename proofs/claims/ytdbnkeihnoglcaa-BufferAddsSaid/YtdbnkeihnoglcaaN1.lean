/- The order of messages: Compare, Or, order; the document's Ahead. -/
import Derived.Test.YtdbnkeihnoglcaaM6
namespace Go.Proofs.Ytdbnkeihnoglcaa
set_option linter.unusedSimpArgs false
open Go.RowKit Go.Maps
set_option linter.unusedVariables false
def cmpI (a b : Int) : Int := if a < b then -1 else if b < a then 1 else 0
def cmpS (a b : ByteArray) : Int := if lt a b then -1 else if lt b a then 1 else 0
def orI (p q : Int) : Int := if p = 0 then q else p
def ordM (a b : MG) : Int := orI (cmpI a.sq b.sq) (cmpS a.ky b.ky)
def aheadM (a b : MG) : Bool := decide (a.sq < b.sq) || (a.sq == b.sq && lt a.ky b.ky)
theorem nanI_any (a : Int) (w : World) : Calls Try.prog 70 #[.int .i64 a] w fun r w' => r = .returned (.bool false) ∧ w = w' := by
  go_enter Try.func70, Try.ntmps70
  go_wp2
  all_goals
    go_ret
    exact ⟨by first | rfl | simp, rfl⟩
theorem nanS_any (a : ByteArray) (w : World) : Calls Try.prog 71 #[.string a] w fun r w' => r = .returned (.bool false) ∧ w = w' := by
  go_enter Try.func71, Try.ntmps71
  go_wp2
  all_goals
    go_ret
    exact ⟨by first | rfl | simp, rfl⟩
theorem cmpI_any (a b : Int) (w : World) : Calls Try.prog 59 #[.int .i64 a, .int .i64 b] w fun r w' => r = .returned (.int .i64 (cmpI a b)) ∧ w = w' := by
  unfold cmpI
  go_enter Try.func59, Try.ntmps59
  by_cases h1 : a < b
  · go_wp2_with (go_at_call 70; refine (nanI_any _ _).mono ?_; rintro e w' ⟨rfl, rfl⟩)
    go_ret
    exact ⟨by simp [h1], rfl⟩
  · by_cases h2 : b < a
    · go_wp2_with (go_at_call 70; refine (nanI_any _ _).mono ?_; rintro e w' ⟨rfl, rfl⟩)
      go_ret
      exact ⟨by simp [h1, h2], rfl⟩
    · go_wp2_with (go_at_call 70; refine (nanI_any _ _).mono ?_; rintro e w' ⟨rfl, rfl⟩)
      go_ret
      exact ⟨by simp [h1, h2], rfl⟩
theorem cmpS_any (a b : ByteArray) (w : World) : Calls Try.prog 60 #[.string a, .string b] w fun r w' => r = .returned (.int .i64 (cmpS a b)) ∧ w = w' := by
  unfold cmpS lt
  go_enter Try.func60, Try.ntmps60
  cases h1 : Op.bytesLess a.toList b.toList
  · cases h2 : Op.bytesLess b.toList a.toList
    · have he : (a.toList == b.toList) = true := by
        rcases bl_tri a.toList b.toList with x | x | x
        · rw [h1] at x; cases x
        · rw [x]; simp
        · rw [h2] at x; cases x
      go_wp2_with (go_at_call 71; refine (nanS_any _ _).mono ?_; rintro e w' ⟨rfl, rfl⟩)
      go_ret
      exact ⟨by simp [h1, h2], rfl⟩
    · have he : (a.toList == b.toList) = false := by
        rw [beq_eq_false_iff_ne]; intro x; rw [x, bl_irr] at h2; cases h2
      go_wp2_with (go_at_call 71; refine (nanS_any _ _).mono ?_; rintro e w' ⟨rfl, rfl⟩)
      go_ret
      exact ⟨by simp [h1, h2], rfl⟩
  · go_wp2_with (go_at_call 71; refine (nanS_any _ _).mono ?_; rintro e w' ⟨rfl, rfl⟩)
    go_ret
    exact ⟨by simp [h1], rfl⟩
set_option maxHeartbeats 1000000 in
theorem or_any (g : Nat) (a b : Int) (t : TypeId) (w : World) (h : w.heap[g]? = some (.cells #[.int .i64 a, .int .i64 b] t (0, 0))) :
    Calls Try.prog 58 #[.slice (some ⟨g, 0, none⟩) 2 2] w fun r w' => r = .returned (.int .i64 (orI a b)) ∧ w = w' := by
  unfold orI
  obtain ⟨c0, c1, -, -⟩ := has_two h
  clear h
  go_enter Try.func58, Try.ntmps58
  go_wp2
  go_loopw [8] (fun iv wr => ((iv = .int .i64 0 ∧ w = wr) ∨ (iv = .int .i64 1 ∧ a = 0 ∧ w = wr) ∨ (iv = .int .i64 2 ∧ a = 0 ∧ b = 0 ∧ w = wr))) (fun i _ => 2 - (intOf i).toNat)
  case atStart => exact .inl ⟨rfl, rfl⟩
  case round =>
    rcases hrel with ⟨rfl, rfl⟩ | ⟨rfl, rfl, rfl⟩ | ⟨rfl, rfl, rfl, rfl⟩
    · by_cases e : a = 0
      · subst e
        go_wp2
        exact ⟨.inr (.inl (by simp)), by simp [intOf]⟩
      · have e2 : (a == 0) = false := by simpa using e
        go_wp2
        go_ret
        exact ⟨by simp [e], rfl⟩
    · by_cases e : b = 0
      · subst e
        go_wp2
        exact ⟨.inr (.inr (by simp)), by simp [intOf]⟩
      · have e2 : (b == 0) = false := by simpa using e
        go_wp2
        go_ret
        exact ⟨by simp, rfl⟩
    · go_wp2
      go_ret
      exact ⟨by simp, rfl⟩
set_option maxHeartbeats 1000000 in
theorem ahead_any (a b : MG) (w : World) :
    Calls Try.prog 22 #[MV a, MV b] w fun r w' => r = .returned (.bool (aheadM a b)) ∧ Below w.heap.size w w' := by
  have HB := Lib.hid (bel_alloc (alb w (MO a)) (MO b))
  obtain ⟨c0, c1, c2, c3, c4, c5⟩ := cells6 (two_new w (MO a) (MO b)).1
  obtain ⟨d0, d1, d2, d3, d4, d5⟩ := cells6 (two_new w (MO a) (MO b)).2
  unfold aheadM lt
  go_enter Try.func22, Try.ntmps22
  by_cases h1 : a.sq < b.sq
  · go_wp2
    all_goals
      go_ret
      exact ⟨by simp [h1], HB.out⟩
  · cases h2 : a.sq == b.sq
    · go_wp2
      all_goals
        go_ret
        exact ⟨by simp [h2, show ¬ a.sq < b.sq by omega], HB.out⟩
    · go_wp2
      all_goals
        go_ret
        exact ⟨by simp [h2, show ¬ a.sq < b.sq by omega], HB.out⟩
set_option maxRecDepth 10000 in
set_option maxHeartbeats 2000000 in
theorem order_any (a b : MG) (w : World) :
    Calls Try.prog 37 #[MV a, MV b] w fun r w' => r = .returned (.int .i64 (ordM a b)) ∧ Below w.heap.size w w' := by
  have H0 := Lib.hid (bel_alloc (alb w (MO a)) (MO b))
  have z1 := Lib.hid (two_new w (MO a) (MO b)).1
  have z2 := Lib.hid (two_new w (MO a) (MO b)).2
  unfold ordM
  have AI := Lib.hid (cmpI_any a.sq b.sq)
  have AS := Lib.hid (cmpS_any a.ky b.ky)
  generalize cmpI a.sq b.sq = p at *
  generalize cmpS a.ky b.ky = q at *
  go_enter Try.func37, Try.ntmps37
  go_wp2_with fail
  refine at_code (fun WN hWN => ?_)
  have H1 := Lib.hid (show Below w.heap.size w WN by rw [hWN]; exact H0.out)
  have KS := Lib.hid (show ∀ W, Below WN.heap.size WN W → Below WN.heap.size WN W ∧ W.cell? ⟨w.heap.size, 1, none⟩ = some (.int .i64 a.sq) ∧ W.cell? ⟨w.heap.size, 2, none⟩ = some (.string a.ky) ∧ W.cell? ⟨w.heap.size + 1, 1, none⟩ = some (.int .i64 b.sq) ∧ W.cell? ⟨w.heap.size + 1, 2, none⟩ = some (.string b.ky) from fun W h => by
    rw [hWN] at h
    obtain ⟨c0, c1, c2, c3, c4, c5⟩ := cells6 (keep_bel h z1.out)
    obtain ⟨d0, d1, d2, d3, d4, d5⟩ := cells6 (keep_bel h z2.out)
    exact ⟨by rw [hWN]; exact h, c1, c2, d1, d2⟩)
  clear hWN H0 z1 z2
  go_region_held3 (fun W => Below WN.heap.size WN W ∧ W.cell? ⟨w.heap.size, 1, none⟩ = some (.int .i64 a.sq) ∧ W.cell? ⟨w.heap.size, 2, none⟩ = some (.string a.ky) ∧ W.cell? ⟨w.heap.size + 1, 1, none⟩ = some (.int .i64 b.sq) ∧ W.cell? ⟨w.heap.size + 1, 2, none⟩ = some (.string b.ky)) (first | exact KS.out _ ((Below.refl _ _).drew) | exact KS.out _ (And.left ‹_›) | exact KS.out _ (bel_alloc (And.left ‹_›) _) | exact KS.out _ (by go_grown) | (trace_state; fail)) (first
    | (go_at_call 59; ((with_reducible refine (AI.out _).mono ?_); rintro e w1 ⟨rfl, rfl⟩))
    | (go_at_call 60; ((with_reducible refine (AS.out _).mono ?_); rintro e w1 ⟨rfl, rfl⟩))
    | (go_at_call 58; ((with_reducible refine (or_any _ p q 3 _ (by first | exact heap_alloc_new _ _ | exact keep_bel ((Below.refl _ _).drew) (heap_alloc_new _ _))).mono ?_); rintro e w1 ⟨rfl, rfl⟩)))
  all_goals
    rename_i hH
    have HW := Lib.hid (bel_trans H1.out hH.1)
    clear hH
    go_wp2
    go_ret
    exact ⟨by first | rfl | simp, HW.out⟩
end Go.Proofs.Ytdbnkeihnoglcaa
