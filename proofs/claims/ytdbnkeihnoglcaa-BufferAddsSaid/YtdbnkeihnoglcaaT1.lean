/- What a range has of a message: the document's. -/
import Derived.Test.YtdbnkeihnoglcaaR4
import Derived.Test.YtdbnkeihnoglcaaA4
namespace Go.Proofs.Ytdbnkeihnoglcaa
set_option linter.unusedSimpArgs false
open Go.RowKit Go.Maps
set_option linter.unusedVariables false
theorem bel2 {B : Nat} {W X : World} {g i j : Nat} (h : Below B W X) (hg : B ≤ g) (a b : Value) : Below B W ((X.setCell ⟨g, i, none⟩ a).setCell ⟨g, j, none⟩ b) :=
  Below.setCell (Below.setCell h (p := ⟨_, _, none⟩) hg _) (p := ⟨_, _, none⟩) hg _
set_option maxRecDepth 100000 in
set_option maxHeartbeats 8000000 in
theorem rclip_pt (m : MG) (a b : ByteArray) (w : World) (hp : isPt m.kd = true) :
    Calls Try.prog 51 #[MV m, .agg #[.string a, .string b]] w fun r w' => r = .returned (CV (clipM m a b)) ∧ Below w.heap.size w w' := by
  have h4 : (m.kd != 4) = true := by
    cases h : (m.kd == 4)
    · rw [bne, h]; rfl
    · rw [beq_iff_eq] at h; rw [h] at hp; cases hp
  have H0 := Lib.hid (bel_alloc (bel_alloc (alb w (MO m)) (rgc a b)) (MO zM))
  have q := three_new w (MO m) (rgc a b) (MO zM)
  have Z := Lib.hid (C3.mk q.1 q.2.1 q.2.2)
  clear q
  obtain ⟨c0, c1, c2, c3, c4, c5⟩ := cells6 Z.out.ha
  obtain ⟨d0, d1, -, -⟩ := has_two Z.out.hb
  obtain ⟨p, q, ok, hq⟩ : ∃ p q ok, meetF m.ky m.to a b = (p, q, ok) := ⟨_, _, _, rfl⟩
  have AM := Lib.hid (rmeet_any m.ky m.to a b)
  rw [hq] at AM
  clear hq
  cases e1 : sb a b
  · have HC := Lib.hid (show clipM m a b = (zM, false) by unfold clipM; rw [if_pos hp, e1]; rfl)
    rw [HC.out]
    go_enter Try.func51, Try.ntmps51
    go_wp2_with (first
      | (go_at_call 55; ((with_reducible refine (rpt_any m _).mono ?_); rintro e w1 ⟨rfl, b1⟩; rw [hp]; replace Z := Lib.hid (Z.out.later b1); replace H0 := Lib.hid (bel_trans H0.out b1); clear b1 c0 c1 c2 c3 c4 c5 d0 d1; obtain ⟨c0, c1, c2, c3, c4, c5⟩ := cells6 Z.out.ha; obtain ⟨d0, d1, -, -⟩ := has_two Z.out.hb; obtain ⟨f0, f1, f2, f3, f4, f5⟩ := mo_frozen6 Z.out.hc; obtain ⟨k0, k1, k2, k3, k4, k5⟩ := cells6 Z.out.hc))
      | (go_at_call 28; ((with_reducible refine (rright_any _ _ _).mono ?_); rintro e w2 ⟨rfl, b2⟩; rw [e1]; replace Z := Lib.hid (Z.out.later b2); replace H0 := Lib.hid (bel_trans H0.out b2); clear b2 c0 c1 c2 c3 c4 c5 d0 d1 f0 f1 f2 f3 f4 f5 k0 k1 k2 k3 k4 k5; obtain ⟨c0, c1, c2, c3, c4, c5⟩ := cells6 Z.out.ha; obtain ⟨d0, d1, -, -⟩ := has_two Z.out.hb; obtain ⟨f0, f1, f2, f3, f4, f5⟩ := mo_frozen6 Z.out.hc; obtain ⟨k0, k1, k2, k3, k4, k5⟩ := cells6 Z.out.hc))
      | (go_at_call 39; ((with_reducible refine (AM.out _).mono ?_); rintro e w3 ⟨rfl, b3⟩; replace b3 := bel_alloc b3 (rgc p q); have N3 := Lib.hid (heap_alloc_new w3 (rgc p q)); obtain ⟨n0, n1, -, -⟩ := has_two N3.out; replace Z := Lib.hid (Z.out.later b3); replace H0 := Lib.hid (bel_trans H0.out b3); clear b3 c0 c1 c2 c3 c4 c5 d0 d1 f0 f1 f2 f3 f4 f5 k0 k1 k2 k3 k4 k5; obtain ⟨c0, c1, c2, c3, c4, c5⟩ := cells6 Z.out.ha; obtain ⟨d0, d1, -, -⟩ := has_two Z.out.hb; obtain ⟨f0, f1, f2, f3, f4, f5⟩ := mo_frozen6 Z.out.hc; obtain ⟨k0, k1, k2, k3, k4, k5⟩ := cells6 Z.out.hc))
      | fail)
    refine bodyPost_ret (v := CV (zM, false)) (by simp [results, Try.results51, go_sem, k0, k1, k2, k3, k4, k5]) rfl ⟨rfl, ?_⟩
    exact bel6 H0.out (by omega) _ _ _ _ _ _
  · cases e2 : has a b m.ky
    · have HC := Lib.hid (show clipM m a b = (zM, false) by unfold clipM; rw [if_pos hp, e1, e2]; rfl)
      rw [HC.out]
      go_enter Try.func51, Try.ntmps51
      go_wp2_with (first
        | (go_at_call 55; ((with_reducible refine (rpt_any m _).mono ?_); rintro e w1 ⟨rfl, b1⟩; rw [hp]; replace Z := Lib.hid (Z.out.later b1); replace H0 := Lib.hid (bel_trans H0.out b1); clear b1 c0 c1 c2 c3 c4 c5 d0 d1; obtain ⟨c0, c1, c2, c3, c4, c5⟩ := cells6 Z.out.ha; obtain ⟨d0, d1, -, -⟩ := has_two Z.out.hb; obtain ⟨f0, f1, f2, f3, f4, f5⟩ := mo_frozen6 Z.out.hc; obtain ⟨k0, k1, k2, k3, k4, k5⟩ := cells6 Z.out.hc))
        | (go_at_call 28; ((with_reducible refine (rright_any _ _ _).mono ?_); rintro e w2 ⟨rfl, b2⟩; rw [e1]; replace Z := Lib.hid (Z.out.later b2); replace H0 := Lib.hid (bel_trans H0.out b2); clear b2 c0 c1 c2 c3 c4 c5 d0 d1 f0 f1 f2 f3 f4 f5 k0 k1 k2 k3 k4 k5; obtain ⟨c0, c1, c2, c3, c4, c5⟩ := cells6 Z.out.ha; obtain ⟨d0, d1, -, -⟩ := has_two Z.out.hb; obtain ⟨f0, f1, f2, f3, f4, f5⟩ := mo_frozen6 Z.out.hc; obtain ⟨k0, k1, k2, k3, k4, k5⟩ := cells6 Z.out.hc))
        | (go_at_call 29; ((with_reducible refine (rholds_any _ _ _ _).mono ?_); rintro e w4 ⟨rfl, b4⟩; rw [e2]; replace Z := Lib.hid (Z.out.later b4); replace H0 := Lib.hid (bel_trans H0.out b4); clear b4 c0 c1 c2 c3 c4 c5 d0 d1 f0 f1 f2 f3 f4 f5 k0 k1 k2 k3 k4 k5; obtain ⟨c0, c1, c2, c3, c4, c5⟩ := cells6 Z.out.ha; obtain ⟨d0, d1, -, -⟩ := has_two Z.out.hb; obtain ⟨f0, f1, f2, f3, f4, f5⟩ := mo_frozen6 Z.out.hc; obtain ⟨k0, k1, k2, k3, k4, k5⟩ := cells6 Z.out.hc))
        | (go_at_call 39; ((with_reducible refine (AM.out _).mono ?_); rintro e w3 ⟨rfl, b3⟩; replace b3 := bel_alloc b3 (rgc p q); have N3 := Lib.hid (heap_alloc_new w3 (rgc p q)); obtain ⟨n0, n1, -, -⟩ := has_two N3.out; replace Z := Lib.hid (Z.out.later b3); replace H0 := Lib.hid (bel_trans H0.out b3); clear b3 c0 c1 c2 c3 c4 c5 d0 d1 f0 f1 f2 f3 f4 f5 k0 k1 k2 k3 k4 k5; obtain ⟨c0, c1, c2, c3, c4, c5⟩ := cells6 Z.out.ha; obtain ⟨d0, d1, -, -⟩ := has_two Z.out.hb; obtain ⟨f0, f1, f2, f3, f4, f5⟩ := mo_frozen6 Z.out.hc; obtain ⟨k0, k1, k2, k3, k4, k5⟩ := cells6 Z.out.hc))
        | fail)
      refine bodyPost_ret (v := CV (zM, false)) (by simp [results, Try.results51, go_sem, k0, k1, k2, k3, k4, k5]) rfl ⟨rfl, ?_⟩
      exact bel6 H0.out (by omega) _ _ _ _ _ _
    · have HC := Lib.hid (show clipM m a b = (m, true) by unfold clipM; rw [if_pos hp, e1, e2]; rfl)
      rw [HC.out]
      go_enter Try.func51, Try.ntmps51
      go_wp2_with (first
        | (go_at_call 55; ((with_reducible refine (rpt_any m _).mono ?_); rintro e w1 ⟨rfl, b1⟩; rw [hp]; replace Z := Lib.hid (Z.out.later b1); replace H0 := Lib.hid (bel_trans H0.out b1); clear b1 c0 c1 c2 c3 c4 c5 d0 d1; obtain ⟨c0, c1, c2, c3, c4, c5⟩ := cells6 Z.out.ha; obtain ⟨d0, d1, -, -⟩ := has_two Z.out.hb; obtain ⟨f0, f1, f2, f3, f4, f5⟩ := mo_frozen6 Z.out.hc; obtain ⟨k0, k1, k2, k3, k4, k5⟩ := cells6 Z.out.hc))
        | (go_at_call 28; ((with_reducible refine (rright_any _ _ _).mono ?_); rintro e w2 ⟨rfl, b2⟩; rw [e1]; replace Z := Lib.hid (Z.out.later b2); replace H0 := Lib.hid (bel_trans H0.out b2); clear b2 c0 c1 c2 c3 c4 c5 d0 d1 f0 f1 f2 f3 f4 f5 k0 k1 k2 k3 k4 k5; obtain ⟨c0, c1, c2, c3, c4, c5⟩ := cells6 Z.out.ha; obtain ⟨d0, d1, -, -⟩ := has_two Z.out.hb; obtain ⟨f0, f1, f2, f3, f4, f5⟩ := mo_frozen6 Z.out.hc; obtain ⟨k0, k1, k2, k3, k4, k5⟩ := cells6 Z.out.hc))
        | (go_at_call 29; ((with_reducible refine (rholds_any _ _ _ _).mono ?_); rintro e w4 ⟨rfl, b4⟩; rw [e2]; replace Z := Lib.hid (Z.out.later b4); replace H0 := Lib.hid (bel_trans H0.out b4); clear b4 c0 c1 c2 c3 c4 c5 d0 d1 f0 f1 f2 f3 f4 f5 k0 k1 k2 k3 k4 k5; obtain ⟨c0, c1, c2, c3, c4, c5⟩ := cells6 Z.out.ha; obtain ⟨d0, d1, -, -⟩ := has_two Z.out.hb; obtain ⟨f0, f1, f2, f3, f4, f5⟩ := mo_frozen6 Z.out.hc; obtain ⟨k0, k1, k2, k3, k4, k5⟩ := cells6 Z.out.hc))
        | (go_at_call 39; ((with_reducible refine (AM.out _).mono ?_); rintro e w3 ⟨rfl, b3⟩; replace b3 := bel_alloc b3 (rgc p q); have N3 := Lib.hid (heap_alloc_new w3 (rgc p q)); obtain ⟨n0, n1, -, -⟩ := has_two N3.out; replace Z := Lib.hid (Z.out.later b3); replace H0 := Lib.hid (bel_trans H0.out b3); clear b3 c0 c1 c2 c3 c4 c5 d0 d1 f0 f1 f2 f3 f4 f5 k0 k1 k2 k3 k4 k5; obtain ⟨c0, c1, c2, c3, c4, c5⟩ := cells6 Z.out.ha; obtain ⟨d0, d1, -, -⟩ := has_two Z.out.hb; obtain ⟨f0, f1, f2, f3, f4, f5⟩ := mo_frozen6 Z.out.hc; obtain ⟨k0, k1, k2, k3, k4, k5⟩ := cells6 Z.out.hc))
        | fail)
      refine bodyPost_ret (v := CV (m, true)) (by simp [results, Try.results51, go_sem, k0, k1, k2, k3, k4, k5]) rfl ⟨rfl, ?_⟩
      exact bel6 H0.out (by omega) _ _ _ _ _ _
set_option maxRecDepth 100000 in
set_option maxHeartbeats 8000000 in
theorem rclip_no (m : MG) (a b : ByteArray) (w : World) (hp : isPt m.kd = false) (h4 : (m.kd == 4) = false) :
    Calls Try.prog 51 #[MV m, .agg #[.string a, .string b]] w fun r w' => r = .returned (CV (clipM m a b)) ∧ Below w.heap.size w w' := by
  have H0 := Lib.hid (bel_alloc (bel_alloc (alb w (MO m)) (rgc a b)) (MO zM))
  have q := three_new w (MO m) (rgc a b) (MO zM)
  have Z := Lib.hid (C3.mk q.1 q.2.1 q.2.2)
  clear q
  obtain ⟨c0, c1, c2, c3, c4, c5⟩ := cells6 Z.out.ha
  obtain ⟨d0, d1, -, -⟩ := has_two Z.out.hb
  obtain ⟨p, q, ok, hq⟩ : ∃ p q ok, meetF m.ky m.to a b = (p, q, ok) := ⟨_, _, _, rfl⟩
  have AM := Lib.hid (rmeet_any m.ky m.to a b)
  rw [hq] at AM
  clear hq
  have h4' : (m.kd != 4) = true := by rw [bne, h4]; rfl
  have HC := Lib.hid (show clipM m a b = (zM, false) by unfold clipM; rw [hp, h4]; rfl)
  rw [HC.out]
  go_enter Try.func51, Try.ntmps51
  go_wp2_with (first
    | (go_at_call 55; ((with_reducible refine (rpt_any m _).mono ?_); rintro e w1 ⟨rfl, b1⟩; rw [hp]; replace Z := Lib.hid (Z.out.later b1); replace H0 := Lib.hid (bel_trans H0.out b1); clear b1 c0 c1 c2 c3 c4 c5 d0 d1; obtain ⟨c0, c1, c2, c3, c4, c5⟩ := cells6 Z.out.ha; obtain ⟨d0, d1, -, -⟩ := has_two Z.out.hb; obtain ⟨f0, f1, f2, f3, f4, f5⟩ := mo_frozen6 Z.out.hc; obtain ⟨k0, k1, k2, k3, k4, k5⟩ := cells6 Z.out.hc))
    | (go_at_call 39; ((with_reducible refine (AM.out _).mono ?_); rintro e w3 ⟨rfl, b3⟩; replace b3 := bel_alloc b3 (rgc p q); have N3 := Lib.hid (heap_alloc_new w3 (rgc p q)); obtain ⟨n0, n1, -, -⟩ := has_two N3.out; replace Z := Lib.hid (Z.out.later b3); replace H0 := Lib.hid (bel_trans H0.out b3); clear b3 c0 c1 c2 c3 c4 c5 d0 d1 f0 f1 f2 f3 f4 f5 k0 k1 k2 k3 k4 k5; obtain ⟨c0, c1, c2, c3, c4, c5⟩ := cells6 Z.out.ha; obtain ⟨d0, d1, -, -⟩ := has_two Z.out.hb; obtain ⟨f0, f1, f2, f3, f4, f5⟩ := mo_frozen6 Z.out.hc; obtain ⟨k0, k1, k2, k3, k4, k5⟩ := cells6 Z.out.hc))
    | fail)
  refine bodyPost_ret (v := CV (zM, false)) (by simp [results, Try.results51, go_sem, k0, k1, k2, k3, k4, k5]) rfl ⟨rfl, ?_⟩
  exact bel6 H0.out (by omega) _ _ _ _ _ _
set_option maxRecDepth 100000 in
set_option maxHeartbeats 8000000 in
theorem rclip_cl (m : MG) (a b : ByteArray) (w : World) (hp : isPt m.kd = false) (h4 : (m.kd == 4) = true) :
    Calls Try.prog 51 #[MV m, .agg #[.string a, .string b]] w fun r w' => r = .returned (CV (clipM m a b)) ∧ Below w.heap.size w w' := by
  have h4' : (m.kd != 4) = false := by rw [bne, h4]; rfl
  have h44 : m.kd = 4 := by simpa using h4
  have h4n : ¬ ¬ m.kd = 4 := fun h => h h44
  clear h44
  have H0 := Lib.hid (bel_alloc (bel_alloc (alb w (MO m)) (rgc a b)) (MO zM))
  have q := three_new w (MO m) (rgc a b) (MO zM)
  have Z := Lib.hid (C3.mk q.1 q.2.1 q.2.2)
  clear q
  obtain ⟨c0, c1, c2, c3, c4, c5⟩ := cells6 Z.out.ha
  obtain ⟨d0, d1, -, -⟩ := has_two Z.out.hb
  obtain ⟨p, q, ok, hq⟩ : ∃ p q ok, meetF m.ky m.to a b = (p, q, ok) := ⟨_, _, _, rfl⟩
  have AM := Lib.hid (rmeet_any m.ky m.to a b)
  rw [hq] at AM
  cases ok
  · have HC := Lib.hid (show clipM m a b = (zM, false) by unfold clipM; rw [hp, h4, hq]; rfl)
    rw [HC.out]
    clear hq h4
    go_enter Try.func51, Try.ntmps51
    go_wp2_with (first
      | (go_at_call 55; ((with_reducible refine (rpt_any m _).mono ?_); rintro e w1 ⟨rfl, b1⟩; rw [hp]; replace Z := Lib.hid (Z.out.later b1); replace H0 := Lib.hid (bel_trans H0.out b1); clear b1 c0 c1 c2 c3 c4 c5 d0 d1; obtain ⟨c0, c1, c2, c3, c4, c5⟩ := cells6 Z.out.ha; obtain ⟨d0, d1, -, -⟩ := has_two Z.out.hb; obtain ⟨f0, f1, f2, f3, f4, f5⟩ := mo_frozen6 Z.out.hc; obtain ⟨k0, k1, k2, k3, k4, k5⟩ := cells6 Z.out.hc))
      | (go_at_call 39; ((with_reducible refine (AM.out _).mono ?_); rintro e w3 ⟨rfl, b3⟩; replace b3 := bel_alloc b3 (rgc p q); have N3 := Lib.hid (heap_alloc_new w3 (rgc p q)); obtain ⟨n0, n1, -, -⟩ := has_two N3.out; replace Z := Lib.hid (Z.out.later b3); replace H0 := Lib.hid (bel_trans H0.out b3); clear b3 c0 c1 c2 c3 c4 c5 d0 d1 f0 f1 f2 f3 f4 f5 k0 k1 k2 k3 k4 k5; obtain ⟨c0, c1, c2, c3, c4, c5⟩ := cells6 Z.out.ha; obtain ⟨d0, d1, -, -⟩ := has_two Z.out.hb; obtain ⟨f0, f1, f2, f3, f4, f5⟩ := mo_frozen6 Z.out.hc; obtain ⟨k0, k1, k2, k3, k4, k5⟩ := cells6 Z.out.hc))
      | fail)
    refine bodyPost_ret (v := CV (zM, false)) (by simp [results, Try.results51, go_sem, k0, k1, k2, k3, k4, k5]) rfl ⟨rfl, ?_⟩
    exact bel6 H0.out (by omega) _ _ _ _ _ _
  · have HC := Lib.hid (show clipM m a b = (overM m p q, true) by unfold clipM; rw [hp, h4, hq]; rfl)
    rw [HC.out]
    clear hq h4
    go_enter Try.func51, Try.ntmps51
    go_wp2_with (first
      | (go_at_call 55; ((with_reducible refine (rpt_any m _).mono ?_); rintro e w1 ⟨rfl, b1⟩; rw [hp]; replace Z := Lib.hid (Z.out.later b1); replace H0 := Lib.hid (bel_trans H0.out b1); clear b1 c0 c1 c2 c3 c4 c5 d0 d1; obtain ⟨c0, c1, c2, c3, c4, c5⟩ := cells6 Z.out.ha; obtain ⟨d0, d1, -, -⟩ := has_two Z.out.hb; obtain ⟨f0, f1, f2, f3, f4, f5⟩ := mo_frozen6 Z.out.hc; obtain ⟨k0, k1, k2, k3, k4, k5⟩ := cells6 Z.out.hc))
      | (go_at_call 39; ((with_reducible refine (AM.out _).mono ?_); rintro e w3 ⟨rfl, b3⟩; replace b3 := bel_alloc b3 (rgc p q); have N3 := Lib.hid (heap_alloc_new w3 (rgc p q)); obtain ⟨n0, n1, -, -⟩ := has_two N3.out; replace Z := Lib.hid (Z.out.later b3); replace H0 := Lib.hid (bel_trans H0.out b3); clear b3 c0 c1 c2 c3 c4 c5 d0 d1 f0 f1 f2 f3 f4 f5 k0 k1 k2 k3 k4 k5; obtain ⟨c0, c1, c2, c3, c4, c5⟩ := cells6 Z.out.ha; obtain ⟨d0, d1, -, -⟩ := has_two Z.out.hb; obtain ⟨f0, f1, f2, f3, f4, f5⟩ := mo_frozen6 Z.out.hc; obtain ⟨k0, k1, k2, k3, k4, k5⟩ := cells6 Z.out.hc; obtain ⟨-, -, j2, j3, -, -⟩ := mo_frozen6 Z.out.ha))
      | fail)
    refine bodyPost_ret (v := CV (overM m p q, true)) (by simp [results, Try.results51, go_sem, k0, k1, k2, k3, k4, k5, overM]) rfl ⟨rfl, ?_⟩
    exact bel6 (bel2 H0.out (Nat.le_refl _) _ _) (by omega) _ _ _ _ _ _
theorem rclip_any (m : MG) (a b : ByteArray) (w : World) :
    Calls Try.prog 51 #[MV m, .agg #[.string a, .string b]] w fun r w' => r = .returned (CV (clipM m a b)) ∧ Below w.heap.size w w' := by
  cases hp : isPt m.kd
  · cases h4 : (m.kd == 4)
    · exact rclip_no m a b w hp h4
    · exact rclip_cl m a b w hp h4
  · exact rclip_pt m a b w hp
end Go.Proofs.Ytdbnkeihnoglcaa
