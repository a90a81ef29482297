/- Texts of the proof, one behind the other. -/
import Derived.Test.YtilnpeekajnlhaaOk11
import Derived.Test.YtilnpeekajnlhaaOk02
import Derived.Deep.RegionHeld3
set_option linter.unusedVariables false
set_option linter.unusedSimpArgs false
namespace Go.Proofs.Ytilnpeekajnlhaa
open Go.RowKit Go.Maps
theorem bel2 {B : Nat} {W X : World} {g i j : Nat} (h : Below B W X) (hg : B ≤ g) (a b : Value) : Below B W ((X.setCell ⟨g, i, none⟩ a).setCell ⟨g, j, none⟩ b) :=
  Below.setCell (Below.setCell h (p := ⟨_, _, none⟩) hg _) (p := ⟨_, _, none⟩) hg _
set_option maxRecDepth 100000 in
set_option maxHeartbeats 8000000 in
theorem rclip_pt (m : MG) (a b : ByteArray) (w : World) (hp : isPt m.kd = true) :
    Calls Try.prog 74 #[MV m, .agg #[.string a, .string b]] w fun r w' => r = .returned (CV (clipM m a b)) ∧ Below w.heap.size w w' := by
  have h4 : (m.kd != 4) = true := by
    cases h : (m.kd == 4)
    · rw [bne, h]; rfl
    · rw [beq_iff_eq] at h; rw [h] at hp; cases hp
  have H0 := Lib.hid (bel_alloc (bel_alloc (alb w (MO m)) (rgc a b)) (MO zM))
  have q := three_new w (MO m) (rgc a b) (MO zM)
  have Z := Lib.hid (C3.mk q.1 q.2.1 q.2.2)
  clear q
  obtain ⟨c0, c1, c2, c3, c4, c5⟩ := cells6 Z.out.ha
  obtain ⟨d0, d1, -, -⟩ := has_two Z.out.hb
  obtain ⟨p, q, ok, hq⟩ : ∃ p q ok, meetF m.ky m.to a b = (p, q, ok) := ⟨_, _, _, rfl⟩
  have AM := Lib.hid (rmeet_any m.ky m.to a b)
  rw [hq] at AM
  clear hq
  cases e1 : sb a b
  · have HC := Lib.hid (show clipM m a b = (zM, false) by unfold clipM; rw [if_pos hp, e1]; rfl)
    rw [HC.out]
    go_enter Try.func74, Try.ntmps74
    go_wp2_with (first
      | (go_at_call 97; ((with_reducible refine (rpt_any m _).mono ?_); rintro e w1 ⟨rfl, b1⟩; rw [hp]; replace Z := Lib.hid (Z.out.later b1); replace H0 := Lib.hid (bel_trans H0.out b1); clear b1 c0 c1 c2 c3 c4 c5 d0 d1; obtain ⟨c0, c1, c2, c3, c4, c5⟩ := cells6 Z.out.ha; obtain ⟨d0, d1, -, -⟩ := has_two Z.out.hb; obtain ⟨f0, f1, f2, f3, f4, f5⟩ := mo_frozen6 Z.out.hc; obtain ⟨k0, k1, k2, k3, k4, k5⟩ := cells6 Z.out.hc))
      | (go_at_call 58; ((with_reducible refine (rright_any _ _ _).mono ?_); rintro e w2 ⟨rfl, b2⟩; rw [e1]; replace Z := Lib.hid (Z.out.later b2); replace H0 := Lib.hid (bel_trans H0.out b2); clear b2 c0 c1 c2 c3 c4 c5 d0 d1 f0 f1 f2 f3 f4 f5 k0 k1 k2 k3 k4 k5; obtain ⟨c0, c1, c2, c3, c4, c5⟩ := cells6 Z.out.ha; obtain ⟨d0, d1, -, -⟩ := has_two Z.out.hb; obtain ⟨f0, f1, f2, f3, f4, f5⟩ := mo_frozen6 Z.out.hc; obtain ⟨k0, k1, k2, k3, k4, k5⟩ := cells6 Z.out.hc))
      | (go_at_call 68; ((with_reducible refine (AM.out _).mono ?_); rintro e w3 ⟨rfl, b3⟩; replace b3 := bel_alloc b3 (rgc p q); have N3 := Lib.hid (heap_alloc_new w3 (rgc p q)); obtain ⟨n0, n1, -, -⟩ := has_two N3.out; replace Z := Lib.hid (Z.out.later b3); replace H0 := Lib.hid (bel_trans H0.out b3); clear b3 c0 c1 c2 c3 c4 c5 d0 d1 f0 f1 f2 f3 f4 f5 k0 k1 k2 k3 k4 k5; obtain ⟨c0, c1, c2, c3, c4, c5⟩ := cells6 Z.out.ha; obtain ⟨d0, d1, -, -⟩ := has_two Z.out.hb; obtain ⟨f0, f1, f2, f3, f4, f5⟩ := mo_frozen6 Z.out.hc; obtain ⟨k0, k1, k2, k3, k4, k5⟩ := cells6 Z.out.hc))
      | fail)
    refine bodyPost_ret (v := CV (zM, false)) (by simp [results, Try.results74, go_sem, k0, k1, k2, k3, k4, k5]) rfl ⟨rfl, ?_⟩
    exact bel6 H0.out (by omega) _ _ _ _ _ _
  · cases e2 : has a b m.ky
    · have HC := Lib.hid (show clipM m a b = (zM, false) by unfold clipM; rw [if_pos hp, e1, e2]; rfl)
      rw [HC.out]
      go_enter Try.func74, Try.ntmps74
      go_wp2_with (first
        | (go_at_call 97; ((with_reducible refine (rpt_any m _).mono ?_); rintro e w1 ⟨rfl, b1⟩; rw [hp]; replace Z := Lib.hid (Z.out.later b1); replace H0 := Lib.hid (bel_trans H0.out b1); clear b1 c0 c1 c2 c3 c4 c5 d0 d1; obtain ⟨c0, c1, c2, c3, c4, c5⟩ := cells6 Z.out.ha; obtain ⟨d0, d1, -, -⟩ := has_two Z.out.hb; obtain ⟨f0, f1, f2, f3, f4, f5⟩ := mo_frozen6 Z.out.hc; obtain ⟨k0, k1, k2, k3, k4, k5⟩ := cells6 Z.out.hc))
        | (go_at_call 58; ((with_reducible refine (rright_any _ _ _).mono ?_); rintro e w2 ⟨rfl, b2⟩; rw [e1]; replace Z := Lib.hid (Z.out.later b2); replace H0 := Lib.hid (bel_trans H0.out b2); clear b2 c0 c1 c2 c3 c4 c5 d0 d1 f0 f1 f2 f3 f4 f5 k0 k1 k2 k3 k4 k5; obtain ⟨c0, c1, c2, c3, c4, c5⟩ := cells6 Z.out.ha; obtain ⟨d0, d1, -, -⟩ := has_two Z.out.hb; obtain ⟨f0, f1, f2, f3, f4, f5⟩ := mo_frozen6 Z.out.hc; obtain ⟨k0, k1, k2, k3, k4, k5⟩ := cells6 Z.out.hc))
        | (go_at_call 26; ((with_reducible refine (rholds_any _ _ _ _).mono ?_); rintro e w4 ⟨rfl, b4⟩; rw [e2]; replace Z := Lib.hid (Z.out.later b4); replace H0 := Lib.hid (bel_trans H0.out b4); clear b4 c0 c1 c2 c3 c4 c5 d0 d1 f0 f1 f2 f3 f4 f5 k0 k1 k2 k3 k4 k5; obtain ⟨c0, c1, c2, c3, c4, c5⟩ := cells6 Z.out.ha; obtain ⟨d0, d1, -, -⟩ := has_two Z.out.hb; obtain ⟨f0, f1, f2, f3, f4, f5⟩ := mo_frozen6 Z.out.hc; obtain ⟨k0, k1, k2, k3, k4, k5⟩ := cells6 Z.out.hc))
        | (go_at_call 68; ((with_reducible refine (AM.out _).mono ?_); rintro e w3 ⟨rfl, b3⟩; replace b3 := bel_alloc b3 (rgc p q); have N3 := Lib.hid (heap_alloc_new w3 (rgc p q)); obtain ⟨n0, n1, -, -⟩ := has_two N3.out; replace Z := Lib.hid (Z.out.later b3); replace H0 := Lib.hid (bel_trans H0.out b3); clear b3 c0 c1 c2 c3 c4 c5 d0 d1 f0 f1 f2 f3 f4 f5 k0 k1 k2 k3 k4 k5; obtain ⟨c0, c1, c2, c3, c4, c5⟩ := cells6 Z.out.ha; obtain ⟨d0, d1, -, -⟩ := has_two Z.out.hb; obtain ⟨f0, f1, f2, f3, f4, f5⟩ := mo_frozen6 Z.out.hc; obtain ⟨k0, k1, k2, k3, k4, k5⟩ := cells6 Z.out.hc))
        | fail)
      refine bodyPost_ret (v := CV (zM, false)) (by simp [results, Try.results74, go_sem, k0, k1, k2, k3, k4, k5]) rfl ⟨rfl, ?_⟩
      exact bel6 H0.out (by omega) _ _ _ _ _ _
    · have HC := Lib.hid (show clipM m a b = (m, true) by unfold clipM; rw [if_pos hp, e1, e2]; rfl)
      rw [HC.out]
      go_enter Try.func74, Try.ntmps74
      go_wp2_with (first
        | (go_at_call 97; ((with_reducible refine (rpt_any m _).mono ?_); rintro e w1 ⟨rfl, b1⟩; rw [hp]; replace Z := Lib.hid (Z.out.later b1); replace H0 := Lib.hid (bel_trans H0.out b1); clear b1 c0 c1 c2 c3 c4 c5 d0 d1; obtain ⟨c0, c1, c2, c3, c4, c5⟩ := cells6 Z.out.ha; obtain ⟨d0, d1, -, -⟩ := has_two Z.out.hb; obtain ⟨f0, f1, f2, f3, f4, f5⟩ := mo_frozen6 Z.out.hc; obtain ⟨k0, k1, k2, k3, k4, k5⟩ := cells6 Z.out.hc))
        | (go_at_call 58; ((with_reducible refine (rright_any _ _ _).mono ?_); rintro e w2 ⟨rfl, b2⟩; rw [e1]; replace Z := Lib.hid (Z.out.later b2); replace H0 := Lib.hid (bel_trans H0.out b2); clear b2 c0 c1 c2 c3 c4 c5 d0 d1 f0 f1 f2 f3 f4 f5 k0 k1 k2 k3 k4 k5; obtain ⟨c0, c1, c2, c3, c4, c5⟩ := cells6 Z.out.ha; obtain ⟨d0, d1, -, -⟩ := has_two Z.out.hb; obtain ⟨f0, f1, f2, f3, f4, f5⟩ := mo_frozen6 Z.out.hc; obtain ⟨k0, k1, k2, k3, k4, k5⟩ := cells6 Z.out.hc))
        | (go_at_call 26; ((with_reducible refine (rholds_any _ _ _ _).mono ?_); rintro e w4 ⟨rfl, b4⟩; rw [e2]; replace Z := Lib.hid (Z.out.later b4); replace H0 := Lib.hid (bel_trans H0.out b4); clear b4 c0 c1 c2 c3 c4 c5 d0 d1 f0 f1 f2 f3 f4 f5 k0 k1 k2 k3 k4 k5; obtain ⟨c0, c1, c2, c3, c4, c5⟩ := cells6 Z.out.ha; obtain ⟨d0, d1, -, -⟩ := has_two Z.out.hb; obtain ⟨f0, f1, f2, f3, f4, f5⟩ := mo_frozen6 Z.out.hc; obtain ⟨k0, k1, k2, k3, k4, k5⟩ := cells6 Z.out.hc))
        | (go_at_call 68; ((with_reducible refine (AM.out _).mono ?_); rintro e w3 ⟨rfl, b3⟩; replace b3 := bel_alloc b3 (rgc p q); have N3 := Lib.hid (heap_alloc_new w3 (rgc p q)); obtain ⟨n0, n1, -, -⟩ := has_two N3.out; replace Z := Lib.hid (Z.out.later b3); replace H0 := Lib.hid (bel_trans H0.out b3); clear b3 c0 c1 c2 c3 c4 c5 d0 d1 f0 f1 f2 f3 f4 f5 k0 k1 k2 k3 k4 k5; obtain ⟨c0, c1, c2, c3, c4, c5⟩ := cells6 Z.out.ha; obtain ⟨d0, d1, -, -⟩ := has_two Z.out.hb; obtain ⟨f0, f1, f2, f3, f4, f5⟩ := mo_frozen6 Z.out.hc; obtain ⟨k0, k1, k2, k3, k4, k5⟩ := cells6 Z.out.hc))
        | fail)
      refine bodyPost_ret (v := CV (m, true)) (by simp [results, Try.results74, go_sem, k0, k1, k2, k3, k4, k5]) rfl ⟨rfl, ?_⟩
      exact bel6 H0.out (by omega) _ _ _ _ _ _
set_option maxRecDepth 100000 in
set_option maxHeartbeats 8000000 in
theorem rclip_no (m : MG) (a b : ByteArray) (w : World) (hp : isPt m.kd = false) (h4 : (m.kd == 4) = false) :
    Calls Try.prog 74 #[MV m, .agg #[.string a, .string b]] w fun r w' => r = .returned (CV (clipM m a b)) ∧ Below w.heap.size w w' := by
  have H0 := Lib.hid (bel_alloc (bel_alloc (alb w (MO m)) (rgc a b)) (MO zM))
  have q := three_new w (MO m) (rgc a b) (MO zM)
  have Z := Lib.hid (C3.mk q.1 q.2.1 q.2.2)
  clear q
  obtain ⟨c0, c1, c2, c3, c4, c5⟩ := cells6 Z.out.ha
  obtain ⟨d0, d1, -, -⟩ := has_two Z.out.hb
  obtain ⟨p, q, ok, hq⟩ : ∃ p q ok, meetF m.ky m.to a b = (p, q, ok) := ⟨_, _, _, rfl⟩
  have AM := Lib.hid (rmeet_any m.ky m.to a b)
  rw [hq] at AM
  clear hq
  have h4' : (m.kd != 4) = true := by rw [bne, h4]; rfl
  have HC := Lib.hid (show clipM m a b = (zM, false) by unfold clipM; rw [hp, h4]; rfl)
  rw [HC.out]
  go_enter Try.func74, Try.ntmps74
  go_wp2_with (first
    | (go_at_call 97; ((with_reducible refine (rpt_any m _).mono ?_); rintro e w1 ⟨rfl, b1⟩; rw [hp]; replace Z := Lib.hid (Z.out.later b1); replace H0 := Lib.hid (bel_trans H0.out b1); clear b1 c0 c1 c2 c3 c4 c5 d0 d1; obtain ⟨c0, c1, c2, c3, c4, c5⟩ := cells6 Z.out.ha; obtain ⟨d0, d1, -, -⟩ := has_two Z.out.hb; obtain ⟨f0, f1, f2, f3, f4, f5⟩ := mo_frozen6 Z.out.hc; obtain ⟨k0, k1, k2, k3, k4, k5⟩ := cells6 Z.out.hc))
    | (go_at_call 68; ((with_reducible refine (AM.out _).mono ?_); rintro e w3 ⟨rfl, b3⟩; replace b3 := bel_alloc b3 (rgc p q); have N3 := Lib.hid (heap_alloc_new w3 (rgc p q)); obtain ⟨n0, n1, -, -⟩ := has_two N3.out; replace Z := Lib.hid (Z.out.later b3); replace H0 := Lib.hid (bel_trans H0.out b3); clear b3 c0 c1 c2 c3 c4 c5 d0 d1 f0 f1 f2 f3 f4 f5 k0 k1 k2 k3 k4 k5; obtain ⟨c0, c1, c2, c3, c4, c5⟩ := cells6 Z.out.ha; obtain ⟨d0, d1, -, -⟩ := has_two Z.out.hb; obtain ⟨f0, f1, f2, f3, f4, f5⟩ := mo_frozen6 Z.out.hc; obtain ⟨k0, k1, k2, k3, k4, k5⟩ := cells6 Z.out.hc))
    | fail)
  refine bodyPost_ret (v := CV (zM, false)) (by simp [results, Try.results74, go_sem, k0, k1, k2, k3, k4, k5]) rfl ⟨rfl, ?_⟩
  exact bel6 H0.out (by omega) _ _ _ _ _ _
set_option maxRecDepth 100000 in
set_option maxHeartbeats 8000000 in
theorem rclip_cl (m : MG) (a b : ByteArray) (w : World) (hp : isPt m.kd = false) (h4 : (m.kd == 4) = true) :
    Calls Try.prog 74 #[MV m, .agg #[.string a, .string b]] w fun r w' => r = .returned (CV (clipM m a b)) ∧ Below w.heap.size w w' := by
  have h4' : (m.kd != 4) = false := by rw [bne, h4]; rfl
  have h44 : m.kd = 4 := by simpa using h4
  have h4n : ¬ ¬ m.kd = 4 := fun h => h h44
  clear h44
  have H0 := Lib.hid (bel_alloc (bel_alloc (alb w (MO m)) (rgc a b)) (MO zM))
  have q := three_new w (MO m) (rgc a b) (MO zM)
  have Z := Lib.hid (C3.mk q.1 q.2.1 q.2.2)
  clear q
  obtain ⟨c0, c1, c2, c3, c4, c5⟩ := cells6 Z.out.ha
  obtain ⟨d0, d1, -, -⟩ := has_two Z.out.hb
  obtain ⟨p, q, ok, hq⟩ : ∃ p q ok, meetF m.ky m.to a b = (p, q, ok) := ⟨_, _, _, rfl⟩
  have AM := Lib.hid (rmeet_any m.ky m.to a b)
  rw [hq] at AM
  cases ok
  · have HC := Lib.hid (show clipM m a b = (zM, false) by unfold clipM; rw [hp, h4, hq]; rfl)
    rw [HC.out]
    clear hq h4
    go_enter Try.func74, Try.ntmps74
    go_wp2_with (first
      | (go_at_call 97; ((with_reducible refine (rpt_any m _).mono ?_); rintro e w1 ⟨rfl, b1⟩; rw [hp]; replace Z := Lib.hid (Z.out.later b1); replace H0 := Lib.hid (bel_trans H0.out b1); clear b1 c0 c1 c2 c3 c4 c5 d0 d1; obtain ⟨c0, c1, c2, c3, c4, c5⟩ := cells6 Z.out.ha; obtain ⟨d0, d1, -, -⟩ := has_two Z.out.hb; obtain ⟨f0, f1, f2, f3, f4, f5⟩ := mo_frozen6 Z.out.hc; obtain ⟨k0, k1, k2, k3, k4, k5⟩ := cells6 Z.out.hc))
      | (go_at_call 68; ((with_reducible refine (AM.out _).mono ?_); rintro e w3 ⟨rfl, b3⟩; replace b3 := bel_alloc b3 (rgc p q); have N3 := Lib.hid (heap_alloc_new w3 (rgc p q)); obtain ⟨n0, n1, -, -⟩ := has_two N3.out; replace Z := Lib.hid (Z.out.later b3); replace H0 := Lib.hid (bel_trans H0.out b3); clear b3 c0 c1 c2 c3 c4 c5 d0 d1 f0 f1 f2 f3 f4 f5 k0 k1 k2 k3 k4 k5; obtain ⟨c0, c1, c2, c3, c4, c5⟩ := cells6 Z.out.ha; obtain ⟨d0, d1, -, -⟩ := has_two Z.out.hb; obtain ⟨f0, f1, f2, f3, f4, f5⟩ := mo_frozen6 Z.out.hc; obtain ⟨k0, k1, k2, k3, k4, k5⟩ := cells6 Z.out.hc))
      | fail)
    refine bodyPost_ret (v := CV (zM, false)) (by simp [results, Try.results74, go_sem, k0, k1, k2, k3, k4, k5]) rfl ⟨rfl, ?_⟩
    exact bel6 H0.out (by omega) _ _ _ _ _ _
  · have HC := Lib.hid (show clipM m a b = (overM m p q, true) by unfold clipM; rw [hp, h4, hq]; rfl)
    rw [HC.out]
    clear hq h4
    go_enter Try.func74, Try.ntmps74
    go_wp2_with (first
      | (go_at_call 97; ((with_reducible refine (rpt_any m _).mono ?_); rintro e w1 ⟨rfl, b1⟩; rw [hp]; replace Z := Lib.hid (Z.out.later b1); replace H0 := Lib.hid (bel_trans H0.out b1); clear b1 c0 c1 c2 c3 c4 c5 d0 d1; obtain ⟨c0, c1, c2, c3, c4, c5⟩ := cells6 Z.out.ha; obtain ⟨d0, d1, -, -⟩ := has_two Z.out.hb; obtain ⟨f0, f1, f2, f3, f4, f5⟩ := mo_frozen6 Z.out.hc; obtain ⟨k0, k1, k2, k3, k4, k5⟩ := cells6 Z.out.hc))
      | (go_at_call 68; ((with_reducible refine (AM.out _).mono ?_); rintro e w3 ⟨rfl, b3⟩; replace b3 := bel_alloc b3 (rgc p q); have N3 := Lib.hid (heap_alloc_new w3 (rgc p q)); obtain ⟨n0, n1, -, -⟩ := has_two N3.out; replace Z := Lib.hid (Z.out.later b3); replace H0 := Lib.hid (bel_trans H0.out b3); clear b3 c0 c1 c2 c3 c4 c5 d0 d1 f0 f1 f2 f3 f4 f5 k0 k1 k2 k3 k4 k5; obtain ⟨c0, c1, c2, c3, c4, c5⟩ := cells6 Z.out.ha; obtain ⟨d0, d1, -, -⟩ := has_two Z.out.hb; obtain ⟨f0, f1, f2, f3, f4, f5⟩ := mo_frozen6 Z.out.hc; obtain ⟨k0, k1, k2, k3, k4, k5⟩ := cells6 Z.out.hc; obtain ⟨-, -, j2, j3, -, -⟩ := mo_frozen6 Z.out.ha))
      | fail)
    refine bodyPost_ret (v := CV (overM m p q, true)) (by simp [results, Try.results74, go_sem, k0, k1, k2, k3, k4, k5, overM]) rfl ⟨rfl, ?_⟩
    exact bel6 (bel2 H0.out (Nat.le_refl _) _ _) (by omega) _ _ _ _ _ _
theorem rclip_any (m : MG) (a b : ByteArray) (w : World) :
    Calls Try.prog 74 #[MV m, .agg #[.string a, .string b]] w fun r w' => r = .returned (CV (clipM m a b)) ∧ Below w.heap.size w w' := by
  cases hp : isPt m.kd
  · cases h4 : (m.kd == 4)
    · exact rclip_no m a b w hp h4
    · exact rclip_cl m a b w hp h4
  · exact rclip_pt m a b w hp
end Go.Proofs.Ytilnpeekajnlhaa
namespace Go.Proofs.Ytilnpeekajnlhaa
open Go.RowKit Go.Maps
/-- What is answered: messages, in memory that was there or is new. -/
def RowsOf (L : List MG) (w : World) (r : Ending) (w' : World) : Prop := (∃ A' c', r = .returned (.slice A' L.length c') ∧ EG.Rd w' A' L) ∧ Below w.heap.size w w'
theorem bel_of_nil2 {w w' : World} {A : Option Addr} (h : w.grownBy w' (RE.fp A 0)) : Below w.heap.size w w' := ⟨h.os, h.tape, h.output, h.size, fun i hi => h.block i hi (by simp [RE.fp])⟩
set_option maxRecDepth 100000 in
set_option maxHeartbeats 8000000 in
theorem rrest_out (m : MG) (a b : ByteArray) (w : World) (hok : (clipM m a b).2 = false) :
    Calls Try.prog 76 #[MV m, .agg #[.string a, .string b]] w (RowsOf (restM m a b) w) := by
  have H0 := Lib.hid (bel_alloc (bel_alloc (alb w (MO m)) (rgc a b)) (.cells #[] 62))
  have Z0 := Lib.hid (two_bel (two_new w (MO m) (rgc a b)) (alb _ (.cells #[] 62)))
  obtain ⟨c0, c1, c2, c3, c4, c5⟩ := cells6 Z0.out.1
  obtain ⟨d0, d1, -, -⟩ := has_two Z0.out.2
  obtain ⟨p, hq⟩ : ∃ p, clipM m a b = (p, false) := ⟨(clipM m a b).1, by rw [← hok]⟩
  have AC := Lib.hid (rclip_any m a b)
  rw [hq] at AC
  by_cases h1 : 1 ≤ m.kd
  · by_cases h2 : m.kd ≤ 4
    · have HR := Lib.hid (show restM m a b = [m] by
        unfold restM restQ; rw [hq]
        by_cases h4 : m.kd = 4
        · rw [h4]; rfl
        · have : isPt m.kd = true := by
            have : m.kd = 1 ∨ m.kd = 2 ∨ m.kd = 3 := by omega
            rcases this with e | e | e <;> rw [e] <;> rfl
          rw [this]; rfl)
      rw [HR.out]
      clear hq hok HR
      have H1 := H0
      go_enter Try.func76, Try.ntmps76
      go_wp2_with (first
        | (go_at_call 74; ((with_reducible refine (AC.out _).mono ?_); rintro e w2 ⟨rfl, b2⟩; replace b2 := bel_alloc b2 (MO p); have ZP := Lib.hid (heap_alloc_new w2 (MO p)); replace Z0 := Lib.hid (two_bel (W2 := w2.alloc (MO p)) Z0.out b2); replace H0 := Lib.hid (bel_trans H0.out b2); clear b2 d0 d1; clear  c0 c1 c2 c3 c4 c5; obtain ⟨c0, c1, c2, c3, c4, c5⟩ := cells6 Z0.out.1; have BX := Lib.hid (bel_alloc H0.out (MO m)); have RLX : Hid (EG.Rd ((w2.alloc (MO p)).alloc (MO m)) (some ⟨w2.heap.size + 1, 0, none⟩) [m]) := Lib.hid (lit1 _ m (by simp)); obtain ⟨p0, p1, p2, p3, p4, p5⟩ := cells6 ZP.out))
        | (at_builtin; refine RE.wpList_put EG _ rfl (.tmp 27) (.tmp 29) rfl (base := w.heap.size) (some ⟨w.heap.size + 1 + 1, 0, none⟩) 0 0 [] _ 1 1 [m] rfl rfl (.inl ⟨rfl, rfl⟩) rfl (by omega) BX.out.size rfl (by omega) RLX.out ?_; intro A2 q2 w3 r1 r2 r3; have R1 := Lib.hid r1; have B3 := Lib.hid (BX.out.trans (RE.Row.below (E := EG) (W := w) (l := []) r2 (.inl ⟨rfl, rfl⟩) (Nat.le_refl _) BX.out.size)); clear r1 r2 r3)
        | fail)
      go_ret
      exact ⟨⟨_, _, rfl, R1.out.rd⟩, B3.out⟩
    · have HR := Lib.hid (show restM m a b = [] by
        unfold restM restQ; rw [hq]
        have e1 : isPt m.kd = false := by unfold isPt; simp; omega
        have e2 : (m.kd == 4) = false := by simp; omega
        rw [e1, e2]; rfl)
      rw [HR.out]
      clear hq hok HR
      go_enter Try.func76, Try.ntmps76
      go_wp2_with (first
        | (go_at_call 74; ((with_reducible refine (AC.out _).mono ?_); rintro e w2 ⟨rfl, b2⟩; replace b2 := bel_alloc b2 (MO p); have ZP := Lib.hid (heap_alloc_new w2 (MO p)); replace Z0 := Lib.hid (two_bel (W2 := w2.alloc (MO p)) Z0.out b2); replace H0 := Lib.hid (bel_trans H0.out b2); clear b2 d0 d1; clear  c0 c1 c2 c3 c4 c5; obtain ⟨c0, c1, c2, c3, c4, c5⟩ := cells6 Z0.out.1; obtain ⟨p0, p1, p2, p3, p4, p5⟩ := cells6 ZP.out))
        | fail)
      go_ret
      exact ⟨⟨_, _, rfl, .inl rfl⟩, H0.out⟩
  · have HR := Lib.hid (show restM m a b = [] by
      unfold restM restQ; rw [hq]
      have e1 : isPt m.kd = false := by unfold isPt; simp; omega
      have e2 : (m.kd == 4) = false := by simp; omega
      rw [e1, e2]; rfl)
    rw [HR.out]
    clear hq hok HR
    go_enter Try.func76, Try.ntmps76
    go_wp2_with (first
      | (go_at_call 74; ((with_reducible refine (AC.out _).mono ?_); rintro e w2 ⟨rfl, b2⟩; replace b2 := bel_alloc b2 (MO p); have ZP := Lib.hid (heap_alloc_new w2 (MO p)); replace Z0 := Lib.hid (two_bel (W2 := w2.alloc (MO p)) Z0.out b2); replace H0 := Lib.hid (bel_trans H0.out b2); clear b2 d0 d1; clear  c0 c1 c2 c3 c4 c5; obtain ⟨c0, c1, c2, c3, c4, c5⟩ := cells6 Z0.out.1; obtain ⟨p0, p1, p2, p3, p4, p5⟩ := cells6 ZP.out))
      | fail)
    go_ret
    exact ⟨⟨_, _, rfl, .inl rfl⟩, H0.out⟩
set_option maxRecDepth 100000 in
set_option maxHeartbeats 8000000 in
theorem rrest_pt (m : MG) (a b : ByteArray) (w : World) (hok : (clipM m a b).2 = true) (hp : isPt m.kd = true) :
    Calls Try.prog 76 #[MV m, .agg #[.string a, .string b]] w (RowsOf (restM m a b) w) := by
  have H0 := Lib.hid (bel_alloc (bel_alloc (alb w (MO m)) (rgc a b)) (.cells #[] 62))
  have Z0 := Lib.hid (two_bel (two_new w (MO m) (rgc a b)) (alb _ (.cells #[] 62)))
  obtain ⟨c0, c1, c2, c3, c4, c5⟩ := cells6 Z0.out.1
  obtain ⟨d0, d1, -, -⟩ := has_two Z0.out.2
  obtain ⟨p, hq⟩ : ∃ p, clipM m a b = (p, true) := ⟨(clipM m a b).1, by rw [← hok]⟩
  have AC := Lib.hid (rclip_any m a b)
  rw [hq] at AC
  have h4 : (m.kd != 4) = true := by
    cases h : (m.kd == 4)
    · rw [bne, h]; rfl
    · rw [beq_iff_eq] at h; rw [h] at hp; cases hp
  have HR := Lib.hid (show restM m a b = [] by unfold restM restQ; rw [hq, hp]; rfl)
  rw [HR.out]
  clear hq hok HR
  go_enter Try.func76, Try.ntmps76
  go_wp2_with (first
    | (go_at_call 74; ((with_reducible refine (AC.out _).mono ?_); rintro e w2 ⟨rfl, b2⟩; replace b2 := bel_alloc b2 (MO p); have ZP := Lib.hid (heap_alloc_new w2 (MO p)); replace Z0 := Lib.hid (two_bel (W2 := w2.alloc (MO p)) Z0.out b2); replace H0 := Lib.hid (bel_trans H0.out b2); clear b2 d0 d1; clear  c0 c1 c2 c3 c4 c5; obtain ⟨c0, c1, c2, c3, c4, c5⟩ := cells6 Z0.out.1; obtain ⟨p0, p1, p2, p3, p4, p5⟩ := cells6 ZP.out))
    | fail)
  go_ret
  exact ⟨⟨_, _, rfl, .inl rfl⟩, H0.out⟩
set_option maxRecDepth 100000 in
set_option maxHeartbeats 8000000 in
theorem rrest_cl (m : MG) (a b : ByteArray) (w : World) (hok : (clipM m a b).2 = true) (h4 : (m.kd == 4) = true) :
    Calls Try.prog 76 #[MV m, .agg #[.string a, .string b]] w (RowsOf (restM m a b) w) := by
  have H0 := Lib.hid (bel_alloc (bel_alloc (alb w (MO m)) (rgc a b)) (.cells #[] 62))
  have Z0 := Lib.hid (two_bel (two_new w (MO m) (rgc a b)) (alb _ (.cells #[] 62)))
  obtain ⟨c0, c1, c2, c3, c4, c5⟩ := cells6 Z0.out.1
  obtain ⟨d0, d1, -, -⟩ := has_two Z0.out.2
  obtain ⟨p, hq⟩ : ∃ p, clipM m a b = (p, true) := ⟨(clipM m a b).1, by rw [← hok]⟩
  have AC := Lib.hid (rclip_any m a b)
  rw [hq] at AC
  have h4' : (m.kd != 4) = false := by rw [bne, h4]; rfl
  have h44 : m.kd = 4 := by simpa using h4
  have h4n : ¬ ¬ m.kd = 4 := fun h => h h44
  have HR := Lib.hid (show restM m a b = (if lt m.ky p.ky then [overM m m.ky p.ky] else []) ++ (if bef p.to m.to then [overM m p.to m.to] else []) by
    unfold restM restQ; rw [hq, show isPt m.kd = false by rw [h44]; rfl, h4]; rfl)
  rw [HR.out]
  clear hq hok HR h44 h4
  go_enter Try.func76, Try.ntmps76
  cases e5 : lt m.ky p.ky
  · have e5' := e5
    unfold lt at e5'
    cases e6 : bef p.to m.to
    · go_wp2_with (first
        | (go_at_call 74; ((with_reducible refine (AC.out _).mono ?_); rintro e w2 ⟨rfl, b2⟩; replace b2 := bel_alloc b2 (MO p); have ZP := Lib.hid (heap_alloc_new w2 (MO p)); replace Z0 := Lib.hid (two_bel (W2 := w2.alloc (MO p)) Z0.out b2); replace H0 := Lib.hid (bel_trans H0.out b2); clear b2 d0 d1; clear  c0 c1 c2 c3 c4 c5; obtain ⟨c0, c1, c2, c3, c4, c5⟩ := cells6 Z0.out.1; obtain ⟨p0, p1, p2, p3, p4, p5⟩ := cells6 ZP.out))
        | (go_at_call 98; ((with_reducible refine (rbefore_any _ _ _).mono ?_); rintro e w4 ⟨rfl, rfl⟩; rw [e6]))
        | fail)
      go_ret
      exact ⟨⟨_, _, rfl, .inl rfl⟩, H0.out⟩
    · go_wp2_with (first
        | (go_at_call 74; ((with_reducible refine (AC.out _).mono ?_); rintro e w2 ⟨rfl, b2⟩; replace b2 := bel_alloc b2 (MO p); have ZP := Lib.hid (heap_alloc_new w2 (MO p)); replace Z0 := Lib.hid (two_bel (W2 := w2.alloc (MO p)) Z0.out b2); replace H0 := Lib.hid (bel_trans H0.out b2); clear b2 d0 d1; clear  c0 c1 c2 c3 c4 c5; obtain ⟨c0, c1, c2, c3, c4, c5⟩ := cells6 Z0.out.1; obtain ⟨p0, p1, p2, p3, p4, p5⟩ := cells6 ZP.out; have BX := Lib.hid (bel_alloc (alb (w2.alloc (MO p)) (MO (overM m p.to m.to))) (MO (overM m p.to m.to))); have RLX : Hid (EG.Rd ((((w2.alloc (MO p))).alloc (MO (overM m p.to m.to))).alloc (MO (overM m p.to m.to))) (some ⟨w2.heap.size + 1 + 1, 0, none⟩) [overM m p.to m.to]) := Lib.hid (lit1 _ _ (by simp)); ))
        | (go_at_call 98; ((with_reducible refine (rbefore_any _ _ _).mono ?_); rintro e w4 ⟨rfl, rfl⟩; rw [e6]))
        | (at_builtin; refine RE.wpList_put EG _ rfl (.tmp 58) (.tmp 60) rfl (base := w.heap.size) (some ⟨w.heap.size + 1 + 1, 0, none⟩) 0 0 [] _ 1 1 [overM m p.to m.to] rfl rfl (.inl ⟨rfl, rfl⟩) rfl (by omega) (bel_trans H0.out BX.out).size rfl (by omega) RLX.out ?_; intro A58 q58 w58 r1 r2 r3; have R58 := Lib.hid r1; have HZ := Lib.hid ((bel_trans H0.out BX.out).trans (RE.Row.below (E := EG) r2 ((.inl ⟨rfl, rfl⟩ : EG.Row w w.heap.size (some ⟨w.heap.size + 1 + 1, 0, none⟩) [] 0)) (Nat.le_refl _) (bel_trans H0.out BX.out).size)); clear r1 r2 r3)
        | fail)
      go_ret
      exact ⟨⟨_, _, rfl, R58.out.rd⟩, HZ.out⟩
  · have e5' := e5
    unfold lt at e5'
    cases e6 : bef p.to m.to
    · go_wp2_with (first
        | (go_at_call 74; ((with_reducible refine (AC.out _).mono ?_); rintro e w2 ⟨rfl, b2⟩; replace b2 := bel_alloc b2 (MO p); have ZP := Lib.hid (heap_alloc_new w2 (MO p)); replace Z0 := Lib.hid (two_bel (W2 := w2.alloc (MO p)) Z0.out b2); replace H0 := Lib.hid (bel_trans H0.out b2); clear b2 d0 d1; clear  c0 c1 c2 c3 c4 c5; obtain ⟨c0, c1, c2, c3, c4, c5⟩ := cells6 Z0.out.1; obtain ⟨p0, p1, p2, p3, p4, p5⟩ := cells6 ZP.out; have BX := Lib.hid (bel_alloc (alb (w2.alloc (MO p)) (MO (overM m m.ky p.ky))) (MO (overM m m.ky p.ky))); have RLX : Hid (EG.Rd ((((w2.alloc (MO p))).alloc (MO (overM m m.ky p.ky))).alloc (MO (overM m m.ky p.ky))) (some ⟨w2.heap.size + 1 + 1, 0, none⟩) [overM m m.ky p.ky]) := Lib.hid (lit1 _ _ (by simp)); ))
        | (go_at_call 98; ((with_reducible refine (rbefore_any _ _ _).mono ?_); rintro e w4 ⟨rfl, rfl⟩; rw [e6]))
        | (at_builtin; refine RE.wpList_put EG _ rfl (.tmp 45) (.tmp 47) rfl (base := w.heap.size) (some ⟨w.heap.size + 1 + 1, 0, none⟩) 0 0 [] _ 1 1 [overM m m.ky p.ky] rfl rfl (.inl ⟨rfl, rfl⟩) rfl (by omega) (bel_trans H0.out BX.out).size rfl (by omega) RLX.out ?_; intro A45 q45 w45 r1 r2 r3; have R45 := Lib.hid r1; have bu := bel_trans BX.out (bel_of_nil2 r2); replace ZP := Lib.hid (keep_bel bu ZP.out); replace Z0 := Lib.hid (two_bel Z0.out bu); replace H0 := Lib.hid (bel_trans H0.out bu); clear bu BX RLX c0 c1 c2 c3 c4 c5 p0 p1 p2 p3 p4 p5; obtain ⟨c0, c1, c2, c3, c4, c5⟩ := cells6 Z0.out.1; obtain ⟨p0, p1, p2, p3, p4, p5⟩ := cells6 ZP.out; clear r1 r2 r3)
        | fail)
      go_ret
      exact ⟨⟨_, _, rfl, R45.out.rd⟩, H0.out⟩
    · go_wp2_with (first
        | (go_at_call 74; ((with_reducible refine (AC.out _).mono ?_); rintro e w2 ⟨rfl, b2⟩; replace b2 := bel_alloc b2 (MO p); have ZP := Lib.hid (heap_alloc_new w2 (MO p)); replace Z0 := Lib.hid (two_bel (W2 := w2.alloc (MO p)) Z0.out b2); replace H0 := Lib.hid (bel_trans H0.out b2); clear b2 d0 d1; clear  c0 c1 c2 c3 c4 c5; obtain ⟨c0, c1, c2, c3, c4, c5⟩ := cells6 Z0.out.1; obtain ⟨p0, p1, p2, p3, p4, p5⟩ := cells6 ZP.out; have BX := Lib.hid (bel_alloc (alb (w2.alloc (MO p)) (MO (overM m m.ky p.ky))) (MO (overM m m.ky p.ky))); have RLX : Hid (EG.Rd ((((w2.alloc (MO p))).alloc (MO (overM m m.ky p.ky))).alloc (MO (overM m m.ky p.ky))) (some ⟨w2.heap.size + 1 + 1, 0, none⟩) [overM m m.ky p.ky]) := Lib.hid (lit1 _ _ (by simp)); ))
        | (go_at_call 98; ((with_reducible refine (rbefore_any _ _ _).mono ?_); rintro e w4 ⟨rfl, rfl⟩; rw [e6]))
        | (at_builtin; refine RE.wpList_put EG _ rfl (.tmp 45) (.tmp 47) rfl (base := w.heap.size) (some ⟨w.heap.size + 1 + 1, 0, none⟩) 0 0 [] _ 1 1 [overM m m.ky p.ky] rfl rfl (.inl ⟨rfl, rfl⟩) rfl (by omega) (bel_trans H0.out BX.out).size rfl (by omega) RLX.out ?_; intro A45 q45 w45 r1 r2 r3; have R45 := Lib.hid r1; have bu := bel_trans BX.out (bel_of_nil2 r2); replace ZP := Lib.hid (keep_bel bu ZP.out); replace Z0 := Lib.hid (two_bel Z0.out bu); replace H0 := Lib.hid (bel_trans H0.out bu); clear bu BX RLX c0 c1 c2 c3 c4 c5 p0 p1 p2 p3 p4 p5; obtain ⟨c0, c1, c2, c3, c4, c5⟩ := cells6 Z0.out.1; obtain ⟨p0, p1, p2, p3, p4, p5⟩ := cells6 ZP.out; have BX := Lib.hid (bel_alloc (alb w45 (MO (overM m p.to m.to))) (MO (overM m p.to m.to))); have RLX : Hid (EG.Rd (((w45).alloc (MO (overM m p.to m.to))).alloc (MO (overM m p.to m.to))) (some ⟨w45.heap.size + 1, 0, none⟩) [overM m p.to m.to]) := Lib.hid (lit1 _ _ (by simp)); have RW := Lib.hid (R45.out.later BX.out); have p3b := bel_later (alb w45 (MO m)) p3; clear r1 r2 r3)
        | (at_builtin; refine RE.wpList_put EG _ rfl (.tmp 58) (.tmp 60) rfl (base := w.heap.size) A45 1 q45 [overM m m.ky p.ky] _ 1 1 [overM m p.to m.to] rfl rfl RW.out rfl (by omega) (bel_trans H0.out BX.out).size rfl (by omega) RLX.out ?_; intro A58 q58 w58 r1 r2 r3; have R58 := Lib.hid r1; have HZ := Lib.hid ((bel_trans H0.out BX.out).trans (RE.Row.below (E := EG) r2 (RW.out) (Nat.le_refl _) (bel_trans H0.out BX.out).size)); clear r1 r2 r3)
        | fail)
      go_ret
      exact ⟨⟨_, _, rfl, R58.out.rd⟩, HZ.out⟩
theorem rrest_any (m : MG) (a b : ByteArray) (w : World) :
    Calls Try.prog 76 #[MV m, .agg #[.string a, .string b]] w (RowsOf (restM m a b) w) := by
  cases hok : (clipM m a b).2
  · exact rrest_out m a b w hok
  · cases hp : isPt m.kd
    · cases h4 : (m.kd == 4)
      · exfalso
        have : clipM m a b = (zM, false) := by unfold clipM; rw [hp, h4]; rfl
        rw [this] at hok; cases hok
      · exact rrest_cl m a b w hok h4
    · exact rrest_pt m a b w hok hp
end Go.Proofs.Ytilnpeekajnlhaa
namespace Go.Proofs.Ytilnpeekajnlhaa
def minS (a b : ByteArray) : ByteArray := if lt b a then b else a
def accS (q : ByteArray × ByteArray) (x : MG) : ByteArray × ByteArray := (minS q.1 (spF x), lastS q.2 (spT x))
def spanL : List MG → ByteArray × ByteArray
  | [] => (emptyS, emptyS)
  | x :: xs => xs.foldl accS (spF x, spT x)
theorem acc_next (q : ByteArray × ByteArray) {xs : List MG} {k : Nat} {x : MG} (h : xs[k]? = some x) : (xs.take (k + 1)).foldl accS q = accS ((xs.take k).foldl accS q) x := by
  rw [List.take_add_one, h]; simp [List.foldl_append]
theorem nlt_trans {a b c : ByteArray} (h1 : lt b a = false) (h2 : lt c b = false) : lt c a = false := by
  cases h : lt c a
  · rfl
  · exfalso
    unfold lt at *
    rcases bl_tri c.toList b.toList with x | x | x
    · rw [x] at h2; cases h2
    · rw [x, h1] at h; cases h
    · have := bl_trans _ _ _ x h; rw [h1] at this; cases this
theorem min_left (a b : ByteArray) : lt a (minS a b) = false := by
  unfold minS; split
  · next h => exact bl_asymm _ _ h
  · exact lt_irr a
theorem min_right (a b : ByteArray) : lt b (minS a b) = false := by
  unfold minS; split
  · exact lt_irr b
  · next h => simpa using h
theorem nbef_trans {a b c : ByteArray} (h1 : bef b a = false) (h2 : bef c b = false) : bef c a = false := by
  unfold bef at *
  cases ea : emp a <;> cases eb : emp b <;> cases ec : emp c <;> simp_all
  exact nlt_trans h1 h2
theorem last_left (a b : ByteArray) : bef (lastS a b) a = false := by
  unfold lastS; split
  · next h => exact bef_asymm a b h
  · unfold bef; cases emp a <;> simp [lt_irr]
theorem last_right (a b : ByteArray) : bef (lastS a b) b = false := by
  unfold lastS; split
  · unfold bef; cases emp b <;> simp [lt_irr]
  · next h => simpa using h
theorem lt_of_nlt {a b c : ByteArray} (h1 : lt b a = false) (h2 : lt b c = true) : lt a c = true := by
  unfold lt at *
  rcases bl_tri a.toList b.toList with x | x | x
  · exact bl_trans _ _ _ x h2
  · rw [x]; exact h2
  · rw [x] at h1; cases h1
theorem lt_of_lt_nlt {a b c : ByteArray} (h1 : lt a b = true) (h2 : lt c b = false) : lt a c = true := by
  unfold lt at *
  rcases bl_tri b.toList c.toList with x | x | x
  · exact bl_trans _ _ _ h1 x
  · rw [← x]; exact h1
  · rw [x] at h2; cases h2
theorem sb_mono {f t F T : ByteArray} (h1 : lt f F = false) (h2 : bef T t = false) (h : sb f t = true) : sb F T = true := by
  unfold sb bef at *
  cases eT : emp T
  · rw [eT] at h2
    cases et : emp t
    · simp [et] at h2 h ⊢
      exact lt_of_lt_nlt (lt_of_nlt h1 h) h2
    · simp [et] at h2
  · rfl
theorem has_mono {f t F T s : ByteArray} (h1 : lt f F = false) (h2 : bef T t = false) (h : has f t s = true) : has F T s = true := by
  unfold has at *
  simp only [Bool.and_eq_true, Bool.not_eq_true'] at *
  refine ⟨nlt_trans h1 h.1, ?_⟩
  have := h.2
  unfold sb bef at *
  cases eT : emp T
  · rw [eT] at h2
    cases et : emp t
    · simp [et] at h2 this ⊢
      exact lt_of_lt_nlt this h2
    · simp [et] at h2
  · rfl
theorem tou_has {x : MG} {s : ByteArray} (h : touB x s = true) : has (spF x) (spT x) s = true := by
  unfold touB at h
  unfold spF spT
  cases e : isPt x.kd
  · cases e4 : x.kd == 4
    · simp [e, e4] at h
    · simpa [e, e4] using h
  · simp only [e, if_true] at h ⊢
    rw [has_point]; exact h
structure SpOk (q0 q : ByteArray × ByteArray) (xs : List MG) : Prop where
  lo0 : lt q0.1 q.1 = false
  hi0 : bef q.2 q0.2 = false
  lo : ∀ x ∈ xs, lt (spF x) q.1 = false
  hi : ∀ x ∈ xs, bef q.2 (spT x) = false
  lo1 : q.1 = q0.1 ∨ ∃ x ∈ xs, q.1 = spF x
  hi1 : q.2 = q0.2 ∨ ∃ x ∈ xs, q.2 = spT x
theorem fold_ok (xs : List MG) (q0 : ByteArray × ByteArray) : SpOk q0 (xs.foldl accS q0) xs := by
  induction xs generalizing q0 with
  | nil =>
    refine ⟨lt_irr _, ?_, (fun x h => by cases h), (fun x h => by cases h), .inl rfl, .inl rfl⟩
    show bef q0.2 q0.2 = false
    unfold bef; cases emp q0.2 <;> simp [lt_irr]
  | cons x xs ih =>
    have h := ih (accS q0 x)
    rw [List.foldl_cons]
    refine ⟨nlt_trans h.lo0 (min_left _ _), nbef_trans (last_left _ _) h.hi0, ?_, ?_, ?_, ?_⟩
    · intro y hy
      rcases List.mem_cons.1 hy with rfl | hy
      · exact nlt_trans h.lo0 (min_right _ _)
      · exact h.lo y hy
    · intro y hy
      rcases List.mem_cons.1 hy with rfl | hy
      · exact nbef_trans (last_right _ _) h.hi0
      · exact h.hi y hy
    · rcases h.lo1 with e | ⟨y, hy, e⟩
      · have e2 : (accS q0 x).1 = minS q0.1 (spF x) := rfl
        rw [e2] at e
        unfold minS at e
        split at e
        · exact .inr ⟨x, List.mem_cons_self, e⟩
        · exact .inl e
      · exact .inr ⟨y, List.mem_cons_of_mem _ hy, e⟩
    · rcases h.hi1 with e | ⟨y, hy, e⟩
      · have e2 : (accS q0 x).2 = lastS q0.2 (spT x) := rfl
        rw [e2] at e
        unfold lastS at e
        split at e
        · exact .inr ⟨x, List.mem_cons_self, e⟩
        · exact .inl e
      · exact .inr ⟨y, List.mem_cons_of_mem _ hy, e⟩
/-- What the least range is of messages that there are. -/
structure Least (F T : ByteArray) (xs : List MG) : Prop where
  lo : ∀ x ∈ xs, lt (spF x) F = false
  hi : ∀ x ∈ xs, bef T (spT x) = false
  lo1 : ∃ x ∈ xs, F = spF x
  hi1 : ∃ x ∈ xs, T = spT x
theorem span_least {xs : List MG} (h : xs ≠ []) : Least (spanL xs).1 (spanL xs).2 xs := by
  cases xs with
  | nil => exact absurd rfl h
  | cons x xs =>
    have q := fold_ok xs (spF x, spT x)
    refine ⟨?_, ?_, ?_, ?_⟩
    · intro y hy
      rcases List.mem_cons.1 hy with rfl | hy
      · exact q.lo0
      · exact q.lo y hy
    · intro y hy
      rcases List.mem_cons.1 hy with rfl | hy
      · exact q.hi0
      · exact q.hi y hy
    · rcases q.lo1 with e | ⟨y, hy, e⟩
      · exact ⟨x, List.mem_cons_self, e⟩
      · exact ⟨y, List.mem_cons_of_mem _ hy, e⟩
    · rcases q.hi1 with e | ⟨y, hy, e⟩
      · exact ⟨x, List.mem_cons_self, e⟩
      · exact ⟨y, List.mem_cons_of_mem _ hy, e⟩
end Go.Proofs.Ytilnpeekajnlhaa
namespace Go.Proofs.Ytilnpeekajnlhaa
open Go.RowKit Go.Maps
theorem run_min_str (ts : Array TypeId) (t : TypeId) (x y : ByteArray) {P : Program} (w : World) : (Builtin.min_ ts t #[.string x, .string y]).run P w = .ok (.string (minS x y)) w := by
  have hb := bl_le x.toList y.toList
  cases h : Op.bytesLess y.toList x.toList
  · have : minS x y = x := by unfold minS lt; rw [h]; rfl
    rw [this]
    rw [h] at hb
    simp only [Builtin.min_, Builtin.min2, Op.stringOp, asBool, List.foldlM]
    simp [hb, asBool]
  · have : minS x y = y := by unfold minS lt; rw [h]; rfl
    rw [this]
    rw [h] at hb
    simp only [Builtin.min_, Builtin.min2, Op.stringOp, asBool, List.foldlM]
    simp [hb, asBool]
attribute [local go_sem] run_min_str
abbrev BV (q : ByteArray × ByteArray) (ok : Bool) : Value := .tuple #[.agg #[.string q.1, .string q.2], .bool ok]
theorem rg_set {W : World} {g : Nat} {x y : ByteArray} (z : W.heap[g]? = some (rgc x y)) (a b : ByteArray) : ((W.setCell ⟨g, 0, none⟩ (.string a)).setCell ⟨g, 1, none⟩ (.string b)).heap[g]? = some (rgc a b) := by
  simp [World.setCell, Array.getElem?_modify, z]
theorem rg_far {W : World} {g h : Nat} {o : Obj} (z : W.heap[h]? = some o) (hg : g ≠ h) (a b : Value) : ((W.setCell ⟨g, 0, none⟩ a).setCell ⟨g, 1, none⟩ b).heap[h]? = some o := by
  simp [World.setCell, Array.getElem?_modify, z, hg]
theorem tail_rd {w : World} {b off cap : Nat} {x0 : MG} {rest : List MG} (hA : EG.Rd w (some ⟨b, off, none⟩) (x0 :: rest)) (hn : rest.length + 1 ≤ cap) : EG.Rd w (some ⟨b, if cap = 1 then off else off + 6, none⟩) rest := by
  by_cases h : cap = 1
  · have : rest = [] := List.eq_nil_of_length_eq_zero (by omega)
    rw [this]; exact .inl rfl
  · rw [if_neg h]
    have q := hA.drop 1
    rw [Nat.one_mul] at q
    exact q
end Go.Proofs.Ytilnpeekajnlhaa
