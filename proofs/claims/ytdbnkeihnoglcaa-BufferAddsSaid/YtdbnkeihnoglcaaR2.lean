/- What a range has of a message. -/
import Derived.Test.YtdbnkeihnoglcaaR1
import Derived.Test.YtdbnkeihnoglcaaM2
import Derived.Deep.RegionHeld3
namespace Go.Proofs.Ytdbnkeihnoglcaa
set_option linter.unusedSimpArgs false
open Go.RowKit Go.Maps
set_option linter.unusedVariables false
def clipM (m : MG) (a b : ByteArray) : MG × Bool :=
  if isPt m.kd then (if sb a b && has a b m.ky then (m, true) else (zM, false))
  else if m.kd == 4 then (if (meetF m.ky m.to a b).2.2 then (overM m (meetF m.ky m.to a b).1 (meetF m.ky m.to a b).2.1, true) else (zM, false))
  else (zM, false)
abbrev CV (q : MG × Bool) : Value := .tuple #[MV q.1, .bool q.2]
/-- The three boxes of a call of Clip. -/
structure C3 (W : World) (g : Nat) (m : MG) (a b : ByteArray) (z : MG) : Prop where
  ha : W.heap[g]? = some (MO m)
  hb : W.heap[g + 1]? = some (rgc a b)
  hc : W.heap[g + 1 + 1]? = some (MO z)
theorem C3.later {W W2 : World} {g : Nat} {m z : MG} {a b : ByteArray} (h : C3 W g m a b z) (k : Below W.heap.size W W2) : C3 W2 g m a b z := ⟨keep_bel k h.ha, keep_bel k h.hb, keep_bel k h.hc⟩
theorem bel6 {B : Nat} {W X : World} {g : Nat} (h : Below B W X) (hg : B ≤ g) (a b c d e f : Value) : Below B W ((((((X.setCell ⟨g, 0, none⟩ a).setCell ⟨g, 1, none⟩ b).setCell ⟨g, 2, none⟩ c).setCell ⟨g, 3, none⟩ d).setCell ⟨g, 4, none⟩ e).setCell ⟨g, 5, none⟩ f) :=
  Below.setCell (Below.setCell (Below.setCell (Below.setCell (Below.setCell (Below.setCell h (p := ⟨_, _, none⟩) hg _) (p := ⟨_, _, none⟩) hg _) (p := ⟨_, _, none⟩) hg _) (p := ⟨_, _, none⟩) hg _) (p := ⟨_, _, none⟩) hg _) (p := ⟨_, _, none⟩) hg _
set_option maxRecDepth 100000 in
set_option maxHeartbeats 8000000 in
theorem clip_pt (m : MG) (ho : m.Ok) (a b : ByteArray) (w : World) (hp : isPt m.kd = true) :
    Calls Try.prog 52 #[MV m, .agg #[.string a, .string b]] w fun r w' => r = .returned (CV (clipM m a b)) ∧ Below w.heap.size w w' := by
  have h4 : (m.kd == 4) = false := by
    cases h : (m.kd == 4)
    · rfl
    · rw [beq_iff_eq] at h; rw [h] at hp; cases hp
  have HC : Hid (clipM m a b = if sb a b && has a b m.ky then (m, true) else (zM, false)) := Lib.hid (by unfold clipM; rw [if_pos hp])
  rw [HC.out]
  have H0 := Lib.hid (bel_alloc (bel_alloc (alb w (MO m)) (rgc a b)) (MO zM))
  have q := three_new w (MO m) (rgc a b) (MO zM)
  have Z := Lib.hid (C3.mk q.1 q.2.1 q.2.2)
  clear q HC
  obtain ⟨c0, c1, c2, c3, c4, c5⟩ := cells6 Z.out.ha
  go_enter Try.func52, Try.ntmps52
  cases e1 : sb a b
  · go_wp2_with (first
      | (go_at_call 34; ((with_reducible refine (isp_any m _).mono ?_); rintro e w1 ⟨rfl, b1⟩; rw [hp]; replace Z := Lib.hid (Z.out.later b1); replace H0 := Lib.hid (bel_trans H0.out b1); clear b1 c0 c1 c2 c3 c4 c5; obtain ⟨c0, c1, c2, c3, c4, c5⟩ := cells6 Z.out.ha; obtain ⟨d0, d1, -, -⟩ := has_two Z.out.hb))
      | (go_at_call 35; ((with_reducible refine (rightRange_any _ _ _).mono ?_); rintro e w2 ⟨rfl, b2⟩; rw [e1]; replace Z := Lib.hid (Z.out.later b2); replace H0 := Lib.hid (bel_trans H0.out b2); clear b2 c0 c1 c2 c3 c4 c5 d0 d1; obtain ⟨c0, c1, c2, c3, c4, c5⟩ := cells6 Z.out.ha; obtain ⟨f0, f1, f2, f3, f4, f5⟩ := mo_frozen6 Z.out.hc; obtain ⟨k0, k1, k2, k3, k4, k5⟩ := cells6 Z.out.hc))
      | fail)
    refine bodyPost_ret (v := CV (zM, false)) (by simp [results, Try.results52, go_sem, k0, k1, k2, k3, k4, k5]) rfl ⟨by simp [e1], ?_⟩
    exact bel6 H0.out (by omega) _ _ _ _ _ _
  · cases e2 : has a b m.ky
    · go_wp2_with (first
        | (go_at_call 34; ((with_reducible refine (isp_any m _).mono ?_); rintro e w1 ⟨rfl, b1⟩; rw [hp]; replace Z := Lib.hid (Z.out.later b1); replace H0 := Lib.hid (bel_trans H0.out b1); clear b1 c0 c1 c2 c3 c4 c5; obtain ⟨c0, c1, c2, c3, c4, c5⟩ := cells6 Z.out.ha; obtain ⟨d0, d1, -, -⟩ := has_two Z.out.hb))
        | (go_at_call 35; ((with_reducible refine (rightRange_any _ _ _).mono ?_); rintro e w2 ⟨rfl, b2⟩; rw [e1]; replace Z := Lib.hid (Z.out.later b2); replace H0 := Lib.hid (bel_trans H0.out b2); clear b2 c0 c1 c2 c3 c4 c5 d0 d1; obtain ⟨c0, c1, c2, c3, c4, c5⟩ := cells6 Z.out.ha; obtain ⟨d0, d1, -, -⟩ := has_two Z.out.hb))
        | (go_at_call 36; ((with_reducible refine (holds_any _ _ _ _).mono ?_); rintro e w3 ⟨rfl, b3⟩; rw [e2]; replace Z := Lib.hid (Z.out.later b3); replace H0 := Lib.hid (bel_trans H0.out b3); clear b3 c0 c1 c2 c3 c4 c5 d0 d1; obtain ⟨c0, c1, c2, c3, c4, c5⟩ := cells6 Z.out.ha; obtain ⟨f0, f1, f2, f3, f4, f5⟩ := mo_frozen6 Z.out.hc; obtain ⟨k0, k1, k2, k3, k4, k5⟩ := cells6 Z.out.hc))
        | fail)
      refine bodyPost_ret (v := CV (zM, false)) (by simp [results, Try.results52, go_sem, k0, k1, k2, k3, k4, k5]) rfl ⟨by simp [e1, e2], ?_⟩
      exact bel6 H0.out (by omega) _ _ _ _ _ _
    · go_wp2_with (first
        | (go_at_call 34; ((with_reducible refine (isp_any m _).mono ?_); rintro e w1 ⟨rfl, b1⟩; rw [hp]; replace Z := Lib.hid (Z.out.later b1); replace H0 := Lib.hid (bel_trans H0.out b1); clear b1 c0 c1 c2 c3 c4 c5; obtain ⟨c0, c1, c2, c3, c4, c5⟩ := cells6 Z.out.ha; obtain ⟨d0, d1, -, -⟩ := has_two Z.out.hb))
        | (go_at_call 35; ((with_reducible refine (rightRange_any _ _ _).mono ?_); rintro e w2 ⟨rfl, b2⟩; rw [e1]; replace Z := Lib.hid (Z.out.later b2); replace H0 := Lib.hid (bel_trans H0.out b2); clear b2 c0 c1 c2 c3 c4 c5 d0 d1; obtain ⟨c0, c1, c2, c3, c4, c5⟩ := cells6 Z.out.ha; obtain ⟨d0, d1, -, -⟩ := has_two Z.out.hb))
        | (go_at_call 36; ((with_reducible refine (holds_any _ _ _ _).mono ?_); rintro e w3 ⟨rfl, b3⟩; rw [e2]; replace Z := Lib.hid (Z.out.later b3); replace H0 := Lib.hid (bel_trans H0.out b3); clear b3 c0 c1 c2 c3 c4 c5 d0 d1; obtain ⟨c0, c1, c2, c3, c4, c5⟩ := cells6 Z.out.ha; obtain ⟨f0, f1, f2, f3, f4, f5⟩ := mo_frozen6 Z.out.hc; obtain ⟨k0, k1, k2, k3, k4, k5⟩ := cells6 Z.out.hc))
        | fail)
      refine bodyPost_ret (v := CV (m, true)) (by simp [results, Try.results52, go_sem, k0, k1, k2, k3, k4, k5]) rfl ⟨by simp [e1, e2], ?_⟩
      exact bel6 H0.out (by omega) _ _ _ _ _ _
set_option maxRecDepth 100000 in
set_option maxHeartbeats 8000000 in
theorem clip_no (m : MG) (ho : m.Ok) (a b : ByteArray) (w : World) (hp : isPt m.kd = false) (h4 : (m.kd == 4) = false) :
    Calls Try.prog 52 #[MV m, .agg #[.string a, .string b]] w fun r w' => r = .returned (CV (clipM m a b)) ∧ Below w.heap.size w w' := by
  have HC : Hid (clipM m a b = (zM, false)) := Lib.hid (by unfold clipM; rw [hp, h4]; rfl)
  rw [HC.out]
  have H0 := Lib.hid (bel_alloc (bel_alloc (alb w (MO m)) (rgc a b)) (MO zM))
  have q := three_new w (MO m) (rgc a b) (MO zM)
  have Z := Lib.hid (C3.mk q.1 q.2.1 q.2.2)
  clear q HC
  obtain ⟨c0, c1, c2, c3, c4, c5⟩ := cells6 Z.out.ha
  go_enter Try.func52, Try.ntmps52
  go_wp2_with (first
    | (go_at_call 34; ((with_reducible refine (isp_any m _).mono ?_); rintro e w1 ⟨rfl, b1⟩; rw [hp]; replace Z := Lib.hid (Z.out.later b1); replace H0 := Lib.hid (bel_trans H0.out b1); clear b1 c0 c1 c2 c3 c4 c5; obtain ⟨c0, c1, c2, c3, c4, c5⟩ := cells6 Z.out.ha; obtain ⟨f0, f1, f2, f3, f4, f5⟩ := mo_frozen6 Z.out.hc; obtain ⟨k0, k1, k2, k3, k4, k5⟩ := cells6 Z.out.hc))
    | fail)
  refine bodyPost_ret (v := CV (zM, false)) (by simp [results, Try.results52, go_sem, k0, k1, k2, k3, k4, k5]) rfl ⟨rfl, ?_⟩
  exact bel6 H0.out (by omega) _ _ _ _ _ _
end Go.Proofs.Ytdbnkeihnoglcaa
