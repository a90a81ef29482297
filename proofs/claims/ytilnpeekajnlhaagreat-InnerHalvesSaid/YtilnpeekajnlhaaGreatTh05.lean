/- Texts of the proof, one behind the other. -/
import Derived.Test.YtilnpeekajnlhaaGreatTh04
import Derived.Test.YtilnpeekajnlhaaGreatTh02
set_option linter.unusedVariables false
set_option linter.unusedSimpArgs false
namespace Go.Proofs.YtilnpeekajnlhaaGreat
open Go.RowKit Go.Maps
def restQ (m : MG) (q : MG × Bool) : List MG :=
  if isPt m.kd then (if q.2 then [] else [m])
  else if m.kd == 4 then
    (if q.2 then (if lt m.ky q.1.ky then [overM m m.ky q.1.ky] else []) ++ (if bef q.1.to m.to then [overM m q.1.to m.to] else []) else [m])
  else []
def restM (m : MG) (a b : ByteArray) : List MG := restQ m (clipM m a b)
theorem lit1 (W : World) (m : MG) {g : Nat} (hg : g = W.heap.size) : EG.Rd (W.alloc (MO m)) (some ⟨g, 0, none⟩) [m] := by
  rw [hg]; exact RE.Rd.lit (E := EG) W 50 [m] #[.int .u8 m.kd, .int .i64 m.sq, .string m.ky, .string m.to, .string m.vl, .int .u64 m.dl] rfl
theorem bel_of_nil {w w' : World} (h : w.grownBy w' (RE.fp none 0)) : Below w.heap.size w w' := ⟨h.os, h.tape, h.output, h.size, fun i hi => h.block i hi (by simp [RE.fp])⟩
theorem two_bel {W W2 : World} {g h : Nat} {x y : Obj} (z : W.heap[g]? = some x ∧ W.heap[h]? = some y) (k : Below W.heap.size W W2) : W2.heap[g]? = some x ∧ W2.heap[h]? = some y := ⟨keep_bel k z.1, keep_bel k z.2⟩
set_option maxRecDepth 100000 in
set_option maxHeartbeats 8000000 in
theorem rest_pt (m : MG) (ho : m.Ok) (a b : ByteArray) (w : World) (hp : isPt m.kd = true) :
    Calls Tryz.prog 53 #[MV m, .agg #[.string a, .string b]] w fun r w' => (∃ A' c', r = .returned (.slice A' (restM m a b).length c') ∧ EG.Rd w' A' (restM m a b)) ∧ Below w.heap.size w w' := by
  have h4 : (m.kd == 4) = false := by
    cases h : (m.kd == 4)
    · rfl
    · rw [beq_iff_eq] at h; rw [h] at hp; cases hp
  have h4n : ¬ m.kd = 4 := by intro h; rw [h] at h4; cases h4
  obtain ⟨p, ok, hq⟩ : ∃ p ok, clipM m a b = (p, ok) := ⟨_, _, rfl⟩
  have HR : Hid (restM m a b = if ok then [] else [m]) := Lib.hid (by unfold restM restQ; rw [hq, if_pos hp])
  rw [HR.out]
  have AC := Lib.hid (clip_any m ho a b)
  rw [hq] at AC
  clear HR hq ho
  have H0 := Lib.hid (bel_alloc (alb w (MO m)) (rgc a b))
  have Z0 := Lib.hid (two_new w (MO m) (rgc a b))
  obtain ⟨c0, c1, c2, c3, c4, c5⟩ := cells6 Z0.out.1
  obtain ⟨d0, d1, -, -⟩ := has_two Z0.out.2
  go_enter Tryz.func53, Tryz.ntmps53
  cases ok
  all_goals
    go_wp2_with (first
      | (go_at_call 60; ((with_reducible refine (isp_any m _).mono ?_); rintro e w1 ⟨rfl, b1⟩; rw [hp]; replace Z0 := Lib.hid (two_bel Z0.out b1); replace H0 := Lib.hid (bel_trans H0.out b1); clear b1 c0 c1 c2 c3 c4 c5 d0 d1; obtain ⟨c0, c1, c2, c3, c4, c5⟩ := cells6 Z0.out.1; obtain ⟨d0, d1, -, -⟩ := has_two Z0.out.2))
      | (go_at_call 76; ((with_reducible refine (AC.out _).mono ?_); rintro e w2 ⟨rfl, b2⟩; have ZP := Lib.hid (heap_alloc_new w2 (MO p)); have ZA := Lib.hid (two_bel Z0.out b2); replace Z0 := Lib.hid (two_bel ZA.out (alb w2 (MO p))); replace H0 := Lib.hid (bel_alloc (bel_trans H0.out b2) (MO p)); clear b2 c0 c1 c2 c3 c4 c5 d0 d1; obtain ⟨c0, c1, c2, c3, c4, c5⟩ := cells6 Z0.out.1; obtain ⟨d0, d1, -, -⟩ := has_two Z0.out.2))
      | fail)
  · go_ret
    exact ⟨⟨_, ⟨_, rfl⟩, lit1 _ m (by simp)⟩, bel_alloc H0.out _⟩
  · go_ret
    exact ⟨⟨_, ⟨_, rfl⟩, .inl rfl⟩, H0.out⟩
set_option maxRecDepth 100000 in
set_option maxHeartbeats 8000000 in
theorem rest_cl (m : MG) (ho : m.Ok) (a b : ByteArray) (w : World) (hp : isPt m.kd = false) (h4 : (m.kd == 4) = true) :
    Calls Tryz.prog 53 #[MV m, .agg #[.string a, .string b]] w fun r w' => (∃ A' c', r = .returned (.slice A' (restM m a b).length c') ∧ EG.Rd w' A' (restM m a b)) ∧ Below w.heap.size w w' := by
  have hb4 : (m.kd != 4) = false := by rw [bne, h4]; rfl
  have h44 : m.kd = 4 := by simpa using h4
  have h4n : ¬ ¬ m.kd = 4 := fun h => h h44
  clear h44
  obtain ⟨p, ok, hq⟩ : ∃ p ok, clipM m a b = (p, ok) := ⟨_, _, rfl⟩
  have HR : Hid (restM m a b = if ok then (if lt m.ky p.ky then [overM m m.ky p.ky] else []) ++ (if bef p.to m.to then [overM m p.to m.to] else []) else [m]) := Lib.hid (by unfold restM restQ; rw [hq, hp, h4]; rfl)
  rw [HR.out]
  have AC := Lib.hid (clip_any m ho a b)
  rw [hq] at AC
  clear HR hq ho h4
  have H0 := Lib.hid (bel_alloc (alb w (MO m)) (rgc a b))
  have Z0 := Lib.hid (two_new w (MO m) (rgc a b))
  obtain ⟨c0, c1, c2, c3, c4, c5⟩ := cells6 Z0.out.1
  obtain ⟨d0, d1, -, -⟩ := has_two Z0.out.2
  go_enter Tryz.func53, Tryz.ntmps53
  cases ok
  · go_wp2_with (first
      | (go_at_call 76; ((with_reducible refine (AC.out _).mono ?_); rintro e w2 ⟨rfl, b2⟩; have ZP := Lib.hid (heap_alloc_new w2 (MO p)); have ZA := Lib.hid (two_bel Z0.out b2); replace Z0 := Lib.hid (two_bel ZA.out (alb w2 (MO p))); replace H0 := Lib.hid (bel_alloc (bel_trans H0.out b2) (MO p)); clear b2 c0 c1 c2 c3 c4 c5 d0 d1; obtain ⟨c0, c1, c2, c3, c4, c5⟩ := cells6 Z0.out.1))
      | fail)
    go_ret
    exact ⟨⟨_, ⟨_, rfl⟩, lit1 _ m (by simp)⟩, bel_alloc H0.out _⟩
  · cases e5 : lt m.ky p.ky <;> cases e6 : bef p.to m.to
    · have e5' := e5
      unfold lt at e5'
      go_wp2_with (first
        | (go_at_call 76; ((with_reducible refine (AC.out _).mono ?_); rintro e w2 ⟨rfl, b2⟩; have ZP := Lib.hid (heap_alloc_new w2 (MO p)); have ZA := Lib.hid (two_bel Z0.out b2); replace Z0 := Lib.hid (two_bel ZA.out (alb w2 (MO p))); replace H0 := Lib.hid (bel_alloc (bel_trans H0.out b2) (MO p)); clear b2 c0 c1 c2 c3 c4 c5 d0 d1; obtain ⟨c0, c1, c2, c3, c4, c5⟩ := cells6 Z0.out.1))
        | (go_at_call 60; ((with_reducible refine (isp_any m _).mono ?_); rintro e w3 ⟨rfl, b3⟩; rw [hp]; replace ZP := Lib.hid (keep_bel b3 ZP.out); replace Z0 := Lib.hid (two_bel Z0.out b3); replace H0 := Lib.hid (bel_trans H0.out b3); clear b3 c0 c1 c2 c3 c4 c5; obtain ⟨c0, c1, c2, c3, c4, c5⟩ := cells6 Z0.out.1; obtain ⟨p0, p1, p2, p3, p4, p5⟩ := cells6 ZP.out))
        | (go_at_call 80; ((with_reducible refine (before_any _ _ _).mono ?_); rintro e w4 ⟨rfl, rfl⟩; rw [e6]))
        | fail)
      go_ret
      exact ⟨⟨_, ⟨_, rfl⟩, .inl rfl⟩, H0.out⟩
    · have e5' := e5
      unfold lt at e5'
      go_wp2_with (first
        | (go_at_call 76; ((with_reducible refine (AC.out _).mono ?_); rintro e w2 ⟨rfl, b2⟩; have ZP := Lib.hid (heap_alloc_new w2 (MO p)); have ZA := Lib.hid (two_bel Z0.out b2); replace Z0 := Lib.hid (two_bel ZA.out (alb w2 (MO p))); replace H0 := Lib.hid (bel_alloc (bel_trans H0.out b2) (MO p)); clear b2 c0 c1 c2 c3 c4 c5 d0 d1; obtain ⟨c0, c1, c2, c3, c4, c5⟩ := cells6 Z0.out.1))
        | (go_at_call 60; ((with_reducible refine (isp_any m _).mono ?_); rintro e w3 ⟨rfl, b3⟩; rw [hp]; replace ZP := Lib.hid (keep_bel b3 ZP.out); replace Z0 := Lib.hid (two_bel Z0.out b3); replace H0 := Lib.hid (bel_trans H0.out b3); clear b3 c0 c1 c2 c3 c4 c5; obtain ⟨c0, c1, c2, c3, c4, c5⟩ := cells6 Z0.out.1; obtain ⟨p0, p1, p2, p3, p4, p5⟩ := cells6 ZP.out))
        | (go_at_call 80; ((with_reducible refine (before_any _ _ _).mono ?_); rintro e w4 ⟨rfl, rfl⟩; rw [e6]))
        | (go_at_call 79; ((with_reducible refine (over_any m p.to m.to _).mono ?_); rintro e vB ⟨rfl, bB⟩; replace ZP := Lib.hid (keep_bel (bel_trans bB (alb vB (MO (overM m p.to m.to)))) ZP.out); replace Z0 := Lib.hid (two_bel Z0.out (bel_trans bB (alb vB (MO (overM m p.to m.to))))); replace H0 := Lib.hid (bel_alloc (bel_trans H0.out bB) (MO (overM m p.to m.to))); have RLB := Lib.hid (RE.Rd.lit (E := EG) vB 50 [overM m p.to m.to] #[.int .u8 m.kd, .int .i64 m.sq, .string p.to, .string m.to, .string m.vl, .int .u64 m.dl] rfl); have RWB := Lib.hid ((RE.Row.nil : EG.Row (vB.alloc (MO (overM m p.to m.to))) w.heap.size none [] 0)); clear bB c0 c1 c2 c3 c4 c5 p0 p1 p2 p3 p4 p5))
        | (at_builtin; refine RE.wpList_put EG _ rfl (.tmp 49) (.tmp 57) rfl (base := w.heap.size) none 0 0 _ _ 1 1 _ rfl rfl RWB.out rfl (by omega) H0.out.size rfl (by omega) RLB.out ?_; intro AB cB uB r1 r2 r3; have RB := Lib.hid r1; have GB := Lib.hid r2; have BB := Lib.hid (H0.out.trans (RE.Row.below r2 RWB.out (Nat.le_refl _) H0.out.size)); clear r1 r2 r3)
        | fail)
      go_ret
      exact ⟨⟨_, ⟨_, rfl⟩, RB.out.rd⟩, BB.out⟩
    · have e5' := e5
      unfold lt at e5'
      go_wp2_with (first
        | (go_at_call 76; ((with_reducible refine (AC.out _).mono ?_); rintro e w2 ⟨rfl, b2⟩; have ZP := Lib.hid (heap_alloc_new w2 (MO p)); have ZA := Lib.hid (two_bel Z0.out b2); replace Z0 := Lib.hid (two_bel ZA.out (alb w2 (MO p))); replace H0 := Lib.hid (bel_alloc (bel_trans H0.out b2) (MO p)); clear b2 c0 c1 c2 c3 c4 c5 d0 d1; obtain ⟨c0, c1, c2, c3, c4, c5⟩ := cells6 Z0.out.1))
        | (go_at_call 60; ((with_reducible refine (isp_any m _).mono ?_); rintro e w3 ⟨rfl, b3⟩; rw [hp]; replace ZP := Lib.hid (keep_bel b3 ZP.out); replace Z0 := Lib.hid (two_bel Z0.out b3); replace H0 := Lib.hid (bel_trans H0.out b3); clear b3 c0 c1 c2 c3 c4 c5; obtain ⟨c0, c1, c2, c3, c4, c5⟩ := cells6 Z0.out.1; obtain ⟨p0, p1, p2, p3, p4, p5⟩ := cells6 ZP.out))
        | (go_at_call 80; ((with_reducible refine (before_any _ _ _).mono ?_); rintro e w4 ⟨rfl, rfl⟩; rw [e6]))
        | (go_at_call 79; ((with_reducible refine (over_any m m.ky p.ky _).mono ?_); rintro e vA ⟨rfl, bA⟩; replace ZP := Lib.hid (keep_bel (bel_trans bA (alb vA (MO (overM m m.ky p.ky)))) ZP.out); replace Z0 := Lib.hid (two_bel Z0.out (bel_trans bA (alb vA (MO (overM m m.ky p.ky))))); replace H0 := Lib.hid (bel_alloc (bel_trans H0.out bA) (MO (overM m m.ky p.ky))); have RLA := Lib.hid (RE.Rd.lit (E := EG) vA 50 [overM m m.ky p.ky] #[.int .u8 m.kd, .int .i64 m.sq, .string m.ky, .string p.ky, .string m.vl, .int .u64 m.dl] rfl); have RWA := Lib.hid ((RE.Row.nil : EG.Row (vA.alloc (MO (overM m m.ky p.ky))) w.heap.size none [] 0)); clear bA c0 c1 c2 c3 c4 c5 p0 p1 p2 p3 p4 p5))
        | (at_builtin; refine RE.wpList_put EG _ rfl (.tmp 34) (.tmp 42) rfl (base := w.heap.size) none 0 0 _ _ 1 1 _ rfl rfl RWA.out rfl (by omega) H0.out.size rfl (by omega) RLA.out ?_; intro AA cA uA r1 r2 r3; have RA := Lib.hid r1; have BA := Lib.hid (H0.out.trans (RE.Row.below r2 RWA.out (Nat.le_refl _) H0.out.size)); have bu := bel_of_nil r2; replace ZP := Lib.hid (keep_bel bu ZP.out); replace Z0 := Lib.hid (two_bel Z0.out bu); replace H0 := Lib.hid (bel_trans H0.out bu); obtain ⟨c0, c1, c2, c3, c4, c5⟩ := cells6 Z0.out.1; obtain ⟨p0, p1, p2, p3, p4, p5⟩ := cells6 ZP.out; clear bu; clear r1 r2 r3)
        | fail)
      go_ret
      exact ⟨⟨_, ⟨_, rfl⟩, RA.out.rd⟩, BA.out⟩
    · have e5' := e5
      unfold lt at e5'
      go_wp2_with (first
        | (go_at_call 76; ((with_reducible refine (AC.out _).mono ?_); rintro e w2 ⟨rfl, b2⟩; have ZP := Lib.hid (heap_alloc_new w2 (MO p)); have ZA := Lib.hid (two_bel Z0.out b2); replace Z0 := Lib.hid (two_bel ZA.out (alb w2 (MO p))); replace H0 := Lib.hid (bel_alloc (bel_trans H0.out b2) (MO p)); clear b2 c0 c1 c2 c3 c4 c5 d0 d1; obtain ⟨c0, c1, c2, c3, c4, c5⟩ := cells6 Z0.out.1))
        | (go_at_call 60; ((with_reducible refine (isp_any m _).mono ?_); rintro e w3 ⟨rfl, b3⟩; rw [hp]; replace ZP := Lib.hid (keep_bel b3 ZP.out); replace Z0 := Lib.hid (two_bel Z0.out b3); replace H0 := Lib.hid (bel_trans H0.out b3); clear b3 c0 c1 c2 c3 c4 c5; obtain ⟨c0, c1, c2, c3, c4, c5⟩ := cells6 Z0.out.1; obtain ⟨p0, p1, p2, p3, p4, p5⟩ := cells6 ZP.out))
        | (go_at_call 80; ((with_reducible refine (before_any _ _ _).mono ?_); rintro e w4 ⟨rfl, rfl⟩; rw [e6]))
        | (go_at_call 79; ((with_reducible refine (over_any m m.ky p.ky _).mono ?_); rintro e vA ⟨rfl, bA⟩; replace ZP := Lib.hid (keep_bel (bel_trans bA (alb vA (MO (overM m m.ky p.ky)))) ZP.out); replace Z0 := Lib.hid (two_bel Z0.out (bel_trans bA (alb vA (MO (overM m m.ky p.ky))))); replace H0 := Lib.hid (bel_alloc (bel_trans H0.out bA) (MO (overM m m.ky p.ky))); have RLA := Lib.hid (RE.Rd.lit (E := EG) vA 50 [overM m m.ky p.ky] #[.int .u8 m.kd, .int .i64 m.sq, .string m.ky, .string p.ky, .string m.vl, .int .u64 m.dl] rfl); have RWA := Lib.hid ((RE.Row.nil : EG.Row (vA.alloc (MO (overM m m.ky p.ky))) w.heap.size none [] 0)); clear bA c0 c1 c2 c3 c4 c5 p0 p1 p2 p3 p4 p5))
        | (at_builtin; refine RE.wpList_put EG _ rfl (.tmp 34) (.tmp 42) rfl (base := w.heap.size) none 0 0 _ _ 1 1 _ rfl rfl RWA.out rfl (by omega) H0.out.size rfl (by omega) RLA.out ?_; intro AA cA uA r1 r2 r3; have RA := Lib.hid r1; have BA := Lib.hid (H0.out.trans (RE.Row.below r2 RWA.out (Nat.le_refl _) H0.out.size)); have bu := bel_of_nil r2; replace ZP := Lib.hid (keep_bel bu ZP.out); replace Z0 := Lib.hid (two_bel Z0.out bu); replace H0 := Lib.hid (bel_trans H0.out bu); obtain ⟨c0, c1, c2, c3, c4, c5⟩ := cells6 Z0.out.1; obtain ⟨p0, p1, p2, p3, p4, p5⟩ := cells6 ZP.out; clear bu; clear r1 r2 r3)
        | (go_at_call 79; ((with_reducible refine (over_any m p.to m.to _).mono ?_); rintro e vC ⟨rfl, bC⟩; replace ZP := Lib.hid (keep_bel (bel_trans bC (alb vC (MO (overM m p.to m.to)))) ZP.out); replace Z0 := Lib.hid (two_bel Z0.out (bel_trans bC (alb vC (MO (overM m p.to m.to))))); replace H0 := Lib.hid (bel_alloc (bel_trans H0.out bC) (MO (overM m p.to m.to))); have RLC := Lib.hid (RE.Rd.lit (E := EG) vC 50 [overM m p.to m.to] #[.int .u8 m.kd, .int .i64 m.sq, .string p.to, .string m.to, .string m.vl, .int .u64 m.dl] rfl); have RWC := Lib.hid (RA.out.later (bel_trans bC (alb vC (MO (overM m p.to m.to))))); clear bC c0 c1 c2 c3 c4 c5 p0 p1 p2 p3 p4 p5))
        | (at_builtin; refine RE.wpList_put EG _ rfl (.tmp 49) (.tmp 57) rfl (base := w.heap.size) AA 1 cA _ _ 1 1 _ rfl rfl RWC.out rfl (by omega) H0.out.size rfl (by omega) RLC.out ?_; intro AC2 cC uC r1 r2 r3; have RC := Lib.hid r1;  have BC := Lib.hid (H0.out.trans (RE.Row.below r2 RWC.out (Nat.le_refl _) H0.out.size)); clear r1 r2 r3)
        | fail)
      go_ret
      exact ⟨⟨_, ⟨_, rfl⟩, RC.out.rd⟩, BC.out⟩
theorem rest_no (m : MG) (a b : ByteArray) (w : World) (hp : isPt m.kd = false) (h4 : (m.kd == 4) = false) :
    Calls Tryz.prog 53 #[MV m, .agg #[.string a, .string b]] w fun r w' => (∃ A' c', r = .returned (.slice A' (restM m a b).length c') ∧ EG.Rd w' A' (restM m a b)) ∧ Below w.heap.size w w' := by
  have h4n : ¬ m.kd = 4 := by intro h; rw [h] at h4; cases h4
  have HR : Hid (restM m a b = []) := Lib.hid (by unfold restM restQ; rw [hp, h4]; rfl)
  rw [HR.out]
  clear HR
  have H0 := Lib.hid (bel_alloc (alb w (MO m)) (rgc a b))
  have Z0 := Lib.hid (two_new w (MO m) (rgc a b))
  obtain ⟨c0, c1, c2, c3, c4, c5⟩ := cells6 Z0.out.1
  go_enter Tryz.func53, Tryz.ntmps53
  go_wp2_with (first
    | (go_at_call 60; ((with_reducible refine (isp_any m _).mono ?_); rintro e w1 ⟨rfl, b1⟩; rw [hp]; have H1 := Lib.hid (bel_trans H0.out b1); clear b1))
    | fail)
  go_ret
  exact ⟨⟨none, 0, rfl, .inl rfl⟩, H1.out⟩
theorem rest_any (m : MG) (ho : m.Ok) (a b : ByteArray) (w : World) :
    Calls Tryz.prog 53 #[MV m, .agg #[.string a, .string b]] w fun r w' => (∃ A' c', r = .returned (.slice A' (restM m a b).length c') ∧ EG.Rd w' A' (restM m a b)) ∧ Below w.heap.size w w' := by
  cases hp : isPt m.kd
  · cases h4 : (m.kd == 4)
    · exact rest_no m a b w hp h4
    · exact rest_cl m ho a b w hp h4
  · exact rest_pt m ho a b w hp
end Go.Proofs.YtilnpeekajnlhaaGreat
namespace Go.Proofs.YtilnpeekajnlhaaGreat
open Go.RowKit Go.Maps
theorem bel2 {B : Nat} {W X : World} {g i j : Nat} (h : Below B W X) (hg : B ≤ g) (a b : Value) : Below B W ((X.setCell ⟨g, i, none⟩ a).setCell ⟨g, j, none⟩ b) :=
  Below.setCell (Below.setCell h (p := ⟨_, _, none⟩) hg _) (p := ⟨_, _, none⟩) hg _
set_option maxRecDepth 100000 in
set_option maxHeartbeats 8000000 in
theorem rclip_pt (m : MG) (a b : ByteArray) (w : World) (hp : isPt m.kd = true) :
    Calls Tryz.prog 54 #[MV m, .agg #[.string a, .string b]] w fun r w' => r = .returned (CV (clipM m a b)) ∧ Below w.heap.size w w' := by
  have h4 : (m.kd != 4) = true := by
    cases h : (m.kd == 4)
    · rw [bne, h]; rfl
    · rw [beq_iff_eq] at h; rw [h] at hp; cases hp
  have H0 := Lib.hid (bel_alloc (bel_alloc (alb w (MO m)) (rgc a b)) (MO zM))
  have q := three_new w (MO m) (rgc a b) (MO zM)
  have Z := Lib.hid (C3.mk q.1 q.2.1 q.2.2)
  clear q
  obtain ⟨c0, c1, c2, c3, c4, c5⟩ := cells6 Z.out.ha
  obtain ⟨d0, d1, -, -⟩ := has_two Z.out.hb
  obtain ⟨p, q, ok, hq⟩ : ∃ p q ok, meetF m.ky m.to a b = (p, q, ok) := ⟨_, _, _, rfl⟩
  have AM := Lib.hid (rmeet_any m.ky m.to a b)
  rw [hq] at AM
  clear hq
  cases e1 : sb a b
  · have HC := Lib.hid (show clipM m a b = (zM, false) by unfold clipM; rw [if_pos hp, e1]; rfl)
    rw [HC.out]
    go_enter Tryz.func54, Tryz.ntmps54
    go_wp2_with (first
      | (go_at_call 73; ((with_reducible refine (rpt_any m _).mono ?_); rintro e w1 ⟨rfl, b1⟩; rw [hp]; replace Z := Lib.hid (Z.out.later b1); replace H0 := Lib.hid (bel_trans H0.out b1); clear b1 c0 c1 c2 c3 c4 c5 d0 d1; obtain ⟨c0, c1, c2, c3, c4, c5⟩ := cells6 Z.out.ha; obtain ⟨d0, d1, -, -⟩ := has_two Z.out.hb; obtain ⟨f0, f1, f2, f3, f4, f5⟩ := mo_frozen6 Z.out.hc; obtain ⟨k0, k1, k2, k3, k4, k5⟩ := cells6 Z.out.hc))
      | (go_at_call 28; ((with_reducible refine (rright_any _ _ _).mono ?_); rintro e w2 ⟨rfl, b2⟩; rw [e1]; replace Z := Lib.hid (Z.out.later b2); replace H0 := Lib.hid (bel_trans H0.out b2); clear b2 c0 c1 c2 c3 c4 c5 d0 d1 f0 f1 f2 f3 f4 f5 k0 k1 k2 k3 k4 k5; obtain ⟨c0, c1, c2, c3, c4, c5⟩ := cells6 Z.out.ha; obtain ⟨d0, d1, -, -⟩ := has_two Z.out.hb; obtain ⟨f0, f1, f2, f3, f4, f5⟩ := mo_frozen6 Z.out.hc; obtain ⟨k0, k1, k2, k3, k4, k5⟩ := cells6 Z.out.hc))
      | (go_at_call 42; ((with_reducible refine (AM.out _).mono ?_); rintro e w3 ⟨rfl, b3⟩; replace b3 := bel_alloc b3 (rgc p q); have N3 := Lib.hid (heap_alloc_new w3 (rgc p q)); obtain ⟨n0, n1, -, -⟩ := has_two N3.out; replace Z := Lib.hid (Z.out.later b3); replace H0 := Lib.hid (bel_trans H0.out b3); clear b3 c0 c1 c2 c3 c4 c5 d0 d1 f0 f1 f2 f3 f4 f5 k0 k1 k2 k3 k4 k5; obtain ⟨c0, c1, c2, c3, c4, c5⟩ := cells6 Z.out.ha; obtain ⟨d0, d1, -, -⟩ := has_two Z.out.hb; obtain ⟨f0, f1, f2, f3, f4, f5⟩ := mo_frozen6 Z.out.hc; obtain ⟨k0, k1, k2, k3, k4, k5⟩ := cells6 Z.out.hc))
      | fail)
    refine bodyPost_ret (v := CV (zM, false)) (by simp [results, Tryz.results54, go_sem, k0, k1, k2, k3, k4, k5]) rfl ⟨rfl, ?_⟩
    exact bel6 H0.out (by omega) _ _ _ _ _ _
  · cases e2 : has a b m.ky
    · have HC := Lib.hid (show clipM m a b = (zM, false) by unfold clipM; rw [if_pos hp, e1, e2]; rfl)
      rw [HC.out]
      go_enter Tryz.func54, Tryz.ntmps54
      go_wp2_with (first
        | (go_at_call 73; ((with_reducible refine (rpt_any m _).mono ?_); rintro e w1 ⟨rfl, b1⟩; rw [hp]; replace Z := Lib.hid (Z.out.later b1); replace H0 := Lib.hid (bel_trans H0.out b1); clear b1 c0 c1 c2 c3 c4 c5 d0 d1; obtain ⟨c0, c1, c2, c3, c4, c5⟩ := cells6 Z.out.ha; obtain ⟨d0, d1, -, -⟩ := has_two Z.out.hb; obtain ⟨f0, f1, f2, f3, f4, f5⟩ := mo_frozen6 Z.out.hc; obtain ⟨k0, k1, k2, k3, k4, k5⟩ := cells6 Z.out.hc))
        | (go_at_call 28; ((with_reducible refine (rright_any _ _ _).mono ?_); rintro e w2 ⟨rfl, b2⟩; rw [e1]; replace Z := Lib.hid (Z.out.later b2); replace H0 := Lib.hid (bel_trans H0.out b2); clear b2 c0 c1 c2 c3 c4 c5 d0 d1 f0 f1 f2 f3 f4 f5 k0 k1 k2 k3 k4 k5; obtain ⟨c0, c1, c2, c3, c4, c5⟩ := cells6 Z.out.ha; obtain ⟨d0, d1, -, -⟩ := has_two Z.out.hb; obtain ⟨f0, f1, f2, f3, f4, f5⟩ := mo_frozen6 Z.out.hc; obtain ⟨k0, k1, k2, k3, k4, k5⟩ := cells6 Z.out.hc))
        | (go_at_call 81; ((with_reducible refine (rholds_any _ _ _ _).mono ?_); rintro e w4 ⟨rfl, b4⟩; rw [e2]; replace Z := Lib.hid (Z.out.later b4); replace H0 := Lib.hid (bel_trans H0.out b4); clear b4 c0 c1 c2 c3 c4 c5 d0 d1 f0 f1 f2 f3 f4 f5 k0 k1 k2 k3 k4 k5; obtain ⟨c0, c1, c2, c3, c4, c5⟩ := cells6 Z.out.ha; obtain ⟨d0, d1, -, -⟩ := has_two Z.out.hb; obtain ⟨f0, f1, f2, f3, f4, f5⟩ := mo_frozen6 Z.out.hc; obtain ⟨k0, k1, k2, k3, k4, k5⟩ := cells6 Z.out.hc))
        | (go_at_call 42; ((with_reducible refine (AM.out _).mono ?_); rintro e w3 ⟨rfl, b3⟩; replace b3 := bel_alloc b3 (rgc p q); have N3 := Lib.hid (heap_alloc_new w3 (rgc p q)); obtain ⟨n0, n1, -, -⟩ := has_two N3.out; replace Z := Lib.hid (Z.out.later b3); replace H0 := Lib.hid (bel_trans H0.out b3); clear b3 c0 c1 c2 c3 c4 c5 d0 d1 f0 f1 f2 f3 f4 f5 k0 k1 k2 k3 k4 k5; obtain ⟨c0, c1, c2, c3, c4, c5⟩ := cells6 Z.out.ha; obtain ⟨d0, d1, -, -⟩ := has_two Z.out.hb; obtain ⟨f0, f1, f2, f3, f4, f5⟩ := mo_frozen6 Z.out.hc; obtain ⟨k0, k1, k2, k3, k4, k5⟩ := cells6 Z.out.hc))
        | fail)
      refine bodyPost_ret (v := CV (zM, false)) (by simp [results, Tryz.results54, go_sem, k0, k1, k2, k3, k4, k5]) rfl ⟨rfl, ?_⟩
      exact bel6 H0.out (by omega) _ _ _ _ _ _
    · have HC := Lib.hid (show clipM m a b = (m, true) by unfold clipM; rw [if_pos hp, e1, e2]; rfl)
      rw [HC.out]
      go_enter Tryz.func54, Tryz.ntmps54
      go_wp2_with (first
        | (go_at_call 73; ((with_reducible refine (rpt_any m _).mono ?_); rintro e w1 ⟨rfl, b1⟩; rw [hp]; replace Z := Lib.hid (Z.out.later b1); replace H0 := Lib.hid (bel_trans H0.out b1); clear b1 c0 c1 c2 c3 c4 c5 d0 d1; obtain ⟨c0, c1, c2, c3, c4, c5⟩ := cells6 Z.out.ha; obtain ⟨d0, d1, -, -⟩ := has_two Z.out.hb; obtain ⟨f0, f1, f2, f3, f4, f5⟩ := mo_frozen6 Z.out.hc; obtain ⟨k0, k1, k2, k3, k4, k5⟩ := cells6 Z.out.hc))
        | (go_at_call 28; ((with_reducible refine (rright_any _ _ _).mono ?_); rintro e w2 ⟨rfl, b2⟩; rw [e1]; replace Z := Lib.hid (Z.out.later b2); replace H0 := Lib.hid (bel_trans H0.out b2); clear b2 c0 c1 c2 c3 c4 c5 d0 d1 f0 f1 f2 f3 f4 f5 k0 k1 k2 k3 k4 k5; obtain ⟨c0, c1, c2, c3, c4, c5⟩ := cells6 Z.out.ha; obtain ⟨d0, d1, -, -⟩ := has_two Z.out.hb; obtain ⟨f0, f1, f2, f3, f4, f5⟩ := mo_frozen6 Z.out.hc; obtain ⟨k0, k1, k2, k3, k4, k5⟩ := cells6 Z.out.hc))
        | (go_at_call 81; ((with_reducible refine (rholds_any _ _ _ _).mono ?_); rintro e w4 ⟨rfl, b4⟩; rw [e2]; replace Z := Lib.hid (Z.out.later b4); replace H0 := Lib.hid (bel_trans H0.out b4); clear b4 c0 c1 c2 c3 c4 c5 d0 d1 f0 f1 f2 f3 f4 f5 k0 k1 k2 k3 k4 k5; obtain ⟨c0, c1, c2, c3, c4, c5⟩ := cells6 Z.out.ha; obtain ⟨d0, d1, -, -⟩ := has_two Z.out.hb; obtain ⟨f0, f1, f2, f3, f4, f5⟩ := mo_frozen6 Z.out.hc; obtain ⟨k0, k1, k2, k3, k4, k5⟩ := cells6 Z.out.hc))
        | (go_at_call 42; ((with_reducible refine (AM.out _).mono ?_); rintro e w3 ⟨rfl, b3⟩; replace b3 := bel_alloc b3 (rgc p q); have N3 := Lib.hid (heap_alloc_new w3 (rgc p q)); obtain ⟨n0, n1, -, -⟩ := has_two N3.out; replace Z := Lib.hid (Z.out.later b3); replace H0 := Lib.hid (bel_trans H0.out b3); clear b3 c0 c1 c2 c3 c4 c5 d0 d1 f0 f1 f2 f3 f4 f5 k0 k1 k2 k3 k4 k5; obtain ⟨c0, c1, c2, c3, c4, c5⟩ := cells6 Z.out.ha; obtain ⟨d0, d1, -, -⟩ := has_two Z.out.hb; obtain ⟨f0, f1, f2, f3, f4, f5⟩ := mo_frozen6 Z.out.hc; obtain ⟨k0, k1, k2, k3, k4, k5⟩ := cells6 Z.out.hc))
        | fail)
      refine bodyPost_ret (v := CV (m, true)) (by simp [results, Tryz.results54, go_sem, k0, k1, k2, k3, k4, k5]) rfl ⟨rfl, ?_⟩
      exact bel6 H0.out (by omega) _ _ _ _ _ _
set_option maxRecDepth 100000 in
set_option maxHeartbeats 8000000 in
theorem rclip_no (m : MG) (a b : ByteArray) (w : World) (hp : isPt m.kd = false) (h4 : (m.kd == 4) = false) :
    Calls Tryz.prog 54 #[MV m, .agg #[.string a, .string b]] w fun r w' => r = .returned (CV (clipM m a b)) ∧ Below w.heap.size w w' := by
  have H0 := Lib.hid (bel_alloc (bel_alloc (alb w (MO m)) (rgc a b)) (MO zM))
  have q := three_new w (MO m) (rgc a b) (MO zM)
  have Z := Lib.hid (C3.mk q.1 q.2.1 q.2.2)
  clear q
  obtain ⟨c0, c1, c2, c3, c4, c5⟩ := cells6 Z.out.ha
  obtain ⟨d0, d1, -, -⟩ := has_two Z.out.hb
  obtain ⟨p, q, ok, hq⟩ : ∃ p q ok, meetF m.ky m.to a b = (p, q, ok) := ⟨_, _, _, rfl⟩
  have AM := Lib.hid (rmeet_any m.ky m.to a b)
  rw [hq] at AM
  clear hq
  have h4' : (m.kd != 4) = true := by rw [bne, h4]; rfl
  have HC := Lib.hid (show clipM m a b = (zM, false) by unfold clipM; rw [hp, h4]; rfl)
  rw [HC.out]
  go_enter Tryz.func54, Tryz.ntmps54
  go_wp2_with (first
    | (go_at_call 73; ((with_reducible refine (rpt_any m _).mono ?_); rintro e w1 ⟨rfl, b1⟩; rw [hp]; replace Z := Lib.hid (Z.out.later b1); replace H0 := Lib.hid (bel_trans H0.out b1); clear b1 c0 c1 c2 c3 c4 c5 d0 d1; obtain ⟨c0, c1, c2, c3, c4, c5⟩ := cells6 Z.out.ha; obtain ⟨d0, d1, -, -⟩ := has_two Z.out.hb; obtain ⟨f0, f1, f2, f3, f4, f5⟩ := mo_frozen6 Z.out.hc; obtain ⟨k0, k1, k2, k3, k4, k5⟩ := cells6 Z.out.hc))
    | (go_at_call 42; ((with_reducible refine (AM.out _).mono ?_); rintro e w3 ⟨rfl, b3⟩; replace b3 := bel_alloc b3 (rgc p q); have N3 := Lib.hid (heap_alloc_new w3 (rgc p q)); obtain ⟨n0, n1, -, -⟩ := has_two N3.out; replace Z := Lib.hid (Z.out.later b3); replace H0 := Lib.hid (bel_trans H0.out b3); clear b3 c0 c1 c2 c3 c4 c5 d0 d1 f0 f1 f2 f3 f4 f5 k0 k1 k2 k3 k4 k5; obtain ⟨c0, c1, c2, c3, c4, c5⟩ := cells6 Z.out.ha; obtain ⟨d0, d1, -, -⟩ := has_two Z.out.hb; obtain ⟨f0, f1, f2, f3, f4, f5⟩ := mo_frozen6 Z.out.hc; obtain ⟨k0, k1, k2, k3, k4, k5⟩ := cells6 Z.out.hc))
    | fail)
  refine bodyPost_ret (v := CV (zM, false)) (by simp [results, Tryz.results54, go_sem, k0, k1, k2, k3, k4, k5]) rfl ⟨rfl, ?_⟩
  exact bel6 H0.out (by omega) _ _ _ _ _ _
set_option maxRecDepth 100000 in
set_option maxHeartbeats 8000000 in
theorem rclip_cl (m : MG) (a b : ByteArray) (w : World) (hp : isPt m.kd = false) (h4 : (m.kd == 4) = true) :
    Calls Tryz.prog 54 #[MV m, .agg #[.string a, .string b]] w fun r w' => r = .returned (CV (clipM m a b)) ∧ Below w.heap.size w w' := by
  have h4' : (m.kd != 4) = false := by rw [bne, h4]; rfl
  have h44 : m.kd = 4 := by simpa using h4
  have h4n : ¬ ¬ m.kd = 4 := fun h => h h44
  clear h44
  have H0 := Lib.hid (bel_alloc (bel_alloc (alb w (MO m)) (rgc a b)) (MO zM))
  have q := three_new w (MO m) (rgc a b) (MO zM)
  have Z := Lib.hid (C3.mk q.1 q.2.1 q.2.2)
  clear q
  obtain ⟨c0, c1, c2, c3, c4, c5⟩ := cells6 Z.out.ha
  obtain ⟨d0, d1, -, -⟩ := has_two Z.out.hb
  obtain ⟨p, q, ok, hq⟩ : ∃ p q ok, meetF m.ky m.to a b = (p, q, ok) := ⟨_, _, _, rfl⟩
  have AM := Lib.hid (rmeet_any m.ky m.to a b)
  rw [hq] at AM
  cases ok
  · have HC := Lib.hid (show clipM m a b = (zM, false) by unfold clipM; rw [hp, h4, hq]; rfl)
    rw [HC.out]
    clear hq h4
    go_enter Tryz.func54, Tryz.ntmps54
    go_wp2_with (first
      | (go_at_call 73; ((with_reducible refine (rpt_any m _).mono ?_); rintro e w1 ⟨rfl, b1⟩; rw [hp]; replace Z := Lib.hid (Z.out.later b1); replace H0 := Lib.hid (bel_trans H0.out b1); clear b1 c0 c1 c2 c3 c4 c5 d0 d1; obtain ⟨c0, c1, c2, c3, c4, c5⟩ := cells6 Z.out.ha; obtain ⟨d0, d1, -, -⟩ := has_two Z.out.hb; obtain ⟨f0, f1, f2, f3, f4, f5⟩ := mo_frozen6 Z.out.hc; obtain ⟨k0, k1, k2, k3, k4, k5⟩ := cells6 Z.out.hc))
      | (go_at_call 42; ((with_reducible refine (AM.out _).mono ?_); rintro e w3 ⟨rfl, b3⟩; replace b3 := bel_alloc b3 (rgc p q); have N3 := Lib.hid (heap_alloc_new w3 (rgc p q)); obtain ⟨n0, n1, -, -⟩ := has_two N3.out; replace Z := Lib.hid (Z.out.later b3); replace H0 := Lib.hid (bel_trans H0.out b3); clear b3 c0 c1 c2 c3 c4 c5 d0 d1 f0 f1 f2 f3 f4 f5 k0 k1 k2 k3 k4 k5; obtain ⟨c0, c1, c2, c3, c4, c5⟩ := cells6 Z.out.ha; obtain ⟨d0, d1, -, -⟩ := has_two Z.out.hb; obtain ⟨f0, f1, f2, f3, f4, f5⟩ := mo_frozen6 Z.out.hc; obtain ⟨k0, k1, k2, k3, k4, k5⟩ := cells6 Z.out.hc))
      | fail)
    refine bodyPost_ret (v := CV (zM, false)) (by simp [results, Tryz.results54, go_sem, k0, k1, k2, k3, k4, k5]) rfl ⟨rfl, ?_⟩
    exact bel6 H0.out (by omega) _ _ _ _ _ _
  · have HC := Lib.hid (show clipM m a b = (overM m p q, true) by unfold clipM; rw [hp, h4, hq]; rfl)
    rw [HC.out]
    clear hq h4
    go_enter Tryz.func54, Tryz.ntmps54
    go_wp2_with (first
      | (go_at_call 73; ((with_reducible refine (rpt_any m _).mono ?_); rintro e w1 ⟨rfl, b1⟩; rw [hp]; replace Z := Lib.hid (Z.out.later b1); replace H0 := Lib.hid (bel_trans H0.out b1); clear b1 c0 c1 c2 c3 c4 c5 d0 d1; obtain ⟨c0, c1, c2, c3, c4, c5⟩ := cells6 Z.out.ha; obtain ⟨d0, d1, -, -⟩ := has_two Z.out.hb; obtain ⟨f0, f1, f2, f3, f4, f5⟩ := mo_frozen6 Z.out.hc; obtain ⟨k0, k1, k2, k3, k4, k5⟩ := cells6 Z.out.hc))
      | (go_at_call 42; ((with_reducible refine (AM.out _).mono ?_); rintro e w3 ⟨rfl, b3⟩; replace b3 := bel_alloc b3 (rgc p q); have N3 := Lib.hid (heap_alloc_new w3 (rgc p q)); obtain ⟨n0, n1, -, -⟩ := has_two N3.out; replace Z := Lib.hid (Z.out.later b3); replace H0 := Lib.hid (bel_trans H0.out b3); clear b3 c0 c1 c2 c3 c4 c5 d0 d1 f0 f1 f2 f3 f4 f5 k0 k1 k2 k3 k4 k5; obtain ⟨c0, c1, c2, c3, c4, c5⟩ := cells6 Z.out.ha; obtain ⟨d0, d1, -, -⟩ := has_two Z.out.hb; obtain ⟨f0, f1, f2, f3, f4, f5⟩ := mo_frozen6 Z.out.hc; obtain ⟨k0, k1, k2, k3, k4, k5⟩ := cells6 Z.out.hc; obtain ⟨-, -, j2, j3, -, -⟩ := mo_frozen6 Z.out.ha))
      | fail)
    refine bodyPost_ret (v := CV (overM m p q, true)) (by simp [results, Tryz.results54, go_sem, k0, k1, k2, k3, k4, k5, overM]) rfl ⟨rfl, ?_⟩
    exact bel6 (bel2 H0.out (Nat.le_refl _) _ _) (by omega) _ _ _ _ _ _
theorem rclip_any (m : MG) (a b : ByteArray) (w : World) :
    Calls Tryz.prog 54 #[MV m, .agg #[.string a, .string b]] w fun r w' => r = .returned (CV (clipM m a b)) ∧ Below w.heap.size w w' := by
  cases hp : isPt m.kd
  · cases h4 : (m.kd == 4)
    · exact rclip_no m a b w hp h4
    · exact rclip_cl m a b w hp h4
  · exact rclip_pt m a b w hp
end Go.Proofs.YtilnpeekajnlhaaGreat
namespace Go.Proofs.YtilnpeekajnlhaaGreat
open Go.RowKit Go.Maps
/-- What is answered: messages, in memory that was there or is new. -/
def RowsOf (L : List MG) (w : World) (r : Ending) (w' : World) : Prop := (∃ A' c', r = .returned (.slice A' L.length c') ∧ EG.Rd w' A' L) ∧ Below w.heap.size w w'
theorem bel_of_nil2 {w w' : World} {A : Option Addr} (h : w.grownBy w' (RE.fp A 0)) : Below w.heap.size w w' := ⟨h.os, h.tape, h.output, h.size, fun i hi => h.block i hi (by simp [RE.fp])⟩
set_option maxRecDepth 100000 in
set_option maxHeartbeats 8000000 in
theorem rrest_out (m : MG) (a b : ByteArray) (w : World) (hok : (clipM m a b).2 = false) :
    Calls Tryz.prog 55 #[MV m, .agg #[.string a, .string b]] w (RowsOf (restM m a b) w) := by
  have H0 := Lib.hid (bel_alloc (bel_alloc (alb w (MO m)) (rgc a b)) (.cells #[] 50))
  have Z0 := Lib.hid (two_bel (two_new w (MO m) (rgc a b)) (alb _ (.cells #[] 50)))
  obtain ⟨c0, c1, c2, c3, c4, c5⟩ := cells6 Z0.out.1
  obtain ⟨d0, d1, -, -⟩ := has_two Z0.out.2
  obtain ⟨p, hq⟩ : ∃ p, clipM m a b = (p, false) := ⟨(clipM m a b).1, by rw [← hok]⟩
  have AC := Lib.hid (rclip_any m a b)
  rw [hq] at AC
  by_cases h1 : 1 ≤ m.kd
  · by_cases h2 : m.kd ≤ 4
    · have HR := Lib.hid (show restM m a b = [m] by
        unfold restM restQ; rw [hq]
        by_cases h4 : m.kd = 4
        · rw [h4]; rfl
        · have : isPt m.kd = true := by
            have : m.kd = 1 ∨ m.kd = 2 ∨ m.kd = 3 := by omega
            rcases this with e | e | e <;> rw [e] <;> rfl
          rw [this]; rfl)
      rw [HR.out]
      clear hq hok HR
      have H1 := H0
      go_enter Tryz.func55, Tryz.ntmps55
      go_wp2_with (first
        | (go_at_call 54; ((with_reducible refine (AC.out _).mono ?_); rintro e w2 ⟨rfl, b2⟩; replace b2 := bel_alloc b2 (MO p); have ZP := Lib.hid (heap_alloc_new w2 (MO p)); replace Z0 := Lib.hid (two_bel (W2 := w2.alloc (MO p)) Z0.out b2); replace H0 := Lib.hid (bel_trans H0.out b2); clear b2 d0 d1; clear  c0 c1 c2 c3 c4 c5; obtain ⟨c0, c1, c2, c3, c4, c5⟩ := cells6 Z0.out.1; have BX := Lib.hid (bel_alloc H0.out (MO m)); have RLX : Hid (EG.Rd ((w2.alloc (MO p)).alloc (MO m)) (some ⟨w2.heap.size + 1, 0, none⟩) [m]) := Lib.hid (lit1 _ m (by simp)); obtain ⟨p0, p1, p2, p3, p4, p5⟩ := cells6 ZP.out))
        | (at_builtin; refine RE.wpList_put EG _ rfl (.tmp 27) (.tmp 29) rfl (base := w.heap.size) (some ⟨w.heap.size + 1 + 1, 0, none⟩) 0 0 [] _ 1 1 [m] rfl rfl (.inl ⟨rfl, rfl⟩) rfl (by omega) BX.out.size rfl (by omega) RLX.out ?_; intro A2 q2 w3 r1 r2 r3; have R1 := Lib.hid r1; have B3 := Lib.hid (BX.out.trans (RE.Row.below (E := EG) (W := w) (l := []) r2 (.inl ⟨rfl, rfl⟩) (Nat.le_refl _) BX.out.size)); clear r1 r2 r3)
        | fail)
      go_ret
      exact ⟨⟨_, _, rfl, R1.out.rd⟩, B3.out⟩
    · have HR := Lib.hid (show restM m a b = [] by
        unfold restM restQ; rw [hq]
        have e1 : isPt m.kd = false := by unfold isPt; simp; omega
        have e2 : (m.kd == 4) = false := by simp; omega
        rw [e1, e2]; rfl)
      rw [HR.out]
      clear hq hok HR
      go_enter Tryz.func55, Tryz.ntmps55
      go_wp2_with (first
        | (go_at_call 54; ((with_reducible refine (AC.out _).mono ?_); rintro e w2 ⟨rfl, b2⟩; replace b2 := bel_alloc b2 (MO p); have ZP := Lib.hid (heap_alloc_new w2 (MO p)); replace Z0 := Lib.hid (two_bel (W2 := w2.alloc (MO p)) Z0.out b2); replace H0 := Lib.hid (bel_trans H0.out b2); clear b2 d0 d1; clear  c0 c1 c2 c3 c4 c5; obtain ⟨c0, c1, c2, c3, c4, c5⟩ := cells6 Z0.out.1; obtain ⟨p0, p1, p2, p3, p4, p5⟩ := cells6 ZP.out))
        | fail)
      go_ret
      exact ⟨⟨_, _, rfl, .inl rfl⟩, H0.out⟩
  · have HR := Lib.hid (show restM m a b = [] by
      unfold restM restQ; rw [hq]
      have e1 : isPt m.kd = false := by unfold isPt; simp; omega
      have e2 : (m.kd == 4) = false := by simp; omega
      rw [e1, e2]; rfl)
    rw [HR.out]
    clear hq hok HR
    go_enter Tryz.func55, Tryz.ntmps55
    go_wp2_with (first
      | (go_at_call 54; ((with_reducible refine (AC.out _).mono ?_); rintro e w2 ⟨rfl, b2⟩; replace b2 := bel_alloc b2 (MO p); have ZP := Lib.hid (heap_alloc_new w2 (MO p)); replace Z0 := Lib.hid (two_bel (W2 := w2.alloc (MO p)) Z0.out b2); replace H0 := Lib.hid (bel_trans H0.out b2); clear b2 d0 d1; clear  c0 c1 c2 c3 c4 c5; obtain ⟨c0, c1, c2, c3, c4, c5⟩ := cells6 Z0.out.1; obtain ⟨p0, p1, p2, p3, p4, p5⟩ := cells6 ZP.out))
      | fail)
    go_ret
    exact ⟨⟨_, _, rfl, .inl rfl⟩, H0.out⟩
set_option maxRecDepth 100000 in
set_option maxHeartbeats 8000000 in
theorem rrest_pt (m : MG) (a b : ByteArray) (w : World) (hok : (clipM m a b).2 = true) (hp : isPt m.kd = true) :
    Calls Tryz.prog 55 #[MV m, .agg #[.string a, .string b]] w (RowsOf (restM m a b) w) := by
  have H0 := Lib.hid (bel_alloc (bel_alloc (alb w (MO m)) (rgc a b)) (.cells #[] 50))
  have Z0 := Lib.hid (two_bel (two_new w (MO m) (rgc a b)) (alb _ (.cells #[] 50)))
  obtain ⟨c0, c1, c2, c3, c4, c5⟩ := cells6 Z0.out.1
  obtain ⟨d0, d1, -, -⟩ := has_two Z0.out.2
  obtain ⟨p, hq⟩ : ∃ p, clipM m a b = (p, true) := ⟨(clipM m a b).1, by rw [← hok]⟩
  have AC := Lib.hid (rclip_any m a b)
  rw [hq] at AC
  have h4 : (m.kd != 4) = true := by
    cases h : (m.kd == 4)
    · rw [bne, h]; rfl
    · rw [beq_iff_eq] at h; rw [h] at hp; cases hp
  have HR := Lib.hid (show restM m a b = [] by unfold restM restQ; rw [hq, hp]; rfl)
  rw [HR.out]
  clear hq hok HR
  go_enter Tryz.func55, Tryz.ntmps55
  go_wp2_with (first
    | (go_at_call 54; ((with_reducible refine (AC.out _).mono ?_); rintro e w2 ⟨rfl, b2⟩; replace b2 := bel_alloc b2 (MO p); have ZP := Lib.hid (heap_alloc_new w2 (MO p)); replace Z0 := Lib.hid (two_bel (W2 := w2.alloc (MO p)) Z0.out b2); replace H0 := Lib.hid (bel_trans H0.out b2); clear b2 d0 d1; clear  c0 c1 c2 c3 c4 c5; obtain ⟨c0, c1, c2, c3, c4, c5⟩ := cells6 Z0.out.1; obtain ⟨p0, p1, p2, p3, p4, p5⟩ := cells6 ZP.out))
    | fail)
  go_ret
  exact ⟨⟨_, _, rfl, .inl rfl⟩, H0.out⟩
set_option maxRecDepth 100000 in
set_option maxHeartbeats 8000000 in
theorem rrest_cl (m : MG) (a b : ByteArray) (w : World) (hok : (clipM m a b).2 = true) (h4 : (m.kd == 4) = true) :
    Calls Tryz.prog 55 #[MV m, .agg #[.string a, .string b]] w (RowsOf (restM m a b) w) := by
  have H0 := Lib.hid (bel_alloc (bel_alloc (alb w (MO m)) (rgc a b)) (.cells #[] 50))
  have Z0 := Lib.hid (two_bel (two_new w (MO m) (rgc a b)) (alb _ (.cells #[] 50)))
  obtain ⟨c0, c1, c2, c3, c4, c5⟩ := cells6 Z0.out.1
  obtain ⟨d0, d1, -, -⟩ := has_two Z0.out.2
  obtain ⟨p, hq⟩ : ∃ p, clipM m a b = (p, true) := ⟨(clipM m a b).1, by rw [← hok]⟩
  have AC := Lib.hid (rclip_any m a b)
  rw [hq] at AC
  have h4' : (m.kd != 4) = false := by rw [bne, h4]; rfl
  have h44 : m.kd = 4 := by simpa using h4
  have h4n : ¬ ¬ m.kd = 4 := fun h => h h44
  have HR := Lib.hid (show restM m a b = (if lt m.ky p.ky then [overM m m.ky p.ky] else []) ++ (if bef p.to m.to then [overM m p.to m.to] else []) by
    unfold restM restQ; rw [hq, show isPt m.kd = false by rw [h44]; rfl, h4]; rfl)
  rw [HR.out]
  clear hq hok HR h44 h4
  go_enter Tryz.func55, Tryz.ntmps55
  cases e5 : lt m.ky p.ky
  · have e5' := e5
    unfold lt at e5'
    cases e6 : bef p.to m.to
    · go_wp2_with (first
        | (go_at_call 54; ((with_reducible refine (AC.out _).mono ?_); rintro e w2 ⟨rfl, b2⟩; replace b2 := bel_alloc b2 (MO p); have ZP := Lib.hid (heap_alloc_new w2 (MO p)); replace Z0 := Lib.hid (two_bel (W2 := w2.alloc (MO p)) Z0.out b2); replace H0 := Lib.hid (bel_trans H0.out b2); clear b2 d0 d1; clear  c0 c1 c2 c3 c4 c5; obtain ⟨c0, c1, c2, c3, c4, c5⟩ := cells6 Z0.out.1; obtain ⟨p0, p1, p2, p3, p4, p5⟩ := cells6 ZP.out))
        | (go_at_call 74; ((with_reducible refine (rbefore_any _ _ _).mono ?_); rintro e w4 ⟨rfl, rfl⟩; rw [e6]))
        | fail)
      go_ret
      exact ⟨⟨_, _, rfl, .inl rfl⟩, H0.out⟩
    · go_wp2_with (first
        | (go_at_call 54; ((with_reducible refine (AC.out _).mono ?_); rintro e w2 ⟨rfl, b2⟩; replace b2 := bel_alloc b2 (MO p); have ZP := Lib.hid (heap_alloc_new w2 (MO p)); replace Z0 := Lib.hid (two_bel (W2 := w2.alloc (MO p)) Z0.out b2); replace H0 := Lib.hid (bel_trans H0.out b2); clear b2 d0 d1; clear  c0 c1 c2 c3 c4 c5; obtain ⟨c0, c1, c2, c3, c4, c5⟩ := cells6 Z0.out.1; obtain ⟨p0, p1, p2, p3, p4, p5⟩ := cells6 ZP.out; have BX := Lib.hid (bel_alloc (alb (w2.alloc (MO p)) (MO (overM m p.to m.to))) (MO (overM m p.to m.to))); have RLX : Hid (EG.Rd ((((w2.alloc (MO p))).alloc (MO (overM m p.to m.to))).alloc (MO (overM m p.to m.to))) (some ⟨w2.heap.size + 1 + 1, 0, none⟩) [overM m p.to m.to]) := Lib.hid (lit1 _ _ (by simp)); ))
        | (go_at_call 74; ((with_reducible refine (rbefore_any _ _ _).mono ?_); rintro e w4 ⟨rfl, rfl⟩; rw [e6]))
        | (at_builtin; refine RE.wpList_put EG _ rfl (.tmp 58) (.tmp 60) rfl (base := w.heap.size) (some ⟨w.heap.size + 1 + 1, 0, none⟩) 0 0 [] _ 1 1 [overM m p.to m.to] rfl rfl (.inl ⟨rfl, rfl⟩) rfl (by omega) (bel_trans H0.out BX.out).size rfl (by omega) RLX.out ?_; intro A58 q58 w58 r1 r2 r3; have R58 := Lib.hid r1; have HZ := Lib.hid ((bel_trans H0.out BX.out).trans (RE.Row.below (E := EG) r2 ((.inl ⟨rfl, rfl⟩ : EG.Row w w.heap.size (some ⟨w.heap.size + 1 + 1, 0, none⟩) [] 0)) (Nat.le_refl _) (bel_trans H0.out BX.out).size)); clear r1 r2 r3)
        | fail)
      go_ret
      exact ⟨⟨_, _, rfl, R58.out.rd⟩, HZ.out⟩
  · have e5' := e5
    unfold lt at e5'
    cases e6 : bef p.to m.to
    · go_wp2_with (first
        | (go_at_call 54; ((with_reducible refine (AC.out _).mono ?_); rintro e w2 ⟨rfl, b2⟩; replace b2 := bel_alloc b2 (MO p); have ZP := Lib.hid (heap_alloc_new w2 (MO p)); replace Z0 := Lib.hid (two_bel (W2 := w2.alloc (MO p)) Z0.out b2); replace H0 := Lib.hid (bel_trans H0.out b2); clear b2 d0 d1; clear  c0 c1 c2 c3 c4 c5; obtain ⟨c0, c1, c2, c3, c4, c5⟩ := cells6 Z0.out.1; obtain ⟨p0, p1, p2, p3, p4, p5⟩ := cells6 ZP.out; have BX := Lib.hid (bel_alloc (alb (w2.alloc (MO p)) (MO (overM m m.ky p.ky))) (MO (overM m m.ky p.ky))); have RLX : Hid (EG.Rd ((((w2.alloc (MO p))).alloc (MO (overM m m.ky p.ky))).alloc (MO (overM m m.ky p.ky))) (some ⟨w2.heap.size + 1 + 1, 0, none⟩) [overM m m.ky p.ky]) := Lib.hid (lit1 _ _ (by simp)); ))
        | (go_at_call 74; ((with_reducible refine (rbefore_any _ _ _).mono ?_); rintro e w4 ⟨rfl, rfl⟩; rw [e6]))
        | (at_builtin; refine RE.wpList_put EG _ rfl (.tmp 45) (.tmp 47) rfl (base := w.heap.size) (some ⟨w.heap.size + 1 + 1, 0, none⟩) 0 0 [] _ 1 1 [overM m m.ky p.ky] rfl rfl (.inl ⟨rfl, rfl⟩) rfl (by omega) (bel_trans H0.out BX.out).size rfl (by omega) RLX.out ?_; intro A45 q45 w45 r1 r2 r3; have R45 := Lib.hid r1; have bu := bel_trans BX.out (bel_of_nil2 r2); replace ZP := Lib.hid (keep_bel bu ZP.out); replace Z0 := Lib.hid (two_bel Z0.out bu); replace H0 := Lib.hid (bel_trans H0.out bu); clear bu BX RLX c0 c1 c2 c3 c4 c5 p0 p1 p2 p3 p4 p5; obtain ⟨c0, c1, c2, c3, c4, c5⟩ := cells6 Z0.out.1; obtain ⟨p0, p1, p2, p3, p4, p5⟩ := cells6 ZP.out; clear r1 r2 r3)
        | fail)
      go_ret
      exact ⟨⟨_, _, rfl, R45.out.rd⟩, H0.out⟩
    · go_wp2_with (first
        | (go_at_call 54; ((with_reducible refine (AC.out _).mono ?_); rintro e w2 ⟨rfl, b2⟩; replace b2 := bel_alloc b2 (MO p); have ZP := Lib.hid (heap_alloc_new w2 (MO p)); replace Z0 := Lib.hid (two_bel (W2 := w2.alloc (MO p)) Z0.out b2); replace H0 := Lib.hid (bel_trans H0.out b2); clear b2 d0 d1; clear  c0 c1 c2 c3 c4 c5; obtain ⟨c0, c1, c2, c3, c4, c5⟩ := cells6 Z0.out.1; obtain ⟨p0, p1, p2, p3, p4, p5⟩ := cells6 ZP.out; have BX := Lib.hid (bel_alloc (alb (w2.alloc (MO p)) (MO (overM m m.ky p.ky))) (MO (overM m m.ky p.ky))); have RLX : Hid (EG.Rd ((((w2.alloc (MO p))).alloc (MO (overM m m.ky p.ky))).alloc (MO (overM m m.ky p.ky))) (some ⟨w2.heap.size + 1 + 1, 0, none⟩) [overM m m.ky p.ky]) := Lib.hid (lit1 _ _ (by simp)); ))
        | (go_at_call 74; ((with_reducible refine (rbefore_any _ _ _).mono ?_); rintro e w4 ⟨rfl, rfl⟩; rw [e6]))
        | (at_builtin; refine RE.wpList_put EG _ rfl (.tmp 45) (.tmp 47) rfl (base := w.heap.size) (some ⟨w.heap.size + 1 + 1, 0, none⟩) 0 0 [] _ 1 1 [overM m m.ky p.ky] rfl rfl (.inl ⟨rfl, rfl⟩) rfl (by omega) (bel_trans H0.out BX.out).size rfl (by omega) RLX.out ?_; intro A45 q45 w45 r1 r2 r3; have R45 := Lib.hid r1; have bu := bel_trans BX.out (bel_of_nil2 r2); replace ZP := Lib.hid (keep_bel bu ZP.out); replace Z0 := Lib.hid (two_bel Z0.out bu); replace H0 := Lib.hid (bel_trans H0.out bu); clear bu BX RLX c0 c1 c2 c3 c4 c5 p0 p1 p2 p3 p4 p5; obtain ⟨c0, c1, c2, c3, c4, c5⟩ := cells6 Z0.out.1; obtain ⟨p0, p1, p2, p3, p4, p5⟩ := cells6 ZP.out; have BX := Lib.hid (bel_alloc (alb w45 (MO (overM m p.to m.to))) (MO (overM m p.to m.to))); have RLX : Hid (EG.Rd (((w45).alloc (MO (overM m p.to m.to))).alloc (MO (overM m p.to m.to))) (some ⟨w45.heap.size + 1, 0, none⟩) [overM m p.to m.to]) := Lib.hid (lit1 _ _ (by simp)); have RW := Lib.hid (R45.out.later BX.out); have p3b := bel_later (alb w45 (MO m)) p3; clear r1 r2 r3)
        | (at_builtin; refine RE.wpList_put EG _ rfl (.tmp 58) (.tmp 60) rfl (base := w.heap.size) A45 1 q45 [overM m m.ky p.ky] _ 1 1 [overM m p.to m.to] rfl rfl RW.out rfl (by omega) (bel_trans H0.out BX.out).size rfl (by omega) RLX.out ?_; intro A58 q58 w58 r1 r2 r3; have R58 := Lib.hid r1; have HZ := Lib.hid ((bel_trans H0.out BX.out).trans (RE.Row.below (E := EG) r2 (RW.out) (Nat.le_refl _) (bel_trans H0.out BX.out).size)); clear r1 r2 r3)
        | fail)
      go_ret
      exact ⟨⟨_, _, rfl, R58.out.rd⟩, HZ.out⟩
theorem rrest_any (m : MG) (a b : ByteArray) (w : World) :
    Calls Tryz.prog 55 #[MV m, .agg #[.string a, .string b]] w (RowsOf (restM m a b) w) := by
  cases hok : (clipM m a b).2
  · exact rrest_out m a b w hok
  · cases hp : isPt m.kd
    · cases h4 : (m.kd == 4)
      · exfalso
        have : clipM m a b = (zM, false) := by unfold clipM; rw [hp, h4]; rfl
        rw [this] at hok; cases hok
      · exact rrest_cl m a b w hok h4
    · exact rrest_pt m a b w hok hp
end Go.Proofs.YtilnpeekajnlhaaGreat
