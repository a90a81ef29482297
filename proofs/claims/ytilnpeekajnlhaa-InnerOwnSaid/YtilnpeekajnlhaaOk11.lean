/- Texts of the proof, one behind the other. -/
import Derived.Test.YtilnpeekajnlhaaOk10
import Derived.Test.YtilnpeekajnlhaaOk02
import Derived.Test.YtilnpeekajnlhaaOk07
set_option linter.unusedVariables false
set_option linter.unusedSimpArgs false
namespace Go.Proofs.Ytilnpeekajnlhaa
open Go.RowKit Go.Maps
def restQ (m : MG) (q : MG × Bool) : List MG :=
  if isPt m.kd then (if q.2 then [] else [m])
  else if m.kd == 4 then
    (if q.2 then (if lt m.ky q.1.ky then [overM m m.ky q.1.ky] else []) ++ (if bef q.1.to m.to then [overM m q.1.to m.to] else []) else [m])
  else []
def restM (m : MG) (a b : ByteArray) : List MG := restQ m (clipM m a b)
theorem lit1 (W : World) (m : MG) {g : Nat} (hg : g = W.heap.size) : EG.Rd (W.alloc (MO m)) (some ⟨g, 0, none⟩) [m] := by
  rw [hg]; exact RE.Rd.lit (E := EG) W 62 [m] #[.int .u8 m.kd, .int .i64 m.sq, .string m.ky, .string m.to, .string m.vl, .int .u64 m.dl] rfl
theorem bel_of_nil {w w' : World} (h : w.grownBy w' (RE.fp none 0)) : Below w.heap.size w w' := ⟨h.os, h.tape, h.output, h.size, fun i hi => h.block i hi (by simp [RE.fp])⟩
theorem two_bel {W W2 : World} {g h : Nat} {x y : Obj} (z : W.heap[g]? = some x ∧ W.heap[h]? = some y) (k : Below W.heap.size W W2) : W2.heap[g]? = some x ∧ W2.heap[h]? = some y := ⟨keep_bel k z.1, keep_bel k z.2⟩
theorem alb2 {W : World} (X : World) (o : Obj) (h : Below W.heap.size W X) : Below W.heap.size X (X.alloc o) := (alb X o).mono h.size
set_option maxRecDepth 100000 in
set_option maxHeartbeats 8000000 in
theorem rest_pt (m : MG) (ho : m.Ok) (a b : ByteArray) (w : World) (hp : isPt m.kd = true) :
    Calls Try.prog 73 #[MV m, .agg #[.string a, .string b]] w fun r w' => (∃ A' c', r = .returned (.slice A' (restM m a b).length c') ∧ EG.Rd w' A' (restM m a b)) ∧ Below w.heap.size w w' := by
  have h4 : (m.kd == 4) = false := by
    cases h : (m.kd == 4)
    · rfl
    · rw [beq_iff_eq] at h; rw [h] at hp; cases hp
  have h4n : ¬ m.kd = 4 := by intro h; rw [h] at h4; cases h4
  obtain ⟨p, ok, hq⟩ : ∃ p ok, clipM m a b = (p, ok) := ⟨_, _, rfl⟩
  have HR : Hid (restM m a b = if ok then [] else [m]) := Lib.hid (by unfold restM restQ; rw [hq, if_pos hp])
  rw [HR.out]
  have AC := Lib.hid (clip_any m ho a b)
  rw [hq] at AC
  clear HR hq ho
  have H0 := Lib.hid (bel_alloc (alb w (MO m)) (rgc a b))
  have Z0 := Lib.hid (two_new w (MO m) (rgc a b))
  obtain ⟨c0, c1, c2, c3, c4, c5⟩ := cells6 Z0.out.1
  obtain ⟨d0, d1, -, -⟩ := has_two Z0.out.2
  go_enter Try.func73, Try.ntmps73
  cases ok
  all_goals
    go_wp2_with (first
      | (go_at_call 81; ((with_reducible refine (isp_any m _).mono ?_); rintro e w1 ⟨rfl, b1⟩; rw [hp]; replace Z0 := Lib.hid (two_bel Z0.out b1); replace H0 := Lib.hid (bel_trans H0.out b1); clear b1 c0 c1 c2 c3 c4 c5 d0 d1; obtain ⟨c0, c1, c2, c3, c4, c5⟩ := cells6 Z0.out.1; obtain ⟨d0, d1, -, -⟩ := has_two Z0.out.2))
      | (go_at_call 89; ((with_reducible refine (AC.out _).mono ?_); rintro e w2 ⟨rfl, b2⟩; have ZP := Lib.hid (heap_alloc_new w2 (MO p)); have ZA := Lib.hid (two_bel Z0.out b2); replace Z0 := Lib.hid (two_bel ZA.out (alb w2 (MO p))); replace H0 := Lib.hid (bel_alloc (bel_trans H0.out b2) (MO p)); clear b2 c0 c1 c2 c3 c4 c5 d0 d1; obtain ⟨c0, c1, c2, c3, c4, c5⟩ := cells6 Z0.out.1; obtain ⟨d0, d1, -, -⟩ := has_two Z0.out.2))
      | fail)
  · go_ret
    exact ⟨⟨_, ⟨_, rfl⟩, lit1 _ m (by simp)⟩, bel_alloc H0.out _⟩
  · go_ret
    exact ⟨⟨_, ⟨_, rfl⟩, .inl rfl⟩, H0.out⟩
set_option maxRecDepth 100000 in
set_option maxHeartbeats 8000000 in
theorem rest_cl (m : MG) (ho : m.Ok) (a b : ByteArray) (w : World) (hp : isPt m.kd = false) (h4 : (m.kd == 4) = true) :
    Calls Try.prog 73 #[MV m, .agg #[.string a, .string b]] w fun r w' => (∃ A' c', r = .returned (.slice A' (restM m a b).length c') ∧ EG.Rd w' A' (restM m a b)) ∧ Below w.heap.size w w' := by
  have hb4 : (m.kd != 4) = false := by rw [bne, h4]; rfl
  have h44 : m.kd = 4 := by simpa using h4
  have h4n : ¬ ¬ m.kd = 4 := fun h => h h44
  clear h44
  obtain ⟨p, ok, hq⟩ : ∃ p ok, clipM m a b = (p, ok) := ⟨_, _, rfl⟩
  have HR : Hid (restM m a b = if ok then (if lt m.ky p.ky then [overM m m.ky p.ky] else []) ++ (if bef p.to m.to then [overM m p.to m.to] else []) else [m]) := Lib.hid (by unfold restM restQ; rw [hq, hp, h4]; rfl)
  rw [HR.out]
  have AC := Lib.hid (clip_any m ho a b)
  rw [hq] at AC
  clear HR hq ho h4
  have H0 := Lib.hid (bel_alloc (alb w (MO m)) (rgc a b))
  have Z0 := Lib.hid (two_new w (MO m) (rgc a b))
  obtain ⟨c0, c1, c2, c3, c4, c5⟩ := cells6 Z0.out.1
  obtain ⟨d0, d1, -, -⟩ := has_two Z0.out.2
  go_enter Try.func73, Try.ntmps73
  cases ok
  · go_wp2_with (first
      | (go_at_call 89; ((with_reducible refine (AC.out _).mono ?_); rintro e w2 ⟨rfl, b2⟩; have ZP := Lib.hid (heap_alloc_new w2 (MO p)); have ZA := Lib.hid (two_bel Z0.out b2); replace Z0 := Lib.hid (two_bel ZA.out (alb w2 (MO p))); replace H0 := Lib.hid (bel_alloc (bel_trans H0.out b2) (MO p)); clear b2 c0 c1 c2 c3 c4 c5 d0 d1; obtain ⟨c0, c1, c2, c3, c4, c5⟩ := cells6 Z0.out.1))
      | fail)
    go_ret
    exact ⟨⟨_, ⟨_, rfl⟩, lit1 _ m (by simp)⟩, bel_alloc H0.out _⟩
  · cases e5 : lt m.ky p.ky <;> cases e6 : bef p.to m.to
    · have e5' := e5
      unfold lt at e5'
      go_wp2_with (first
        | (go_at_call 89; ((with_reducible refine (AC.out _).mono ?_); rintro e w2 ⟨rfl, b2⟩; have ZP := Lib.hid (heap_alloc_new w2 (MO p)); have ZA := Lib.hid (two_bel Z0.out b2); replace Z0 := Lib.hid (two_bel ZA.out (alb w2 (MO p))); replace H0 := Lib.hid (bel_alloc (bel_trans H0.out b2) (MO p)); clear b2 c0 c1 c2 c3 c4 c5 d0 d1; obtain ⟨c0, c1, c2, c3, c4, c5⟩ := cells6 Z0.out.1))
        | (go_at_call 81; ((with_reducible refine (isp_any m _).mono ?_); rintro e w3 ⟨rfl, b3⟩; rw [hp]; replace ZP := Lib.hid (keep_bel b3 ZP.out); replace Z0 := Lib.hid (two_bel Z0.out b3); replace H0 := Lib.hid (bel_trans H0.out b3); clear b3 c0 c1 c2 c3 c4 c5; obtain ⟨c0, c1, c2, c3, c4, c5⟩ := cells6 Z0.out.1; obtain ⟨p0, p1, p2, p3, p4, p5⟩ := cells6 ZP.out))
        | (go_at_call 103; ((with_reducible refine (before_any _ _ _).mono ?_); rintro e w4 ⟨rfl, rfl⟩; rw [e6]))
        | fail)
      go_ret
      exact ⟨⟨_, ⟨_, rfl⟩, .inl rfl⟩, H0.out⟩
    · have e5' := e5
      unfold lt at e5'
      go_wp2_with (first
        | (go_at_call 89; ((with_reducible refine (AC.out _).mono ?_); rintro e w2 ⟨rfl, b2⟩; have ZP := Lib.hid (heap_alloc_new w2 (MO p)); have ZA := Lib.hid (two_bel Z0.out b2); replace Z0 := Lib.hid (two_bel ZA.out (alb w2 (MO p))); replace H0 := Lib.hid (bel_alloc (bel_trans H0.out b2) (MO p)); clear b2 c0 c1 c2 c3 c4 c5 d0 d1; obtain ⟨c0, c1, c2, c3, c4, c5⟩ := cells6 Z0.out.1))
        | (go_at_call 81; ((with_reducible refine (isp_any m _).mono ?_); rintro e w3 ⟨rfl, b3⟩; rw [hp]; replace ZP := Lib.hid (keep_bel b3 ZP.out); replace Z0 := Lib.hid (two_bel Z0.out b3); replace H0 := Lib.hid (bel_trans H0.out b3); clear b3 c0 c1 c2 c3 c4 c5; obtain ⟨c0, c1, c2, c3, c4, c5⟩ := cells6 Z0.out.1; obtain ⟨p0, p1, p2, p3, p4, p5⟩ := cells6 ZP.out))
        | (go_at_call 103; ((with_reducible refine (before_any _ _ _).mono ?_); rintro e w4 ⟨rfl, rfl⟩; rw [e6]))
        | (go_at_call 102; ((with_reducible refine (over_any m p.to m.to _).mono ?_); rintro e vB ⟨rfl, bB⟩; replace ZP := Lib.hid (keep_bel (bel_trans bB (alb vB (MO (overM m p.to m.to)))) ZP.out); replace Z0 := Lib.hid (two_bel Z0.out (bel_trans bB (alb vB (MO (overM m p.to m.to))))); replace H0 := Lib.hid (bel_alloc (bel_trans H0.out bB) (MO (overM m p.to m.to))); have RLB := Lib.hid (RE.Rd.lit (E := EG) vB 62 [overM m p.to m.to] #[.int .u8 m.kd, .int .i64 m.sq, .string p.to, .string m.to, .string m.vl, .int .u64 m.dl] rfl); have RWB := Lib.hid ((RE.Row.nil : EG.Row (vB.alloc (MO (overM m p.to m.to))) w.heap.size none [] 0)); clear bB c0 c1 c2 c3 c4 c5 p0 p1 p2 p3 p4 p5))
        | (at_builtin; refine RE.wpList_put EG _ rfl (.tmp 49) (.tmp 57) rfl (base := w.heap.size) none 0 0 _ _ 1 1 _ rfl rfl RWB.out rfl (by omega) H0.out.size rfl (by omega) RLB.out ?_; intro AB cB uB r1 r2 r3; have RB := Lib.hid r1; have GB := Lib.hid r2; have BB := Lib.hid (H0.out.trans (RE.Row.below r2 RWB.out (Nat.le_refl _) H0.out.size)); clear r1 r2 r3)
        | fail)
      go_ret
      exact ⟨⟨_, ⟨_, rfl⟩, RB.out.rd⟩, BB.out⟩
    · have e5' := e5
      unfold lt at e5'
      go_wp2_with (first
        | (go_at_call 89; ((with_reducible refine (AC.out _).mono ?_); rintro e w2 ⟨rfl, b2⟩; have ZP := Lib.hid (heap_alloc_new w2 (MO p)); have ZA := Lib.hid (two_bel Z0.out b2); replace Z0 := Lib.hid (two_bel ZA.out (alb w2 (MO p))); replace H0 := Lib.hid (bel_alloc (bel_trans H0.out b2) (MO p)); clear b2 c0 c1 c2 c3 c4 c5 d0 d1; obtain ⟨c0, c1, c2, c3, c4, c5⟩ := cells6 Z0.out.1))
        | (go_at_call 81; ((with_reducible refine (isp_any m _).mono ?_); rintro e w3 ⟨rfl, b3⟩; rw [hp]; replace ZP := Lib.hid (keep_bel b3 ZP.out); replace Z0 := Lib.hid (two_bel Z0.out b3); replace H0 := Lib.hid (bel_trans H0.out b3); clear b3 c0 c1 c2 c3 c4 c5; obtain ⟨c0, c1, c2, c3, c4, c5⟩ := cells6 Z0.out.1; obtain ⟨p0, p1, p2, p3, p4, p5⟩ := cells6 ZP.out))
        | (go_at_call 103; ((with_reducible refine (before_any _ _ _).mono ?_); rintro e w4 ⟨rfl, rfl⟩; rw [e6]))
        | (go_at_call 102; ((with_reducible refine (over_any m m.ky p.ky _).mono ?_); rintro e vA ⟨rfl, bA⟩; replace ZP := Lib.hid (keep_bel (bel_trans bA (alb vA (MO (overM m m.ky p.ky)))) ZP.out); replace Z0 := Lib.hid (two_bel Z0.out (bel_trans bA (alb vA (MO (overM m m.ky p.ky))))); replace H0 := Lib.hid (bel_alloc (bel_trans H0.out bA) (MO (overM m m.ky p.ky))); have RLA := Lib.hid (RE.Rd.lit (E := EG) vA 62 [overM m m.ky p.ky] #[.int .u8 m.kd, .int .i64 m.sq, .string m.ky, .string p.ky, .string m.vl, .int .u64 m.dl] rfl); have RWA := Lib.hid ((RE.Row.nil : EG.Row (vA.alloc (MO (overM m m.ky p.ky))) w.heap.size none [] 0)); clear bA c0 c1 c2 c3 c4 c5 p0 p1 p2 p3 p4 p5))
        | (at_builtin; refine RE.wpList_put EG _ rfl (.tmp 34) (.tmp 42) rfl (base := w.heap.size) none 0 0 _ _ 1 1 _ rfl rfl RWA.out rfl (by omega) H0.out.size rfl (by omega) RLA.out ?_; intro AA cA uA r1 r2 r3; have RA := Lib.hid r1; have BA := Lib.hid (H0.out.trans (RE.Row.below r2 RWA.out (Nat.le_refl _) H0.out.size)); have bu := bel_of_nil r2; replace ZP := Lib.hid (keep_bel bu ZP.out); replace Z0 := Lib.hid (two_bel Z0.out bu); replace H0 := Lib.hid (bel_trans H0.out bu); obtain ⟨c0, c1, c2, c3, c4, c5⟩ := cells6 Z0.out.1; obtain ⟨p0, p1, p2, p3, p4, p5⟩ := cells6 ZP.out; clear bu; clear r1 r2 r3)
        | fail)
      go_ret
      exact ⟨⟨_, ⟨_, rfl⟩, RA.out.rd⟩, BA.out⟩
    · have e5' := e5
      unfold lt at e5'
      go_wp2_with (first
        | (go_at_call 89; ((with_reducible refine (AC.out _).mono ?_); rintro e w2 ⟨rfl, b2⟩; have ZP := Lib.hid (heap_alloc_new w2 (MO p)); have ZA := Lib.hid (two_bel Z0.out b2); replace Z0 := Lib.hid (two_bel ZA.out (alb w2 (MO p))); replace H0 := Lib.hid (bel_alloc (bel_trans H0.out b2) (MO p)); clear b2 c0 c1 c2 c3 c4 c5 d0 d1; obtain ⟨c0, c1, c2, c3, c4, c5⟩ := cells6 Z0.out.1))
        | (go_at_call 81; ((with_reducible refine (isp_any m _).mono ?_); rintro e w3 ⟨rfl, b3⟩; rw [hp]; replace ZP := Lib.hid (keep_bel b3 ZP.out); replace Z0 := Lib.hid (two_bel Z0.out b3); replace H0 := Lib.hid (bel_trans H0.out b3); clear b3 c0 c1 c2 c3 c4 c5; obtain ⟨c0, c1, c2, c3, c4, c5⟩ := cells6 Z0.out.1; obtain ⟨p0, p1, p2, p3, p4, p5⟩ := cells6 ZP.out))
        | (go_at_call 103; ((with_reducible refine (before_any _ _ _).mono ?_); rintro e w4 ⟨rfl, rfl⟩; rw [e6]))
        | (go_at_call 102; ((with_reducible refine (over_any m m.ky p.ky _).mono ?_); rintro e vA ⟨rfl, bA⟩; replace ZP := Lib.hid (keep_bel (bel_trans bA (alb vA (MO (overM m m.ky p.ky)))) ZP.out); replace Z0 := Lib.hid (two_bel Z0.out (bel_trans bA (alb vA (MO (overM m m.ky p.ky))))); replace H0 := Lib.hid (bel_alloc (bel_trans H0.out bA) (MO (overM m m.ky p.ky))); have RLA := Lib.hid (RE.Rd.lit (E := EG) vA 62 [overM m m.ky p.ky] #[.int .u8 m.kd, .int .i64 m.sq, .string m.ky, .string p.ky, .string m.vl, .int .u64 m.dl] rfl); have RWA := Lib.hid ((RE.Row.nil : EG.Row (vA.alloc (MO (overM m m.ky p.ky))) w.heap.size none [] 0)); clear bA c0 c1 c2 c3 c4 c5 p0 p1 p2 p3 p4 p5))
        | (at_builtin; refine RE.wpList_put EG _ rfl (.tmp 34) (.tmp 42) rfl (base := w.heap.size) none 0 0 _ _ 1 1 _ rfl rfl RWA.out rfl (by omega) H0.out.size rfl (by omega) RLA.out ?_; intro AA cA uA r1 r2 r3; have RA := Lib.hid r1; have BA := Lib.hid (H0.out.trans (RE.Row.below r2 RWA.out (Nat.le_refl _) H0.out.size)); have bu := bel_of_nil r2; replace ZP := Lib.hid (keep_bel bu ZP.out); replace Z0 := Lib.hid (two_bel Z0.out bu); replace H0 := Lib.hid (bel_trans H0.out bu); obtain ⟨c0, c1, c2, c3, c4, c5⟩ := cells6 Z0.out.1; obtain ⟨p0, p1, p2, p3, p4, p5⟩ := cells6 ZP.out; clear bu; clear r1 r2 r3)
        | (go_at_call 102; ((with_reducible refine (over_any m p.to m.to _).mono ?_); rintro e vC ⟨rfl, bC⟩; replace ZP := Lib.hid (keep_bel (bel_trans bC (alb vC (MO (overM m p.to m.to)))) ZP.out); replace Z0 := Lib.hid (two_bel Z0.out (bel_trans bC (alb vC (MO (overM m p.to m.to))))); replace H0 := Lib.hid (bel_alloc (bel_trans H0.out bC) (MO (overM m p.to m.to))); have RLC := Lib.hid (RE.Rd.lit (E := EG) vC 62 [overM m p.to m.to] #[.int .u8 m.kd, .int .i64 m.sq, .string p.to, .string m.to, .string m.vl, .int .u64 m.dl] rfl); have RWC := Lib.hid (RA.out.later (bel_trans bC (alb vC (MO (overM m p.to m.to))))); clear bC c0 c1 c2 c3 c4 c5 p0 p1 p2 p3 p4 p5))
        | (at_builtin; refine RE.wpList_put EG _ rfl (.tmp 49) (.tmp 57) rfl (base := w.heap.size) AA 1 cA _ _ 1 1 _ rfl rfl RWC.out rfl (by omega) H0.out.size rfl (by omega) RLC.out ?_; intro AC2 cC uC r1 r2 r3; have RC := Lib.hid r1;  have BC := Lib.hid (H0.out.trans (RE.Row.below r2 RWC.out (Nat.le_refl _) H0.out.size)); clear r1 r2 r3)
        | fail)
      go_ret
      exact ⟨⟨_, ⟨_, rfl⟩, RC.out.rd⟩, BC.out⟩
theorem rest_no (m : MG) (a b : ByteArray) (w : World) (hp : isPt m.kd = false) (h4 : (m.kd == 4) = false) :
    Calls Try.prog 73 #[MV m, .agg #[.string a, .string b]] w fun r w' => (∃ A' c', r = .returned (.slice A' (restM m a b).length c') ∧ EG.Rd w' A' (restM m a b)) ∧ Below w.heap.size w w' := by
  have h4n : ¬ m.kd = 4 := by intro h; rw [h] at h4; cases h4
  have HR : Hid (restM m a b = []) := Lib.hid (by unfold restM restQ; rw [hp, h4]; rfl)
  rw [HR.out]
  clear HR
  have H0 := Lib.hid (bel_alloc (alb w (MO m)) (rgc a b))
  have Z0 := Lib.hid (two_new w (MO m) (rgc a b))
  obtain ⟨c0, c1, c2, c3, c4, c5⟩ := cells6 Z0.out.1
  go_enter Try.func73, Try.ntmps73
  go_wp2_with (first
    | (go_at_call 81; ((with_reducible refine (isp_any m _).mono ?_); rintro e w1 ⟨rfl, b1⟩; rw [hp]; have H1 := Lib.hid (bel_trans H0.out b1); clear b1))
    | fail)
  go_ret
  exact ⟨⟨none, 0, rfl, .inl rfl⟩, H1.out⟩
theorem rest_any (m : MG) (ho : m.Ok) (a b : ByteArray) (w : World) :
    Calls Try.prog 73 #[MV m, .agg #[.string a, .string b]] w fun r w' => (∃ A' c', r = .returned (.slice A' (restM m a b).length c') ∧ EG.Rd w' A' (restM m a b)) ∧ Below w.heap.size w w' := by
  cases hp : isPt m.kd
  · cases h4 : (m.kd == 4)
    · exact rest_no m a b w hp h4
    · exact rest_cl m ho a b w hp h4
  · exact rest_pt m ho a b w hp
end Go.Proofs.Ytilnpeekajnlhaa
namespace Go.Proofs.Ytilnpeekajnlhaa
open Go.RowKit Go.Maps
def forL (a b : ByteArray) (xs : List MG) : List MG := xs.flatMap fun x => if (clipM x a b).2 then [(clipM x a b).1] else []
def resL (a b : ByteArray) (xs : List MG) : List MG := xs.flatMap fun x => restM x a b
theorem forL_next {a b : ByteArray} {xs : List MG} {k : Nat} {x : MG} (h : xs[k]? = some x) : forL a b (xs.take (k + 1)) = forL a b (xs.take k) ++ (if (clipM x a b).2 then [(clipM x a b).1] else []) := by
  rw [List.take_add_one, h]; simp [forL]
theorem resL_next {a b : ByteArray} {xs : List MG} {k : Nat} {x : MG} (h : xs[k]? = some x) : resL a b (xs.take (k + 1)) = resL a b (xs.take k) ++ restM x a b := by
  rw [List.take_add_one, h]; simp [resL]
theorem forL_len (a b : ByteArray) (xs : List MG) : (forL a b xs).length ≤ xs.length := by
  induction xs with
  | nil => simp [forL]
  | cons x xs ih =>
    have e : forL a b (x :: xs) = (if (clipM x a b).2 then [(clipM x a b).1] else []) ++ forL a b xs := by simp [forL]
    rw [e, List.length_append]
    split <;> simp <;> omega
theorem rest_len (m : MG) (a b : ByteArray) : (restM m a b).length ≤ 2 := by
  unfold restM restQ
  repeat' split
  all_goals simp
theorem resL_len (a b : ByteArray) (xs : List MG) : (resL a b xs).length ≤ 2 * xs.length := by
  induction xs with
  | nil => simp [resL]
  | cons x xs ih =>
    have e : resL a b (x :: xs) = restM x a b ++ resL a b xs := by simp [resL]
    have := rest_len x a b
    rw [e, List.length_append, List.length_cons]; omega
theorem take_le (xs : List MG) (k : Nat) : (xs.take k).length ≤ k := by simp [List.length_take]; omega
set_option maxRecDepth 10000 in
set_option maxHeartbeats 4000000 in
theorem for_any (a b : ByteArray) (A : Option Addr) (n cap : Nat) (xs : List MG) (w : World) (hl : xs.length = n) (hn : n ≤ 1000) (hA : EG.Rd w A xs) (ho : OkA xs) :
    Calls Try.prog 48 #[.slice A n cap, .agg #[.string a, .string b]] w fun r w' => (∃ A' c', r = .returned (.slice A' (forL a b xs).length c') ∧ EG.Row w' w.heap.size A' (forL a b xs) c') ∧ Below w.heap.size w w' := by
  have HL := Lib.hid hl
  have HA := Lib.hid hA
  have HO := Lib.hid ho
  have H0 := Lib.hid (alb w (rgc a b))
  have z0 := Lib.hid (heap_alloc_new w (rgc a b))
  clear hl hA ho
  go_enter Try.func48, Try.ntmps48
  go_wp2
  go_loopw [5, 12] (fun sv iv wr => ∃ (k : Nat) (A' : Option Addr) (c' m : Nat), k ≤ n ∧ iv = .int .i64 k ∧ sv = .slice A' m c' ∧ (forL a b (xs.take k)).length = m ∧ EG.Row wr (w.alloc (rgc a b)).heap.size A' (forL a b (xs.take k)) c' ∧ Below (w.alloc (rgc a b)).heap.size (w.alloc (rgc a b)) wr) (fun _ i _ => n - (intOf i).toNat)
  case atStart => exact ⟨0, none, 0, 0, by omega, rfl, rfl, rfl, .inl ⟨rfl, rfl⟩, Below.refl _ _⟩
  case round =>
    obtain ⟨k, A', c', m, hk, rfl, rfl, hm, hr, hb⟩ := hrel
    have HM := Lib.hid hm
    have HR := Lib.hid hr
    have HB := Lib.hid (bel_trans H0.out hb)
    have HP := Lib.hid hb
    have ZR := Lib.hid (keep_bel hb z0.out)
    clear hm hr hb
    by_cases h8 : k < n
    · have hk1 : (k : Int) < (n : Int) := by omega
      have hk0 : (0 : Int) ≤ (k : Int) := by omega
      obtain ⟨x, hx⟩ : ∃ x, xs[k]? = some x := ⟨_, List.getElem?_eq_getElem (by rw [HL.out]; omega)⟩
      obtain ⟨b', off, rfl, hlt, g0, g1, g2, g3, g4, g5⟩ := eg_at (HA.out.later HB.out) hx
      have HNX := Lib.hid (forL_next (a := a) (b := b) hx)
      have AC := Lib.hid (clip_any x (HO.out.get hx) a b)
      have HMM : Hid (m ≤ 1000) := Lib.hid (by have := forL_len a b (xs.take k); have := take_le xs k; rw [HM.out] at *; omega)
      obtain ⟨d0, d1, -, -⟩ := has_two (keep_bel (alb wr (MO x)) ZR.out)
      clear hx hlt
      obtain ⟨p, ok, hq⟩ : ∃ p ok, clipM x a b = (p, ok) := ⟨_, _, rfl⟩
      rw [hq] at HNX AC
      clear hq
      cases ok with
      | false =>
        rw [if_neg (by simp), List.append_nil] at HNX
        go_wp2_with (first
          | (go_at_call 89; ((with_reducible refine (AC.out _).mono ?_); rintro e w1 ⟨rfl, b1⟩; have B1 := Lib.hid (bel_alloc (bel_a b1) (MO p)); clear b1))
          | fail)
        exact ⟨⟨k + 1, A', c', m, by omega, by simp, rfl, by rw [HNX.out]; exact HM.out, by rw [HNX.out]; exact HR.out.later B1.out, bel_trans HP.out B1.out⟩, by simp [intOf]; omega⟩
      | true =>
        rw [if_pos rfl] at HNX
        go_wp2_with (first
          | (go_at_call 89; ((with_reducible refine (AC.out _).mono ?_); rintro e w1 ⟨rfl, b1⟩; have B1 := Lib.hid (bel_alloc (bel_a b1) (MO p)); obtain ⟨y0, y1, y2, y3, y4, y5⟩ := cells6 (heap_alloc_new w1 (MO p)); have RW := Lib.hid ((HR.out.later B1.out).later (alb (w1.alloc (MO p)) (MO p))); have RL := Lib.hid (RE.Rd.lit (E := EG) (w1.alloc (MO p)) 62 [p] #[.int .u8 p.kd, .int .i64 p.sq, .string p.ky, .string p.to, .string p.vl, .int .u64 p.dl] rfl); have BS := Lib.hid (bel_alloc (bel_trans HB.out B1.out) (MO p)); have BQ := Lib.hid (bel_alloc (bel_trans HP.out B1.out) (MO p)); have RL2 : Hid (EG.Rd ((w1.alloc (MO p)).alloc (MO p)) (some ⟨w1.heap.size + 1, 0, none⟩) [p]) := Lib.hid (lit1 _ p (by simp)); clear b1 RL))
          | (at_builtin; refine RE.wpList_put EG _ rfl (.tmp 23) (.tmp 25) rfl (base := (w.alloc (rgc a b)).heap.size) A' m c' _ _ 1 1 [p] rfl rfl RW.out HM.out (by have := HMM.out; omega) BQ.out.size rfl (by omega) RL2.out ?_; intro A2 c2 w2 r1 r2 r3; have R1 := Lib.hid r1; have R2 := Lib.hid r2; clear r1 r2 r3)
          | fail)
        exact ⟨⟨k + 1, A2, c2, m + 1, by omega, by simp, rfl, by rw [HNX.out, List.length_append]; exact congrArg (· + 1) HM.out, by rw [HNX.out]; exact R1.out, BQ.out.trans (RE.Row.below R2.out RW.out (Nat.le_refl _) BQ.out.size)⟩, by simp [intOf]; omega⟩
    · have hk1 : ¬ (k : Int) < (n : Int) := by omega
      have e : xs.take k = xs := List.take_of_length_le (by rw [HL.out]; omega)
      rw [e] at HM HR
      have hm := HM.out
      subst hm
      go_wp2
      go_ret
      exact ⟨⟨_, _, rfl, HR.out.base (by simp)⟩, HB.out⟩
abbrev TV (A : Option Addr) (n c : Nat) (B : Option Addr) (m d : Nat) : Value := .tuple #[.slice A n c, .slice B m d]
set_option maxRecDepth 10000 in
set_option maxHeartbeats 4000000 in
theorem take_any (a b : ByteArray) (A : Option Addr) (n cap : Nat) (xs : List MG) (w : World) (hl : xs.length = n) (hn : n ≤ 1000) (hA : EG.Rd w A xs) (ho : OkA xs) :
    Calls Try.prog 38 #[.slice A n cap, .agg #[.string a, .string b]] w fun r w' => (∃ A' c' B' d', r = .returned (TV A' (forL a b xs).length c' B' (resL a b xs).length d') ∧ EG.Rd w' A' (forL a b xs) ∧ EG.Rd w' B' (resL a b xs)) ∧ Below w.heap.size w w' := by
  have HL := Lib.hid hl
  have HA := Lib.hid hA
  have HO := Lib.hid ho
  have H0 := Lib.hid (alb w (rgc a b))
  have z0 := Lib.hid (heap_alloc_new w (rgc a b))
  clear hl hA ho
  go_enter Try.func38, Try.ntmps38
  go_wp2
  go_loopw [6, 11] (fun sv iv wr => ∃ (k : Nat) (A' : Option Addr) (c' m : Nat), k ≤ n ∧ iv = .int .i64 k ∧ sv = .slice A' m c' ∧ (resL a b (xs.take k)).length = m ∧ EG.Row wr (w.alloc (rgc a b)).heap.size A' (resL a b (xs.take k)) c' ∧ Below (w.alloc (rgc a b)).heap.size (w.alloc (rgc a b)) wr) (fun _ i _ => n - (intOf i).toNat)
  case atStart => exact ⟨0, none, 0, 0, by omega, rfl, rfl, rfl, .inl ⟨rfl, rfl⟩, Below.refl _ _⟩
  case round =>
    obtain ⟨k, A', c', m, hk, rfl, rfl, hm, hr, hb⟩ := hrel
    have HM := Lib.hid hm
    have HR := Lib.hid hr
    have HB := Lib.hid (bel_trans H0.out hb)
    have HP := Lib.hid hb
    have ZR := Lib.hid (keep_bel hb z0.out)
    clear hm hr hb
    by_cases h8 : k < n
    · have hk1 : (k : Int) < (n : Int) := by omega
      have hk0 : (0 : Int) ≤ (k : Int) := by omega
      obtain ⟨x, hx⟩ : ∃ x, xs[k]? = some x := ⟨_, List.getElem?_eq_getElem (by rw [HL.out]; omega)⟩
      obtain ⟨b', off, rfl, hlt, g0, g1, g2, g3, g4, g5⟩ := eg_at (HA.out.later HB.out) hx
      have HNX := Lib.hid (resL_next (a := a) (b := b) hx)
      have AR := Lib.hid (rest_any x (HO.out.get hx) a b)
      have HMM : Hid (m ≤ 2000) := Lib.hid (by have := resL_len a b (xs.take k); have := take_le xs k; rw [HM.out] at *; omega)
      have HLL := Lib.hid (rest_len x a b)
      obtain ⟨d0, d1, -, -⟩ := has_two (keep_bel (alb wr (MO x)) ZR.out)
      clear hx hlt
      obtain ⟨L, hL⟩ : ∃ L, L = restM x a b := ⟨_, rfl⟩
      rw [← hL] at HNX AR HLL
      clear hL
      obtain ⟨q, hq⟩ : ∃ q, L.length = q := ⟨_, rfl⟩
      have HQ := Lib.hid hq
      rw [hq] at HLL AR
      clear hq
      go_wp2_with (first
        | (go_at_call 73; ((with_reducible refine (AR.out _).mono ?_); rintro e w1 ⟨⟨AL, cL, rfl, rl⟩, b1⟩; have RL := Lib.hid rl; have B1 := Lib.hid (bel_a b1); have RW := Lib.hid (HR.out.later B1.out); have BQ := Lib.hid (bel_trans HP.out B1.out); clear b1 rl))
        | (at_builtin; refine RE.wpList_put EG _ rfl (.tmp 15) (.tmp 18) rfl (base := (w.alloc (rgc a b)).heap.size) A' m c' _ AL q cL L rfl rfl RW.out HM.out (by have := HMM.out; omega) BQ.out.size HQ.out (by have := HLL.out; omega) RL.out ?_; intro A2 c2 w2 r1 r2 r3; have R1 := Lib.hid r1; have R2 := Lib.hid r2; clear r1 r2 r3)
        | fail)
      exact ⟨⟨k + 1, A2, c2, m + q, by omega, by simp, by simp, by rw [HNX.out, List.length_append, HM.out, HQ.out], by rw [HNX.out]; exact R1.out, BQ.out.trans (RE.Row.below R2.out RW.out (Nat.le_refl _) BQ.out.size)⟩, by simp [intOf]; omega⟩
    · have hk1 : ¬ (k : Int) < (n : Int) := by omega
      have e : xs.take k = xs := List.take_of_length_le (by rw [HL.out]; omega)
      rw [e] at HM HR
      have hm := HM.out
      subst hm
      have AF := Lib.hid (for_any a b A n cap xs wr HL.out hn (HA.out.later HB.out) HO.out)
      obtain ⟨d0, d1, -, -⟩ := has_two ZR.out
      go_wp2_with (first
        | (go_at_call 48; ((with_reducible refine AF.out.mono ?_); rintro e w1 ⟨⟨AL, cL, rfl, rl⟩, b1⟩; have RL := Lib.hid rl.rd; have RR := Lib.hid (HR.out.later b1).rd; have B1 := Lib.hid (bel_trans HB.out b1); clear b1 rl))
        | fail)
      refine bodyPost_ret (v := TV AL (forL a b xs).length cL A' (resL a b xs).length c') (by simp [results, Try.results38, go_sem]) rfl ⟨⟨_, _, _, _, rfl, RL.out, RR.out⟩, B1.out⟩
end Go.Proofs.Ytilnpeekajnlhaa
namespace Go.Proofs.Ytilnpeekajnlhaa
open Go.RowKit Go.Maps
/-- The messages for a kid. -/
def kidL (ps : List ByteArray) (f t : ByteArray) (i : Int) (ms : List MG) : List MG := if Pv.spanB ps f t i = true then forL (Pv.spanF ps f t i).1 (Pv.spanF ps f t i).2 ms else []
set_option maxHeartbeats 4000000 in
theorem ifor_any (kd : Int) (P J M B : Option Addr) (n pc k kc m mc b bc : Nat) (ps : List ByteArray) (ms : List MG) (f t : ByteArray) (i : Int) (w : World) (hl : ps.length = n) (hn : n ≤ 100) (hP : Pv.RdS w P ps) (hk : k = n + 1) (hm : ms.length = m) (hm1 : m ≤ 1000) (hM : EG.Rd w M ms) (ho : OkA ms) :
    Calls Try.prog 18 #[NV kd (.slice P n pc) (.slice J k kc) (.slice M m mc) (.slice B b bc), .agg #[.string f, .string t], .int .i64 i] w fun r w' => (∃ A' c', r = .returned (.slice A' (kidL ps f t i ms).length c') ∧ EG.Row w' w.heap.size A' (kidL ps f t i ms) c') ∧ Below w.heap.size w w' := by
  have SP := Lib.hid (fun W (h : Below w.heap.size w W) => part_all kd P J M B n pc k kc m mc b bc ps f t i W hl hn (Rd.later hP h) hk)
  have FA := Lib.hid (fun x y W (h : Below w.heap.size w W) => for_any x y M m mc ms W hm hm1 (hM.later h) ho)
  have y1 := two_new w (NO kd (.slice P n pc) (.slice J k kc) (.slice M m mc) (.slice B b bc)) (rgc f t)
  have H0 := Lib.hid (bel_alloc (alb w (NO kd (.slice P n pc) (.slice J k kc) (.slice M m mc) (.slice B b bc))) (rgc f t))
  have Z := Lib.hid y1.1
  have Y := Lib.hid y1.2
  unfold kidL
  unfold Pv.SpanPost Pv.spv at SP
  obtain ⟨x, hx⟩ : ∃ x, x = (Pv.spanF ps f t i).1 := ⟨_, rfl⟩
  obtain ⟨y, hy⟩ : ∃ y, y = (Pv.spanF ps f t i).2 := ⟨_, rfl⟩
  rw [← hx, ← hy] at SP ⊢
  obtain ⟨c0, c1, c2, c3, c4⟩ := cells5 Z.out
  obtain ⟨d0, d1, -, -⟩ := has_two Y.out
  cases hok : Pv.spanB ps f t i
  · rw [hok] at SP
    clear hx hy hok hl hP hm hM ho hk y1
    go_enter Try.func18, Try.ntmps18
    go_wp2_with (first
      | (go_at_call 37; ((with_reducible refine (SP.out _ H0.out).mono ?_); rintro e w1 ⟨rfl, b1⟩; have B1 := Lib.hid (bel_trans H0.out b1); clear b1))
      | fail)
    go_ret
    exact ⟨⟨none, 0, rfl, RE.Row.nil⟩, bel_alloc B1.out _⟩
  · rw [hok] at SP
    clear hx hy hok hl hP hm hM ho hk y1
    go_enter Try.func18, Try.ntmps18
    go_wp2_with (first
      | (go_at_call 37; ((with_reducible refine (SP.out _ H0.out).mono ?_); rintro e w1 ⟨rfl, b1⟩; have B1 := Lib.hid (bel_alloc (bel_trans H0.out b1) (rgc x y)); have Z1 := Lib.hid (keep_bel (bel_trans b1 (alb w1 (rgc x y))) Z.out); clear b1 c0 c1 c2 c3 c4 d0 d1; obtain ⟨c0, c1, c2, c3, c4⟩ := cells5 Z1.out; obtain ⟨d0, d1, -, -⟩ := has_two (heap_alloc_new w1 (rgc x y))))
      | (go_at_call 48; ((with_reducible refine (FA.out x y _ B1.out).mono ?_); rintro e w2 ⟨⟨A', c', rfl, r2⟩, b2⟩; have R2 := Lib.hid r2; have B2 := Lib.hid (bel_trans B1.out b2); clear b2 r2))
      | fail)
    go_ret
    exact ⟨⟨A', c', rfl, R2.out.base B1.out.size⟩, B2.out⟩
end Go.Proofs.Ytilnpeekajnlhaa
