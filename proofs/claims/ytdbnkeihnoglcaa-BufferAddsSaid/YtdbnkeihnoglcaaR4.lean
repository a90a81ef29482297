/- What a range does not have of a message. -/
import Derived.Test.YtdbnkeihnoglcaaR3
namespace Go.Proofs.Ytdbnkeihnoglcaa
set_option linter.unusedSimpArgs false
open Go.RowKit Go.Maps
set_option linter.unusedVariables false
def restQ (m : MG) (q : MG × Bool) : List MG :=
  if isPt m.kd then (if q.2 then [] else [m])
  else if m.kd == 4 then
    (if q.2 then (if lt m.ky q.1.ky then [overM m m.ky q.1.ky] else []) ++ (if bef q.1.to m.to then [overM m q.1.to m.to] else []) else [m])
  else []
def restM (m : MG) (a b : ByteArray) : List MG := restQ m (clipM m a b)
theorem lit1 (W : World) (m : MG) {g : Nat} (hg : g = W.heap.size) : EG.Rd (W.alloc (MO m)) (some ⟨g, 0, none⟩) [m] := by
  rw [hg]; exact RE.Rd.lit (E := EG) W 31 [m] #[.int .u8 m.kd, .int .i64 m.sq, .string m.ky, .string m.to, .string m.vl, .int .u64 m.dl] rfl
theorem bel_of_nil {w w' : World} (h : w.grownBy w' (RE.fp none 0)) : Below w.heap.size w w' := ⟨h.os, h.tape, h.output, h.size, fun i hi => h.block i hi (by simp [RE.fp])⟩
theorem two_bel {W W2 : World} {g h : Nat} {x y : Obj} (z : W.heap[g]? = some x ∧ W.heap[h]? = some y) (k : Below W.heap.size W W2) : W2.heap[g]? = some x ∧ W2.heap[h]? = some y := ⟨keep_bel k z.1, keep_bel k z.2⟩
theorem alb2 {W : World} (X : World) (o : Obj) (h : Below W.heap.size W X) : Below W.heap.size X (X.alloc o) := (alb X o).mono h.size
set_option maxRecDepth 100000 in
set_option maxHeartbeats 8000000 in
theorem rest_pt (m : MG) (ho : m.Ok) (a b : ByteArray) (w : World) (hp : isPt m.kd = true) :
    Calls Try.prog 50 #[MV m, .agg #[.string a, .string b]] w fun r w' => (∃ A' c', r = .returned (.slice A' (restM m a b).length c') ∧ EG.Rd w' A' (restM m a b)) ∧ Below w.heap.size w w' := by
  have h4 : (m.kd == 4) = false := by
    cases h : (m.kd == 4)
    · rfl
    · rw [beq_iff_eq] at h; rw [h] at hp; cases hp
  have h4n : ¬ m.kd = 4 := by intro h; rw [h] at h4; cases h4
  obtain ⟨p, ok, hq⟩ : ∃ p ok, clipM m a b = (p, ok) := ⟨_, _, rfl⟩
  have HR : Hid (restM m a b = if ok then [] else [m]) := Lib.hid (by unfold restM restQ; rw [hq, if_pos hp])
  rw [HR.out]
  have AC := Lib.hid (clip_any m ho a b)
  rw [hq] at AC
  clear HR hq ho
  have H0 := Lib.hid (bel_alloc (alb w (MO m)) (rgc a b))
  have Z0 := Lib.hid (two_new w (MO m) (rgc a b))
  obtain ⟨c0, c1, c2, c3, c4, c5⟩ := cells6 Z0.out.1
  obtain ⟨d0, d1, -, -⟩ := has_two Z0.out.2
  go_enter Try.func50, Try.ntmps50
  cases ok
  all_goals
    go_wp2_with (first
      | (go_at_call 34; ((with_reducible refine (isp_any m _).mono ?_); rintro e w1 ⟨rfl, b1⟩; rw [hp]; replace Z0 := Lib.hid (two_bel Z0.out b1); replace H0 := Lib.hid (bel_trans H0.out b1); clear b1 c0 c1 c2 c3 c4 c5 d0 d1; obtain ⟨c0, c1, c2, c3, c4, c5⟩ := cells6 Z0.out.1; obtain ⟨d0, d1, -, -⟩ := has_two Z0.out.2))
      | (go_at_call 52; ((with_reducible refine (AC.out _).mono ?_); rintro e w2 ⟨rfl, b2⟩; have ZP := Lib.hid (heap_alloc_new w2 (MO p)); have ZA := Lib.hid (two_bel Z0.out b2); replace Z0 := Lib.hid (two_bel ZA.out (alb w2 (MO p))); replace H0 := Lib.hid (bel_alloc (bel_trans H0.out b2) (MO p)); clear b2 c0 c1 c2 c3 c4 c5 d0 d1; obtain ⟨c0, c1, c2, c3, c4, c5⟩ := cells6 Z0.out.1; obtain ⟨d0, d1, -, -⟩ := has_two Z0.out.2))
      | fail)
  · go_ret
    exact ⟨⟨_, ⟨_, rfl⟩, lit1 _ m (by simp)⟩, bel_alloc H0.out _⟩
  · go_ret
    exact ⟨⟨_, ⟨_, rfl⟩, .inl rfl⟩, H0.out⟩
set_option maxRecDepth 100000 in
set_option maxHeartbeats 8000000 in
theorem rest_cl (m : MG) (ho : m.Ok) (a b : ByteArray) (w : World) (hp : isPt m.kd = false) (h4 : (m.kd == 4) = true) :
    Calls Try.prog 50 #[MV m, .agg #[.string a, .string b]] w fun r w' => (∃ A' c', r = .returned (.slice A' (restM m a b).length c') ∧ EG.Rd w' A' (restM m a b)) ∧ Below w.heap.size w w' := by
  have hb4 : (m.kd != 4) = false := by rw [bne, h4]; rfl
  have h44 : m.kd = 4 := by simpa using h4
  have h4n : ¬ ¬ m.kd = 4 := fun h => h h44
  clear h44
  obtain ⟨p, ok, hq⟩ : ∃ p ok, clipM m a b = (p, ok) := ⟨_, _, rfl⟩
  have HR : Hid (restM m a b = if ok then (if lt m.ky p.ky then [overM m m.ky p.ky] else []) ++ (if bef p.to m.to then [overM m p.to m.to] else []) else [m]) := Lib.hid (by unfold restM restQ; rw [hq, hp, h4]; rfl)
  rw [HR.out]
  have AC := Lib.hid (clip_any m ho a b)
  rw [hq] at AC
  clear HR hq ho h4
  have H0 := Lib.hid (bel_alloc (alb w (MO m)) (rgc a b))
  have Z0 := Lib.hid (two_new w (MO m) (rgc a b))
  obtain ⟨c0, c1, c2, c3, c4, c5⟩ := cells6 Z0.out.1
  obtain ⟨d0, d1, -, -⟩ := has_two Z0.out.2
  go_enter Try.func50, Try.ntmps50
  cases ok
  · go_wp2_with (first
      | (go_at_call 52; ((with_reducible refine (AC.out _).mono ?_); rintro e w2 ⟨rfl, b2⟩; have ZP := Lib.hid (heap_alloc_new w2 (MO p)); have ZA := Lib.hid (two_bel Z0.out b2); replace Z0 := Lib.hid (two_bel ZA.out (alb w2 (MO p))); replace H0 := Lib.hid (bel_alloc (bel_trans H0.out b2) (MO p)); clear b2 c0 c1 c2 c3 c4 c5 d0 d1; obtain ⟨c0, c1, c2, c3, c4, c5⟩ := cells6 Z0.out.1))
      | fail)
    go_ret
    exact ⟨⟨_, ⟨_, rfl⟩, lit1 _ m (by simp)⟩, bel_alloc H0.out _⟩
  · cases e5 : lt m.ky p.ky <;> cases e6 : bef p.to m.to
    · have e5' := e5
      unfold lt at e5'
      go_wp2_with (first
        | (go_at_call 52; ((with_reducible refine (AC.out _).mono ?_); rintro e w2 ⟨rfl, b2⟩; have ZP := Lib.hid (heap_alloc_new w2 (MO p)); have ZA := Lib.hid (two_bel Z0.out b2); replace Z0 := Lib.hid (two_bel ZA.out (alb w2 (MO p))); replace H0 := Lib.hid (bel_alloc (bel_trans H0.out b2) (MO p)); clear b2 c0 c1 c2 c3 c4 c5 d0 d1; obtain ⟨c0, c1, c2, c3, c4, c5⟩ := cells6 Z0.out.1))
        | (go_at_call 34; ((with_reducible refine (isp_any m _).mono ?_); rintro e w3 ⟨rfl, b3⟩; rw [hp]; replace ZP := Lib.hid (keep_bel b3 ZP.out); replace Z0 := Lib.hid (two_bel Z0.out b3); replace H0 := Lib.hid (bel_trans H0.out b3); clear b3 c0 c1 c2 c3 c4 c5; obtain ⟨c0, c1, c2, c3, c4, c5⟩ := cells6 Z0.out.1; obtain ⟨p0, p1, p2, p3, p4, p5⟩ := cells6 ZP.out))
        | (go_at_call 61; ((with_reducible refine (before_any _ _ _).mono ?_); rintro e w4 ⟨rfl, rfl⟩; rw [e6]))
        | fail)
      go_ret
      exact ⟨⟨_, ⟨_, rfl⟩, .inl rfl⟩, H0.out⟩
    · have e5' := e5
      unfold lt at e5'
      go_wp2_with (first
        | (go_at_call 52; ((with_reducible refine (AC.out _).mono ?_); rintro e w2 ⟨rfl, b2⟩; have ZP := Lib.hid (heap_alloc_new w2 (MO p)); have ZA := Lib.hid (two_bel Z0.out b2); replace Z0 := Lib.hid (two_bel ZA.out (alb w2 (MO p))); replace H0 := Lib.hid (bel_alloc (bel_trans H0.out b2) (MO p)); clear b2 c0 c1 c2 c3 c4 c5 d0 d1; obtain ⟨c0, c1, c2, c3, c4, c5⟩ := cells6 Z0.out.1))
        | (go_at_call 34; ((with_reducible refine (isp_any m _).mono ?_); rintro e w3 ⟨rfl, b3⟩; rw [hp]; replace ZP := Lib.hid (keep_bel b3 ZP.out); replace Z0 := Lib.hid (two_bel Z0.out b3); replace H0 := Lib.hid (bel_trans H0.out b3); clear b3 c0 c1 c2 c3 c4 c5; obtain ⟨c0, c1, c2, c3, c4, c5⟩ := cells6 Z0.out.1; obtain ⟨p0, p1, p2, p3, p4, p5⟩ := cells6 ZP.out))
        | (go_at_call 61; ((with_reducible refine (before_any _ _ _).mono ?_); rintro e w4 ⟨rfl, rfl⟩; rw [e6]))
        | (go_at_call 67; ((with_reducible refine (over_any m p.to m.to _).mono ?_); rintro e vB ⟨rfl, bB⟩; replace ZP := Lib.hid (keep_bel (bel_trans bB (alb vB (MO (overM m p.to m.to)))) ZP.out); replace Z0 := Lib.hid (two_bel Z0.out (bel_trans bB (alb vB (MO (overM m p.to m.to))))); replace H0 := Lib.hid (bel_alloc (bel_trans H0.out bB) (MO (overM m p.to m.to))); have RLB := Lib.hid (RE.Rd.lit (E := EG) vB 31 [overM m p.to m.to] #[.int .u8 m.kd, .int .i64 m.sq, .string p.to, .string m.to, .string m.vl, .int .u64 m.dl] rfl); have RWB := Lib.hid ((RE.Row.nil : EG.Row (vB.alloc (MO (overM m p.to m.to))) w.heap.size none [] 0)); clear bB c0 c1 c2 c3 c4 c5 p0 p1 p2 p3 p4 p5))
        | (at_builtin; refine RE.wpList_put EG _ rfl (.tmp 49) (.tmp 57) rfl (base := w.heap.size) none 0 0 _ _ 1 1 _ rfl rfl RWB.out rfl (by omega) H0.out.size rfl (by omega) RLB.out ?_; intro AB cB uB r1 r2 r3; have RB := Lib.hid r1; have GB := Lib.hid r2; have BB := Lib.hid (H0.out.trans (RE.Row.below r2 RWB.out (Nat.le_refl _) H0.out.size)); clear r1 r2 r3)
        | fail)
      go_ret
      exact ⟨⟨_, ⟨_, rfl⟩, RB.out.rd⟩, BB.out⟩
    · have e5' := e5
      unfold lt at e5'
      go_wp2_with (first
        | (go_at_call 52; ((with_reducible refine (AC.out _).mono ?_); rintro e w2 ⟨rfl, b2⟩; have ZP := Lib.hid (heap_alloc_new w2 (MO p)); have ZA := Lib.hid (two_bel Z0.out b2); replace Z0 := Lib.hid (two_bel ZA.out (alb w2 (MO p))); replace H0 := Lib.hid (bel_alloc (bel_trans H0.out b2) (MO p)); clear b2 c0 c1 c2 c3 c4 c5 d0 d1; obtain ⟨c0, c1, c2, c3, c4, c5⟩ := cells6 Z0.out.1))
        | (go_at_call 34; ((with_reducible refine (isp_any m _).mono ?_); rintro e w3 ⟨rfl, b3⟩; rw [hp]; replace ZP := Lib.hid (keep_bel b3 ZP.out); replace Z0 := Lib.hid (two_bel Z0.out b3); replace H0 := Lib.hid (bel_trans H0.out b3); clear b3 c0 c1 c2 c3 c4 c5; obtain ⟨c0, c1, c2, c3, c4, c5⟩ := cells6 Z0.out.1; obtain ⟨p0, p1, p2, p3, p4, p5⟩ := cells6 ZP.out))
        | (go_at_call 61; ((with_reducible refine (before_any _ _ _).mono ?_); rintro e w4 ⟨rfl, rfl⟩; rw [e6]))
        | (go_at_call 67; ((with_reducible refine (over_any m m.ky p.ky _).mono ?_); rintro e vA ⟨rfl, bA⟩; replace ZP := Lib.hid (keep_bel (bel_trans bA (alb vA (MO (overM m m.ky p.ky)))) ZP.out); replace Z0 := Lib.hid (two_bel Z0.out (bel_trans bA (alb vA (MO (overM m m.ky p.ky))))); replace H0 := Lib.hid (bel_alloc (bel_trans H0.out bA) (MO (overM m m.ky p.ky))); have RLA := Lib.hid (RE.Rd.lit (E := EG) vA 31 [overM m m.ky p.ky] #[.int .u8 m.kd, .int .i64 m.sq, .string m.ky, .string p.ky, .string m.vl, .int .u64 m.dl] rfl); have RWA := Lib.hid ((RE.Row.nil : EG.Row (vA.alloc (MO (overM m m.ky p.ky))) w.heap.size none [] 0)); clear bA c0 c1 c2 c3 c4 c5 p0 p1 p2 p3 p4 p5))
        | (at_builtin; refine RE.wpList_put EG _ rfl (.tmp 34) (.tmp 42) rfl (base := w.heap.size) none 0 0 _ _ 1 1 _ rfl rfl RWA.out rfl (by omega) H0.out.size rfl (by omega) RLA.out ?_; intro AA cA uA r1 r2 r3; have RA := Lib.hid r1; have BA := Lib.hid (H0.out.trans (RE.Row.below r2 RWA.out (Nat.le_refl _) H0.out.size)); have bu := bel_of_nil r2; replace ZP := Lib.hid (keep_bel bu ZP.out); replace Z0 := Lib.hid (two_bel Z0.out bu); replace H0 := Lib.hid (bel_trans H0.out bu); obtain ⟨c0, c1, c2, c3, c4, c5⟩ := cells6 Z0.out.1; obtain ⟨p0, p1, p2, p3, p4, p5⟩ := cells6 ZP.out; clear bu; clear r1 r2 r3)
        | fail)
      go_ret
      exact ⟨⟨_, ⟨_, rfl⟩, RA.out.rd⟩, BA.out⟩
    · have e5' := e5
      unfold lt at e5'
      go_wp2_with (first
        | (go_at_call 52; ((with_reducible refine (AC.out _).mono ?_); rintro e w2 ⟨rfl, b2⟩; have ZP := Lib.hid (heap_alloc_new w2 (MO p)); have ZA := Lib.hid (two_bel Z0.out b2); replace Z0 := Lib.hid (two_bel ZA.out (alb w2 (MO p))); replace H0 := Lib.hid (bel_alloc (bel_trans H0.out b2) (MO p)); clear b2 c0 c1 c2 c3 c4 c5 d0 d1; obtain ⟨c0, c1, c2, c3, c4, c5⟩ := cells6 Z0.out.1))
        | (go_at_call 34; ((with_reducible refine (isp_any m _).mono ?_); rintro e w3 ⟨rfl, b3⟩; rw [hp]; replace ZP := Lib.hid (keep_bel b3 ZP.out); replace Z0 := Lib.hid (two_bel Z0.out b3); replace H0 := Lib.hid (bel_trans H0.out b3); clear b3 c0 c1 c2 c3 c4 c5; obtain ⟨c0, c1, c2, c3, c4, c5⟩ := cells6 Z0.out.1; obtain ⟨p0, p1, p2, p3, p4, p5⟩ := cells6 ZP.out))
        | (go_at_call 61; ((with_reducible refine (before_any _ _ _).mono ?_); rintro e w4 ⟨rfl, rfl⟩; rw [e6]))
        | (go_at_call 67; ((with_reducible refine (over_any m m.ky p.ky _).mono ?_); rintro e vA ⟨rfl, bA⟩; replace ZP := Lib.hid (keep_bel (bel_trans bA (alb vA (MO (overM m m.ky p.ky)))) ZP.out); replace Z0 := Lib.hid (two_bel Z0.out (bel_trans bA (alb vA (MO (overM m m.ky p.ky))))); replace H0 := Lib.hid (bel_alloc (bel_trans H0.out bA) (MO (overM m m.ky p.ky))); have RLA := Lib.hid (RE.Rd.lit (E := EG) vA 31 [overM m m.ky p.ky] #[.int .u8 m.kd, .int .i64 m.sq, .string m.ky, .string p.ky, .string m.vl, .int .u64 m.dl] rfl); have RWA := Lib.hid ((RE.Row.nil : EG.Row (vA.alloc (MO (overM m m.ky p.ky))) w.heap.size none [] 0)); clear bA c0 c1 c2 c3 c4 c5 p0 p1 p2 p3 p4 p5))
        | (at_builtin; refine RE.wpList_put EG _ rfl (.tmp 34) (.tmp 42) rfl (base := w.heap.size) none 0 0 _ _ 1 1 _ rfl rfl RWA.out rfl (by omega) H0.out.size rfl (by omega) RLA.out ?_; intro AA cA uA r1 r2 r3; have RA := Lib.hid r1; have BA := Lib.hid (H0.out.trans (RE.Row.below r2 RWA.out (Nat.le_refl _) H0.out.size)); have bu := bel_of_nil r2; replace ZP := Lib.hid (keep_bel bu ZP.out); replace Z0 := Lib.hid (two_bel Z0.out bu); replace H0 := Lib.hid (bel_trans H0.out bu); obtain ⟨c0, c1, c2, c3, c4, c5⟩ := cells6 Z0.out.1; obtain ⟨p0, p1, p2, p3, p4, p5⟩ := cells6 ZP.out; clear bu; clear r1 r2 r3)
        | (go_at_call 67; ((with_reducible refine (over_any m p.to m.to _).mono ?_); rintro e vC ⟨rfl, bC⟩; replace ZP := Lib.hid (keep_bel (bel_trans bC (alb vC (MO (overM m p.to m.to)))) ZP.out); replace Z0 := Lib.hid (two_bel Z0.out (bel_trans bC (alb vC (MO (overM m p.to m.to))))); replace H0 := Lib.hid (bel_alloc (bel_trans H0.out bC) (MO (overM m p.to m.to))); have RLC := Lib.hid (RE.Rd.lit (E := EG) vC 31 [overM m p.to m.to] #[.int .u8 m.kd, .int .i64 m.sq, .string p.to, .string m.to, .string m.vl, .int .u64 m.dl] rfl); have RWC := Lib.hid (RA.out.later (bel_trans bC (alb vC (MO (overM m p.to m.to))))); clear bC c0 c1 c2 c3 c4 c5 p0 p1 p2 p3 p4 p5))
        | (at_builtin; refine RE.wpList_put EG _ rfl (.tmp 49) (.tmp 57) rfl (base := w.heap.size) AA 1 cA _ _ 1 1 _ rfl rfl RWC.out rfl (by omega) H0.out.size rfl (by omega) RLC.out ?_; intro AC2 cC uC r1 r2 r3; have RC := Lib.hid r1;  have BC := Lib.hid (H0.out.trans (RE.Row.below r2 RWC.out (Nat.le_refl _) H0.out.size)); clear r1 r2 r3)
        | fail)
      go_ret
      exact ⟨⟨_, ⟨_, rfl⟩, RC.out.rd⟩, BC.out⟩
theorem rest_no (m : MG) (a b : ByteArray) (w : World) (hp : isPt m.kd = false) (h4 : (m.kd == 4) = false) :
    Calls Try.prog 50 #[MV m, .agg #[.string a, .string b]] w fun r w' => (∃ A' c', r = .returned (.slice A' (restM m a b).length c') ∧ EG.Rd w' A' (restM m a b)) ∧ Below w.heap.size w w' := by
  have h4n : ¬ m.kd = 4 := by intro h; rw [h] at h4; cases h4
  have HR : Hid (restM m a b = []) := Lib.hid (by unfold restM restQ; rw [hp, h4]; rfl)
  rw [HR.out]
  clear HR
  have H0 := Lib.hid (bel_alloc (alb w (MO m)) (rgc a b))
  have Z0 := Lib.hid (two_new w (MO m) (rgc a b))
  obtain ⟨c0, c1, c2, c3, c4, c5⟩ := cells6 Z0.out.1
  go_enter Try.func50, Try.ntmps50
  go_wp2_with (first
    | (go_at_call 34; ((with_reducible refine (isp_any m _).mono ?_); rintro e w1 ⟨rfl, b1⟩; rw [hp]; have H1 := Lib.hid (bel_trans H0.out b1); clear b1))
    | fail)
  go_ret
  exact ⟨⟨none, 0, rfl, .inl rfl⟩, H1.out⟩
theorem rest_any (m : MG) (ho : m.Ok) (a b : ByteArray) (w : World) :
    Calls Try.prog 50 #[MV m, .agg #[.string a, .string b]] w fun r w' => (∃ A' c', r = .returned (.slice A' (restM m a b).length c') ∧ EG.Rd w' A' (restM m a b)) ∧ Below w.heap.size w w' := by
  cases hp : isPt m.kd
  · cases h4 : (m.kd == 4)
    · exact rest_no m a b w hp h4
    · exact rest_cl m ho a b w hp h4
  · exact rest_pt m ho a b w hp
end Go.Proofs.Ytdbnkeihnoglcaa
