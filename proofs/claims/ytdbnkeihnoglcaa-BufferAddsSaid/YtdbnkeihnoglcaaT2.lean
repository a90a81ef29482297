/- What a range does not have of a message: the document's. -/
import Derived.Test.YtdbnkeihnoglcaaT1
namespace Go.Proofs.Ytdbnkeihnoglcaa
set_option linter.unusedSimpArgs false
open Go.RowKit Go.Maps
set_option linter.unusedVariables false
/-- What is answered: messages, in memory that was there or is new. -/
def RowsOf (L : List MG) (w : World) (r : Ending) (w' : World) : Prop := (∃ A' c', r = .returned (.slice A' L.length c') ∧ EG.Rd w' A' L) ∧ Below w.heap.size w w'
theorem bel_of_nil2 {w w' : World} {A : Option Addr} (h : w.grownBy w' (RE.fp A 0)) : Below w.heap.size w w' := ⟨h.os, h.tape, h.output, h.size, fun i hi => h.block i hi (by simp [RE.fp])⟩
set_option maxRecDepth 100000 in
set_option maxHeartbeats 8000000 in
theorem rrest_out (m : MG) (a b : ByteArray) (w : World) (hok : (clipM m a b).2 = false) :
    Calls Try.prog 53 #[MV m, .agg #[.string a, .string b]] w (RowsOf (restM m a b) w) := by
  have H0 := Lib.hid (bel_alloc (bel_alloc (alb w (MO m)) (rgc a b)) (.cells #[] 31))
  have Z0 := Lib.hid (two_bel (two_new w (MO m) (rgc a b)) (alb _ (.cells #[] 31)))
  obtain ⟨c0, c1, c2, c3, c4, c5⟩ := cells6 Z0.out.1
  obtain ⟨d0, d1, -, -⟩ := has_two Z0.out.2
  obtain ⟨p, hq⟩ : ∃ p, clipM m a b = (p, false) := ⟨(clipM m a b).1, by rw [← hok]⟩
  have AC := Lib.hid (rclip_any m a b)
  rw [hq] at AC
  by_cases h1 : 1 ≤ m.kd
  · by_cases h2 : m.kd ≤ 4
    · have HR := Lib.hid (show restM m a b = [m] by
        unfold restM restQ; rw [hq]
        by_cases h4 : m.kd = 4
        · rw [h4]; rfl
        · have : isPt m.kd = true := by
            have : m.kd = 1 ∨ m.kd = 2 ∨ m.kd = 3 := by omega
            rcases this with e | e | e <;> rw [e] <;> rfl
          rw [this]; rfl)
      rw [HR.out]
      clear hq hok HR
      have H1 := H0
      go_enter Try.func53, Try.ntmps53
      go_wp2_with (first
        | (go_at_call 51; ((with_reducible refine (AC.out _).mono ?_); rintro e w2 ⟨rfl, b2⟩; replace b2 := bel_alloc b2 (MO p); have ZP := Lib.hid (heap_alloc_new w2 (MO p)); replace Z0 := Lib.hid (two_bel (W2 := w2.alloc (MO p)) Z0.out b2); replace H0 := Lib.hid (bel_trans H0.out b2); clear b2 d0 d1; clear  c0 c1 c2 c3 c4 c5; obtain ⟨c0, c1, c2, c3, c4, c5⟩ := cells6 Z0.out.1; have BX := Lib.hid (bel_alloc H0.out (MO m)); have RLX : Hid (EG.Rd ((w2.alloc (MO p)).alloc (MO m)) (some ⟨w2.heap.size + 1, 0, none⟩) [m]) := Lib.hid (lit1 _ m (by simp)); obtain ⟨p0, p1, p2, p3, p4, p5⟩ := cells6 ZP.out))
        | (at_builtin; refine RE.wpList_put EG _ rfl (.tmp 27) (.tmp 29) rfl (base := w.heap.size) (some ⟨w.heap.size + 1 + 1, 0, none⟩) 0 0 [] _ 1 1 [m] rfl rfl (.inl ⟨rfl, rfl⟩) rfl (by omega) BX.out.size rfl (by omega) RLX.out ?_; intro A2 q2 w3 r1 r2 r3; have R1 := Lib.hid r1; have B3 := Lib.hid (BX.out.trans (RE.Row.below (E := EG) (W := w) (l := []) r2 (.inl ⟨rfl, rfl⟩) (Nat.le_refl _) BX.out.size)); clear r1 r2 r3)
        | fail)
      go_ret
      exact ⟨⟨_, _, rfl, R1.out.rd⟩, B3.out⟩
    · have HR := Lib.hid (show restM m a b = [] by
        unfold restM restQ; rw [hq]
        have e1 : isPt m.kd = false := by unfold isPt; simp; omega
        have e2 : (m.kd == 4) = false := by simp; omega
        rw [e1, e2]; rfl)
      rw [HR.out]
      clear hq hok HR
      go_enter Try.func53, Try.ntmps53
      go_wp2_with (first
        | (go_at_call 51; ((with_reducible refine (AC.out _).mono ?_); rintro e w2 ⟨rfl, b2⟩; replace b2 := bel_alloc b2 (MO p); have ZP := Lib.hid (heap_alloc_new w2 (MO p)); replace Z0 := Lib.hid (two_bel (W2 := w2.alloc (MO p)) Z0.out b2); replace H0 := Lib.hid (bel_trans H0.out b2); clear b2 d0 d1; clear  c0 c1 c2 c3 c4 c5; obtain ⟨c0, c1, c2, c3, c4, c5⟩ := cells6 Z0.out.1; obtain ⟨p0, p1, p2, p3, p4, p5⟩ := cells6 ZP.out))
        | fail)
      go_ret
      exact ⟨⟨_, _, rfl, .inl rfl⟩, H0.out⟩
  · have HR := Lib.hid (show restM m a b = [] by
      unfold restM restQ; rw [hq]
      have e1 : isPt m.kd = false := by unfold isPt; simp; omega
      have e2 : (m.kd == 4) = false := by simp; omega
      rw [e1, e2]; rfl)
    rw [HR.out]
    clear hq hok HR
    go_enter Try.func53, Try.ntmps53
    go_wp2_with (first
      | (go_at_call 51; ((with_reducible refine (AC.out _).mono ?_); rintro e w2 ⟨rfl, b2⟩; replace b2 := bel_alloc b2 (MO p); have ZP := Lib.hid (heap_alloc_new w2 (MO p)); replace Z0 := Lib.hid (two_bel (W2 := w2.alloc (MO p)) Z0.out b2); replace H0 := Lib.hid (bel_trans H0.out b2); clear b2 d0 d1; clear  c0 c1 c2 c3 c4 c5; obtain ⟨c0, c1, c2, c3, c4, c5⟩ := cells6 Z0.out.1; obtain ⟨p0, p1, p2, p3, p4, p5⟩ := cells6 ZP.out))
      | fail)
    go_ret
    exact ⟨⟨_, _, rfl, .inl rfl⟩, H0.out⟩
set_option maxRecDepth 100000 in
set_option maxHeartbeats 8000000 in
theorem rrest_pt (m : MG) (a b : ByteArray) (w : World) (hok : (clipM m a b).2 = true) (hp : isPt m.kd = true) :
    Calls Try.prog 53 #[MV m, .agg #[.string a, .string b]] w (RowsOf (restM m a b) w) := by
  have H0 := Lib.hid (bel_alloc (bel_alloc (alb w (MO m)) (rgc a b)) (.cells #[] 31))
  have Z0 := Lib.hid (two_bel (two_new w (MO m) (rgc a b)) (alb _ (.cells #[] 31)))
  obtain ⟨c0, c1, c2, c3, c4, c5⟩ := cells6 Z0.out.1
  obtain ⟨d0, d1, -, -⟩ := has_two Z0.out.2
  obtain ⟨p, hq⟩ : ∃ p, clipM m a b = (p, true) := ⟨(clipM m a b).1, by rw [← hok]⟩
  have AC := Lib.hid (rclip_any m a b)
  rw [hq] at AC
  have h4 : (m.kd != 4) = true := by
    cases h : (m.kd == 4)
    · rw [bne, h]; rfl
    · rw [beq_iff_eq] at h; rw [h] at hp; cases hp
  have HR := Lib.hid (show restM m a b = [] by unfold restM restQ; rw [hq, hp]; rfl)
  rw [HR.out]
  clear hq hok HR
  go_enter Try.func53, Try.ntmps53
  go_wp2_with (first
    | (go_at_call 51; ((with_reducible refine (AC.out _).mono ?_); rintro e w2 ⟨rfl, b2⟩; replace b2 := bel_alloc b2 (MO p); have ZP := Lib.hid (heap_alloc_new w2 (MO p)); replace Z0 := Lib.hid (two_bel (W2 := w2.alloc (MO p)) Z0.out b2); replace H0 := Lib.hid (bel_trans H0.out b2); clear b2 d0 d1; clear  c0 c1 c2 c3 c4 c5; obtain ⟨c0, c1, c2, c3, c4, c5⟩ := cells6 Z0.out.1; obtain ⟨p0, p1, p2, p3, p4, p5⟩ := cells6 ZP.out))
    | fail)
  go_ret
  exact ⟨⟨_, _, rfl, .inl rfl⟩, H0.out⟩
set_option maxRecDepth 100000 in
set_option maxHeartbeats 8000000 in
theorem rrest_cl (m : MG) (a b : ByteArray) (w : World) (hok : (clipM m a b).2 = true) (h4 : (m.kd == 4) = true) :
    Calls Try.prog 53 #[MV m, .agg #[.string a, .string b]] w (RowsOf (restM m a b) w) := by
  have H0 := Lib.hid (bel_alloc (bel_alloc (alb w (MO m)) (rgc a b)) (.cells #[] 31))
  have Z0 := Lib.hid (two_bel (two_new w (MO m) (rgc a b)) (alb _ (.cells #[] 31)))
  obtain ⟨c0, c1, c2, c3, c4, c5⟩ := cells6 Z0.out.1
  obtain ⟨d0, d1, -, -⟩ := has_two Z0.out.2
  obtain ⟨p, hq⟩ : ∃ p, clipM m a b = (p, true) := ⟨(clipM m a b).1, by rw [← hok]⟩
  have AC := Lib.hid (rclip_any m a b)
  rw [hq] at AC
  have h4' : (m.kd != 4) = false := by rw [bne, h4]; rfl
  have h44 : m.kd = 4 := by simpa using h4
  have h4n : ¬ ¬ m.kd = 4 := fun h => h h44
  have HR := Lib.hid (show restM m a b = (if lt m.ky p.ky then [overM m m.ky p.ky] else []) ++ (if bef p.to m.to then [overM m p.to m.to] else []) by
    unfold restM restQ; rw [hq, show isPt m.kd = false by rw [h44]; rfl, h4]; rfl)
  rw [HR.out]
  clear hq hok HR h44 h4
  go_enter Try.func53, Try.ntmps53
  cases e5 : lt m.ky p.ky
  · have e5' := e5
    unfold lt at e5'
    cases e6 : bef p.to m.to
    · go_wp2_with (first
        | (go_at_call 51; ((with_reducible refine (AC.out _).mono ?_); rintro e w2 ⟨rfl, b2⟩; replace b2 := bel_alloc b2 (MO p); have ZP := Lib.hid (heap_alloc_new w2 (MO p)); replace Z0 := Lib.hid (two_bel (W2 := w2.alloc (MO p)) Z0.out b2); replace H0 := Lib.hid (bel_trans H0.out b2); clear b2 d0 d1; clear  c0 c1 c2 c3 c4 c5; obtain ⟨c0, c1, c2, c3, c4, c5⟩ := cells6 Z0.out.1; obtain ⟨p0, p1, p2, p3, p4, p5⟩ := cells6 ZP.out))
        | (go_at_call 62; ((with_reducible refine (rbefore_any _ _ _).mono ?_); rintro e w4 ⟨rfl, rfl⟩; rw [e6]))
        | fail)
      go_ret
      exact ⟨⟨_, _, rfl, .inl rfl⟩, H0.out⟩
    · go_wp2_with (first
        | (go_at_call 51; ((with_reducible refine (AC.out _).mono ?_); rintro e w2 ⟨rfl, b2⟩; replace b2 := bel_alloc b2 (MO p); have ZP := Lib.hid (heap_alloc_new w2 (MO p)); replace Z0 := Lib.hid (two_bel (W2 := w2.alloc (MO p)) Z0.out b2); replace H0 := Lib.hid (bel_trans H0.out b2); clear b2 d0 d1; clear  c0 c1 c2 c3 c4 c5; obtain ⟨c0, c1, c2, c3, c4, c5⟩ := cells6 Z0.out.1; obtain ⟨p0, p1, p2, p3, p4, p5⟩ := cells6 ZP.out; have BX := Lib.hid (bel_alloc (alb (w2.alloc (MO p)) (MO (overM m p.to m.to))) (MO (overM m p.to m.to))); have RLX : Hid (EG.Rd ((((w2.alloc (MO p))).alloc (MO (overM m p.to m.to))).alloc (MO (overM m p.to m.to))) (some ⟨w2.heap.size + 1 + 1, 0, none⟩) [overM m p.to m.to]) := Lib.hid (lit1 _ _ (by simp)); ))
        | (go_at_call 62; ((with_reducible refine (rbefore_any _ _ _).mono ?_); rintro e w4 ⟨rfl, rfl⟩; rw [e6]))
        | (at_builtin; refine RE.wpList_put EG _ rfl (.tmp 58) (.tmp 60) rfl (base := w.heap.size) (some ⟨w.heap.size + 1 + 1, 0, none⟩) 0 0 [] _ 1 1 [overM m p.to m.to] rfl rfl (.inl ⟨rfl, rfl⟩) rfl (by omega) (bel_trans H0.out BX.out).size rfl (by omega) RLX.out ?_; intro A58 q58 w58 r1 r2 r3; have R58 := Lib.hid r1; have HZ := Lib.hid ((bel_trans H0.out BX.out).trans (RE.Row.below (E := EG) r2 ((.inl ⟨rfl, rfl⟩ : EG.Row w w.heap.size (some ⟨w.heap.size + 1 + 1, 0, none⟩) [] 0)) (Nat.le_refl _) (bel_trans H0.out BX.out).size)); clear r1 r2 r3)
        | fail)
      go_ret
      exact ⟨⟨_, _, rfl, R58.out.rd⟩, HZ.out⟩
  · have e5' := e5
    unfold lt at e5'
    cases e6 : bef p.to m.to
    · go_wp2_with (first
        | (go_at_call 51; ((with_reducible refine (AC.out _).mono ?_); rintro e w2 ⟨rfl, b2⟩; replace b2 := bel_alloc b2 (MO p); have ZP := Lib.hid (heap_alloc_new w2 (MO p)); replace Z0 := Lib.hid (two_bel (W2 := w2.alloc (MO p)) Z0.out b2); replace H0 := Lib.hid (bel_trans H0.out b2); clear b2 d0 d1; clear  c0 c1 c2 c3 c4 c5; obtain ⟨c0, c1, c2, c3, c4, c5⟩ := cells6 Z0.out.1; obtain ⟨p0, p1, p2, p3, p4, p5⟩ := cells6 ZP.out; have BX := Lib.hid (bel_alloc (alb (w2.alloc (MO p)) (MO (overM m m.ky p.ky))) (MO (overM m m.ky p.ky))); have RLX : Hid (EG.Rd ((((w2.alloc (MO p))).alloc (MO (overM m m.ky p.ky))).alloc (MO (overM m m.ky p.ky))) (some ⟨w2.heap.size + 1 + 1, 0, none⟩) [overM m m.ky p.ky]) := Lib.hid (lit1 _ _ (by simp)); ))
        | (go_at_call 62; ((with_reducible refine (rbefore_any _ _ _).mono ?_); rintro e w4 ⟨rfl, rfl⟩; rw [e6]))
        | (at_builtin; refine RE.wpList_put EG _ rfl (.tmp 45) (.tmp 47) rfl (base := w.heap.size) (some ⟨w.heap.size + 1 + 1, 0, none⟩) 0 0 [] _ 1 1 [overM m m.ky p.ky] rfl rfl (.inl ⟨rfl, rfl⟩) rfl (by omega) (bel_trans H0.out BX.out).size rfl (by omega) RLX.out ?_; intro A45 q45 w45 r1 r2 r3; have R45 := Lib.hid r1; have bu := bel_trans BX.out (bel_of_nil2 r2); replace ZP := Lib.hid (keep_bel bu ZP.out); replace Z0 := Lib.hid (two_bel Z0.out bu); replace H0 := Lib.hid (bel_trans H0.out bu); clear bu BX RLX c0 c1 c2 c3 c4 c5 p0 p1 p2 p3 p4 p5; obtain ⟨c0, c1, c2, c3, c4, c5⟩ := cells6 Z0.out.1; obtain ⟨p0, p1, p2, p3, p4, p5⟩ := cells6 ZP.out; clear r1 r2 r3)
        | fail)
      go_ret
      exact ⟨⟨_, _, rfl, R45.out.rd⟩, H0.out⟩
    · go_wp2_with (first
        | (go_at_call 51; ((with_reducible refine (AC.out _).mono ?_); rintro e w2 ⟨rfl, b2⟩; replace b2 := bel_alloc b2 (MO p); have ZP := Lib.hid (heap_alloc_new w2 (MO p)); replace Z0 := Lib.hid (two_bel (W2 := w2.alloc (MO p)) Z0.out b2); replace H0 := Lib.hid (bel_trans H0.out b2); clear b2 d0 d1; clear  c0 c1 c2 c3 c4 c5; obtain ⟨c0, c1, c2, c3, c4, c5⟩ := cells6 Z0.out.1; obtain ⟨p0, p1, p2, p3, p4, p5⟩ := cells6 ZP.out; have BX := Lib.hid (bel_alloc (alb (w2.alloc (MO p)) (MO (overM m m.ky p.ky))) (MO (overM m m.ky p.ky))); have RLX : Hid (EG.Rd ((((w2.alloc (MO p))).alloc (MO (overM m m.ky p.ky))).alloc (MO (overM m m.ky p.ky))) (some ⟨w2.heap.size + 1 + 1, 0, none⟩) [overM m m.ky p.ky]) := Lib.hid (lit1 _ _ (by simp)); ))
        | (go_at_call 62; ((with_reducible refine (rbefore_any _ _ _).mono ?_); rintro e w4 ⟨rfl, rfl⟩; rw [e6]))
        | (at_builtin; refine RE.wpList_put EG _ rfl (.tmp 45) (.tmp 47) rfl (base := w.heap.size) (some ⟨w.heap.size + 1 + 1, 0, none⟩) 0 0 [] _ 1 1 [overM m m.ky p.ky] rfl rfl (.inl ⟨rfl, rfl⟩) rfl (by omega) (bel_trans H0.out BX.out).size rfl (by omega) RLX.out ?_; intro A45 q45 w45 r1 r2 r3; have R45 := Lib.hid r1; have bu := bel_trans BX.out (bel_of_nil2 r2); replace ZP := Lib.hid (keep_bel bu ZP.out); replace Z0 := Lib.hid (two_bel Z0.out bu); replace H0 := Lib.hid (bel_trans H0.out bu); clear bu BX RLX c0 c1 c2 c3 c4 c5 p0 p1 p2 p3 p4 p5; obtain ⟨c0, c1, c2, c3, c4, c5⟩ := cells6 Z0.out.1; obtain ⟨p0, p1, p2, p3, p4, p5⟩ := cells6 ZP.out; have BX := Lib.hid (bel_alloc (alb w45 (MO (overM m p.to m.to))) (MO (overM m p.to m.to))); have RLX : Hid (EG.Rd (((w45).alloc (MO (overM m p.to m.to))).alloc (MO (overM m p.to m.to))) (some ⟨w45.heap.size + 1, 0, none⟩) [overM m p.to m.to]) := Lib.hid (lit1 _ _ (by simp)); have RW := Lib.hid (R45.out.later BX.out); have p3b := bel_later (alb w45 (MO m)) p3; clear r1 r2 r3)
        | (at_builtin; refine RE.wpList_put EG _ rfl (.tmp 58) (.tmp 60) rfl (base := w.heap.size) A45 1 q45 [overM m m.ky p.ky] _ 1 1 [overM m p.to m.to] rfl rfl RW.out rfl (by omega) (bel_trans H0.out BX.out).size rfl (by omega) RLX.out ?_; intro A58 q58 w58 r1 r2 r3; have R58 := Lib.hid r1; have HZ := Lib.hid ((bel_trans H0.out BX.out).trans (RE.Row.below (E := EG) r2 (RW.out) (Nat.le_refl _) (bel_trans H0.out BX.out).size)); clear r1 r2 r3)
        | fail)
      go_ret
      exact ⟨⟨_, _, rfl, R58.out.rd⟩, HZ.out⟩
theorem rrest_any (m : MG) (a b : ByteArray) (w : World) :
    Calls Try.prog 53 #[MV m, .agg #[.string a, .string b]] w (RowsOf (restM m a b) w) := by
  cases hok : (clipM m a b).2
  · exact rrest_out m a b w hok
  · cases hp : isPt m.kd
    · cases h4 : (m.kd == 4)
      · exfalso
        have : clipM m a b = (zM, false) := by unfold clipM; rw [hp, h4]; rfl
        rw [this] at hok; cases hok
      · exact rrest_cl m a b w hok h4
    · exact rrest_pt m a b w hok hp
end Go.Proofs.Ytdbnkeihnoglcaa
