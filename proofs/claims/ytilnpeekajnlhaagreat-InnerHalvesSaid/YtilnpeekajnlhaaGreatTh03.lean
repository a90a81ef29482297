/- Texts of the proof, one behind the other. -/
import Derived.Test.YtilnpeekajnlhaaGreatTh02
import Derived.Deep.RegionHeld3
set_option linter.unusedVariables false
set_option linter.unusedSimpArgs false
namespace Go.Proofs.YtilnpeekajnlhaaGreat
open Go.RowKit Go.Maps
theorem within_eq (a0 a1 b0 b1 : ByteArray) : withinB a0 a1 b0 b1 = (sb a0 a1 && (sb b0 b1 && (!lt a0 b0 && !bef b1 a1))) := by
  unfold withinB
  cases h1 : sb a0 a1
  · have e : meetF a0 a1 b0 b1 = (emptyS, emptyS, false) := by unfold meetF; rw [if_neg (by simp [h1])]
    rw [e]; simp
  · cases h2 : sb b0 b1
    · have e : meetF a0 a1 b0 b1 = (emptyS, emptyS, false) := by unfold meetF; rw [if_neg (by simp [h2])]
      rw [e]; simp
    · rw [meetF_E a0 a1 b0 b1 h1 h2]
      have em : maxS a0 b0 = if lt a0 b0 = true then b0 else a0 := rfl
      have ef : firstS a1 b1 = if bef b1 a1 = true then b1 else a1 := rfl
      have hl : lt a0 b0 = true → (b0.toList == a0.toList) = false := fun h => (gt_facts a0 b0 h).2
      have hf : bef b1 a1 = true → (b1.toList == a1.toList) = false := by
        intro h
        rw [beq_eq_false_iff_ne]; intro e
        unfold bef emp lt at h; rw [e, bl_irr] at h
        cases k : a1.toList.isEmpty <;> simp [k] at h
      unfold meetE
      rw [em, ef]
      cases k1 : lt a0 b0 <;> cases k2 : bef b1 a1 <;> simp [h1, h2, k1, k2] at hl hf ⊢
      all_goals first | (intro h; exact absurd h hl) | (split <;> simp_all; done) | (simp_all; done)


theorem wiR_eq (b0 b1 : ByteArray) (x : MG) : wiR b0 b1 x = withinB (spF x) (spT x) b0 b1 := (within_eq _ _ _ _).symm
abbrev SM (wr : World) (b g : Nat) (b0 b1 : ByteArray) (x : MG) (W : World) : Prop := Below wr.heap.size wr W ∧ W.cell? ⟨g, 0, none⟩ = some (.string b0) ∧ W.cell? ⟨g, 1, none⟩ = some (.string b1) ∧ W.cell? ⟨b, 0, none⟩ = some (.int .u8 x.kd) ∧ W.cell? ⟨b, 1, none⟩ = some (.int .i64 x.sq) ∧ W.cell? ⟨b, 2, none⟩ = some (.string x.ky) ∧ W.cell? ⟨b, 3, none⟩ = some (.string x.to) ∧ W.cell? ⟨b, 4, none⟩ = some (.string x.vl) ∧ W.cell? ⟨b, 5, none⟩ = some (.int .u64 x.dl)
abbrev CF (g : Nat) : Value := .func (.func 64) #[] #[.pointer (some ⟨g, 0, none⟩)]
set_option maxRecDepth 10000 in
set_option maxHeartbeats 2000000 in
theorem ask_any (g : Nat) (b0 b1 : ByteArray) (x : MG) (hx : x.Ok) (w : World) (h0 : w.heap[g]? = some (rgc b0 b1)) :
    Calls Tryz.prog 64 #[MV x, .pointer (some ⟨g, 0, none⟩)] w fun r w' => r = .returned (.bool (!wiR b0 b1 x)) ∧ Below w.heap.size w w' := by
  have HOX := Lib.hid hx
  have AW := Lib.hid (fun W => within_any (spF x) (spT x) b0 b1 W)
  rw [wiR_eq]
  generalize withinB (spF x) (spT x) b0 b1 = q at *
  have H0 := Lib.hid (alb w (MO x))
  have z0 := Lib.hid (heap_alloc_new w (MO x))
  have zg := Lib.hid (keep_bel H0.out h0)
  clear h0 hx
  go_enter Tryz.func64, Tryz.ntmps64
  go_wp2_with fail
  refine at_code (fun WN hWN => ?_)
  have H1 := Lib.hid (show Below w.heap.size w WN by rw [hWN]; exact H0.out)
  have KS := Lib.hid (show ∀ W, Below WN.heap.size WN W → SM WN w.heap.size g b0 b1 x W from fun W h => by
    rw [hWN] at h
    obtain ⟨c0, c1, c2, c3, c4, c5⟩ := cells6 (keep_bel h z0.out)
    obtain ⟨d0, d1, _, _⟩ := has_two (keep_bel h zg.out)
    refine ⟨by rw [hWN]; exact h, d0, d1, c0, c1, c2, c3, c4, c5⟩)
  clear hWN H0 z0 zg
  go_region_held3 (fun W => Below WN.heap.size WN W ∧ W.cell? ⟨g, 0, none⟩ = some (.string b0) ∧ W.cell? ⟨g, 1, none⟩ = some (.string b1) ∧ W.cell? ⟨w.heap.size, 0, none⟩ = some (.int .u8 x.kd) ∧ W.cell? ⟨w.heap.size, 1, none⟩ = some (.int .i64 x.sq) ∧ W.cell? ⟨w.heap.size, 2, none⟩ = some (.string x.ky) ∧ W.cell? ⟨w.heap.size, 3, none⟩ = some (.string x.to) ∧ W.cell? ⟨w.heap.size, 4, none⟩ = some (.string x.vl) ∧ W.cell? ⟨w.heap.size, 5, none⟩ = some (.int .u64 x.dl)) (first | exact KS.out _ ((Below.refl _ _).drew) | exact KS.out _ (bel_trans (And.left ‹_›) ‹_›) | (trace_state; fail)) (first
    | (go_at_call 59; ((with_reducible refine (span_any x HOX.out _).mono ?_); rintro e w1 ⟨rfl, b1⟩))
    | (go_at_call 65; ((with_reducible refine (AW.out _).mono ?_); rintro e w1 ⟨rfl, b1⟩)))
  all_goals
    rename_i hH
    have HW := Lib.hid (bel_trans H1.out hH.1)
    clear hH
    go_wp2
    go_ret
    exact ⟨rfl, HW.out⟩
set_option maxRecDepth 10000 in
set_option maxHeartbeats 2000000 in
theorem index_any (g : Nat) (b0 b1 : ByteArray) (A : Option Addr) (n c : Nat) (xs : List MG) (w : World) (hl : xs.length = n) (hn : n ≤ 1000) (hA : EG.Rd w A xs) (ho : OkA xs) (h0 : w.heap[g]? = some (rgc b0 b1)) :
    Calls Tryz.prog 87 #[.slice A n c, CF g] w fun r w' => (∃ v : Int, r = .returned (.int .i64 v) ∧ (0 ≤ v ↔ xs.all (wiR b0 b1) = false) ∧ (v < 1001)) ∧ Below w.heap.size w w' := by
  have HL := Lib.hid hl
  have HA := Lib.hid hA
  have HO := Lib.hid ho
  have z0 := Lib.hid h0
  clear hl hA ho h0
  go_enter Tryz.func87, Tryz.ntmps87
  go_wp2
  go_loopw [8] (fun iv wr => ∃ (k : Nat), k ≤ n ∧ iv = .int .i64 k ∧ (xs.take k).all (wiR b0 b1) = true ∧ Below w.heap.size w wr) (fun i _ => n - (intOf i).toNat)
  case atStart => exact ⟨0, by omega, rfl, rfl, Below.refl _ _⟩
  case round =>
    obtain ⟨k, hk, rfl, ha, hb⟩ := hrel
    have HB := Lib.hid hb
    have HAL := Lib.hid ha
    clear hb ha
    by_cases h8 : k < n
    · have hk1 : (k : Int) < (n : Int) := by omega
      have hk0 : (0 : Int) ≤ (k : Int) := by omega
      obtain ⟨x, hx⟩ : ∃ x, xs[k]? = some x := ⟨_, List.getElem?_eq_getElem (by rw [HL.out]; omega)⟩
      obtain ⟨b, off, rfl, hlt, g0, g1, g2, g3, g4, g5⟩ := eg_at (HA.out.later HB.out) hx
      have HX := Lib.hid hx
      have AX := Lib.hid (ask_any g b0 b1 x (HO.out.get hx) wr (keep_bel HB.out z0.out))
      clear hx hlt
      cases hh : wiR b0 b1 x
      all_goals
        rw [hh] at AX
        have HH := Lib.hid hh
        clear hh
        go_wp2_with (first
          | (go_at_call 64; ((with_reducible refine AX.out.mono ?_); rintro e w1 ⟨rfl, b1⟩; have B1 := Lib.hid (bel_trans HB.out b1); clear b1))
          | fail)
        first
          | exact ⟨⟨k + 1, by omega, by simp, all_take HAL.out HX.out HH.out, B1.out⟩, by simp [intOf]; omega⟩
          | (go_ret; exact ⟨⟨k, rfl, ⟨fun _ => all_no HX.out HH.out, fun _ => by omega⟩, by omega⟩, B1.out⟩)
    · have hk1 : ¬ (k : Int) < (n : Int) := by omega
      have e : xs.take k = xs := List.take_of_length_le (by rw [HL.out]; omega)
      rw [e] at HAL
      go_wp2
      go_ret
      exact ⟨⟨-1, rfl, ⟨fun h => absurd h (by omega), fun h => by (obtain ⟨y, hy, hy2⟩ := h; have := List.all_eq_true.1 HAL.out y hy; rw [hy2] at this; cases this)⟩, by omega⟩, HB.out⟩
theorem contains_any (g : Nat) (b0 b1 : ByteArray) (A : Option Addr) (n c : Nat) (xs : List MG) (w : World) (hl : xs.length = n) (hn : n ≤ 1000) (hA : EG.Rd w A xs) (ho : OkA xs) (h0 : w.heap[g]? = some (rgc b0 b1)) :
    Calls Tryz.prog 63 #[.slice A n c, CF g] w fun r w' => r = .returned (.bool (!xs.all (wiR b0 b1))) ∧ Below w.heap.size w w' := by
  have P := Lib.hid (index_any g b0 b1 A n c xs w hl hn hA ho h0)
  clear hl hn hA ho h0
  go_enter Tryz.func63, Tryz.ntmps63
  go_wp2_with (first
    | (go_at_call 87; ((with_reducible refine P.out.mono ?_); rintro e w1 ⟨⟨v, rfl, hv, hv2⟩, b1⟩; have B1 := Lib.hid b1; have HV := Lib.hid hv; clear b1 hv P))
    | fail)
  go_ret
  refine ⟨?_, B1.out⟩
  cases hh : xs.all (wiR b0 b1)
  · have : (0 : Int) ≤ v := HV.out.2 hh
    simp [this]
  · have : ¬ (0 : Int) ≤ v := fun h => by have := HV.out.1 h; rw [hh] at this; cases this
    simp only [Bool.not_true]; simp; omega
theorem withinA_any (b0 b1 : ByteArray) (A : Option Addr) (n c : Nat) (xs : List MG) (w : World) (hl : xs.length = n) (hn : n ≤ 1000) (hA : EG.Rd w A xs) (ho : OkA xs) :
    Calls Tryz.prog 32 #[.slice A n c, .agg #[.string b0, .string b1]] w fun r w' => r = .returned (.bool (xs.all (wiR b0 b1))) ∧ Below w.heap.size w w' := by
  have P := Lib.hid (contains_any w.heap.size b0 b1 A n c xs (w.alloc (rgc b0 b1)) hl hn (hA.later (alb _ _)) ho (heap_alloc_new _ _))
  clear hl hn hA ho
  go_enter Tryz.func32, Tryz.ntmps32
  go_wp2_with (first
    | (go_at_call 63; ((with_reducible refine P.out.mono ?_); rintro e w1 ⟨rfl, b1⟩; have B1 := Lib.hid (bel_a b1); clear b1 P))
    | fail)
  go_ret
  exact ⟨by simp, B1.out⟩
end Go.Proofs.YtilnpeekajnlhaaGreat
namespace Go.Proofs.YtilnpeekajnlhaaGreat
open Go.RowKit Go.Maps
def cmpI (a b : Int) : Int := if a < b then -1 else if b < a then 1 else 0
def cmpS (a b : ByteArray) : Int := if lt a b then -1 else if lt b a then 1 else 0
def orI (p q : Int) : Int := if p = 0 then q else p
def ordM (a b : MG) : Int := orI (cmpI a.sq b.sq) (cmpS a.ky b.ky)
def aheadM (a b : MG) : Bool := decide (a.sq < b.sq) || (a.sq == b.sq && lt a.ky b.ky)
theorem nanI_any (a : Int) (w : World) : Calls Tryz.prog 98 #[.int .i64 a] w fun r w' => r = .returned (.bool false) ∧ w = w' := by
  go_enter Tryz.func98, Tryz.ntmps98
  go_wp2
  all_goals
    go_ret
    exact ⟨by first | rfl | simp, rfl⟩
theorem nanS_any (a : ByteArray) (w : World) : Calls Tryz.prog 99 #[.string a] w fun r w' => r = .returned (.bool false) ∧ w = w' := by
  go_enter Tryz.func99, Tryz.ntmps99
  go_wp2
  all_goals
    go_ret
    exact ⟨by first | rfl | simp, rfl⟩
theorem cmpI_any (a b : Int) (w : World) : Calls Tryz.prog 85 #[.int .i64 a, .int .i64 b] w fun r w' => r = .returned (.int .i64 (cmpI a b)) ∧ w = w' := by
  unfold cmpI
  go_enter Tryz.func85, Tryz.ntmps85
  by_cases h1 : a < b
  · go_wp2_with (go_at_call 98; refine (nanI_any _ _).mono ?_; rintro e w' ⟨rfl, rfl⟩)
    go_ret
    exact ⟨by simp [h1], rfl⟩
  · by_cases h2 : b < a
    · go_wp2_with (go_at_call 98; refine (nanI_any _ _).mono ?_; rintro e w' ⟨rfl, rfl⟩)
      go_ret
      exact ⟨by simp [h1, h2], rfl⟩
    · go_wp2_with (go_at_call 98; refine (nanI_any _ _).mono ?_; rintro e w' ⟨rfl, rfl⟩)
      go_ret
      exact ⟨by simp [h1, h2], rfl⟩
theorem cmpS_any (a b : ByteArray) (w : World) : Calls Tryz.prog 86 #[.string a, .string b] w fun r w' => r = .returned (.int .i64 (cmpS a b)) ∧ w = w' := by
  unfold cmpS lt
  go_enter Tryz.func86, Tryz.ntmps86
  cases h1 : Op.bytesLess a.toList b.toList
  · cases h2 : Op.bytesLess b.toList a.toList
    · have he : (a.toList == b.toList) = true := by
        rcases bl_tri a.toList b.toList with x | x | x
        · rw [h1] at x; cases x
        · rw [x]; simp
        · rw [h2] at x; cases x
      go_wp2_with (go_at_call 99; refine (nanS_any _ _).mono ?_; rintro e w' ⟨rfl, rfl⟩)
      go_ret
      exact ⟨by simp [h1, h2], rfl⟩
    · have he : (a.toList == b.toList) = false := by
        rw [beq_eq_false_iff_ne]; intro x; rw [x, bl_irr] at h2; cases h2
      go_wp2_with (go_at_call 99; refine (nanS_any _ _).mono ?_; rintro e w' ⟨rfl, rfl⟩)
      go_ret
      exact ⟨by simp [h1, h2], rfl⟩
  · go_wp2_with (go_at_call 99; refine (nanS_any _ _).mono ?_; rintro e w' ⟨rfl, rfl⟩)
    go_ret
    exact ⟨by simp [h1], rfl⟩
set_option maxHeartbeats 1000000 in
theorem or_any (g : Nat) (a b : Int) (t : TypeId) (w : World) (h : w.heap[g]? = some (.cells #[.int .i64 a, .int .i64 b] t (0, 0))) :
    Calls Tryz.prog 84 #[.slice (some ⟨g, 0, none⟩) 2 2] w fun r w' => r = .returned (.int .i64 (orI a b)) ∧ w = w' := by
  unfold orI
  obtain ⟨c0, c1, -, -⟩ := has_two h
  clear h
  go_enter Tryz.func84, Tryz.ntmps84
  go_wp2
  go_loopw [8] (fun iv wr => ((iv = .int .i64 0 ∧ w = wr) ∨ (iv = .int .i64 1 ∧ a = 0 ∧ w = wr) ∨ (iv = .int .i64 2 ∧ a = 0 ∧ b = 0 ∧ w = wr))) (fun i _ => 2 - (intOf i).toNat)
  case atStart => exact .inl ⟨rfl, rfl⟩
  case round =>
    rcases hrel with ⟨rfl, rfl⟩ | ⟨rfl, rfl, rfl⟩ | ⟨rfl, rfl, rfl, rfl⟩
    · by_cases e : a = 0
      · subst e
        go_wp2
        exact ⟨.inr (.inl (by simp)), by simp [intOf]⟩
      · have e2 : (a == 0) = false := by simpa using e
        go_wp2
        go_ret
        exact ⟨by simp [e], rfl⟩
    · by_cases e : b = 0
      · subst e
        go_wp2
        exact ⟨.inr (.inr (by simp)), by simp [intOf]⟩
      · have e2 : (b == 0) = false := by simpa using e
        go_wp2
        go_ret
        exact ⟨by simp, rfl⟩
    · go_wp2
      go_ret
      exact ⟨by simp, rfl⟩
set_option maxHeartbeats 1000000 in
theorem ahead_any (a b : MG) (w : World) :
    Calls Tryz.prog 41 #[MV a, MV b] w fun r w' => r = .returned (.bool (aheadM a b)) ∧ Below w.heap.size w w' := by
  have HB := Lib.hid (bel_alloc (alb w (MO a)) (MO b))
  obtain ⟨c0, c1, c2, c3, c4, c5⟩ := cells6 (two_new w (MO a) (MO b)).1
  obtain ⟨d0, d1, d2, d3, d4, d5⟩ := cells6 (two_new w (MO a) (MO b)).2
  unfold aheadM lt
  go_enter Tryz.func41, Tryz.ntmps41
  by_cases h1 : a.sq < b.sq
  · go_wp2
    all_goals
      go_ret
      exact ⟨by simp [h1], HB.out⟩
  · cases h2 : a.sq == b.sq
    · go_wp2
      all_goals
        go_ret
        exact ⟨by simp [h2, show ¬ a.sq < b.sq by omega], HB.out⟩
    · go_wp2
      all_goals
        go_ret
        exact ⟨by simp [h2, show ¬ a.sq < b.sq by omega], HB.out⟩
set_option maxRecDepth 10000 in
set_option maxHeartbeats 2000000 in
theorem order_any (a b : MG) (w : World) :
    Calls Tryz.prog 61 #[MV a, MV b] w fun r w' => r = .returned (.int .i64 (ordM a b)) ∧ Below w.heap.size w w' := by
  have H0 := Lib.hid (bel_alloc (alb w (MO a)) (MO b))
  have z1 := Lib.hid (two_new w (MO a) (MO b)).1
  have z2 := Lib.hid (two_new w (MO a) (MO b)).2
  unfold ordM
  have AI := Lib.hid (cmpI_any a.sq b.sq)
  have AS := Lib.hid (cmpS_any a.ky b.ky)
  generalize cmpI a.sq b.sq = p at *
  generalize cmpS a.ky b.ky = q at *
  go_enter Tryz.func61, Tryz.ntmps61
  go_wp2_with fail
  refine at_code (fun WN hWN => ?_)
  have H1 := Lib.hid (show Below w.heap.size w WN by rw [hWN]; exact H0.out)
  have KS := Lib.hid (show ∀ W, Below WN.heap.size WN W → Below WN.heap.size WN W ∧ W.cell? ⟨w.heap.size, 1, none⟩ = some (.int .i64 a.sq) ∧ W.cell? ⟨w.heap.size, 2, none⟩ = some (.string a.ky) ∧ W.cell? ⟨w.heap.size + 1, 1, none⟩ = some (.int .i64 b.sq) ∧ W.cell? ⟨w.heap.size + 1, 2, none⟩ = some (.string b.ky) from fun W h => by
    rw [hWN] at h
    obtain ⟨c0, c1, c2, c3, c4, c5⟩ := cells6 (keep_bel h z1.out)
    obtain ⟨d0, d1, d2, d3, d4, d5⟩ := cells6 (keep_bel h z2.out)
    exact ⟨by rw [hWN]; exact h, c1, c2, d1, d2⟩)
  clear hWN H0 z1 z2
  go_region_held3 (fun W => Below WN.heap.size WN W ∧ W.cell? ⟨w.heap.size, 1, none⟩ = some (.int .i64 a.sq) ∧ W.cell? ⟨w.heap.size, 2, none⟩ = some (.string a.ky) ∧ W.cell? ⟨w.heap.size + 1, 1, none⟩ = some (.int .i64 b.sq) ∧ W.cell? ⟨w.heap.size + 1, 2, none⟩ = some (.string b.ky)) (first | exact KS.out _ ((Below.refl _ _).drew) | exact KS.out _ (And.left ‹_›) | exact KS.out _ (bel_alloc (And.left ‹_›) _) | exact KS.out _ (by go_grown) | (trace_state; fail)) (first
    | (go_at_call 85; ((with_reducible refine (AI.out _).mono ?_); rintro e w1 ⟨rfl, rfl⟩))
    | (go_at_call 86; ((with_reducible refine (AS.out _).mono ?_); rintro e w1 ⟨rfl, rfl⟩))
    | (go_at_call 84; ((with_reducible refine (or_any _ p q 3 _ (by first | exact heap_alloc_new _ _ | exact keep_bel ((Below.refl _ _).drew) (heap_alloc_new _ _))).mono ?_); rintro e w1 ⟨rfl, rfl⟩)))
  all_goals
    rename_i hH
    have HW := Lib.hid (bel_trans H1.out hH.1)
    clear hH
    go_wp2
    go_ret
    exact ⟨by first | rfl | simp, HW.out⟩
end Go.Proofs.YtilnpeekajnlhaaGreat
namespace Go.Proofs.YtilnpeekajnlhaaGreat
open Go.RowKit Go.Maps
theorem at_exit {f : Exit → Act → World → Prop} {e : Exit} {a : Act} {W : World} (h : ∀ W2, W2 = W → f e a W2) : f e a W := h W rfl
def overM (m : MG) (a b : ByteArray) : MG := { m with ky := a, to := b }
abbrev zM : MG := ⟨0, 0, emptyS, emptyS, emptyS, 0⟩
theorem mo_frozen {W : World} {g : Nat} {m : MG} (z : W.heap[g]? = some (MO m)) : W.frozen? ⟨g, 2, none⟩ = false ∧ W.frozen? ⟨g, 3, none⟩ = false := by
  refine ⟨?_, ?_⟩ <;> simp [World.frozen?, z]
theorem mo_frozen6 {W : World} {g : Nat} {m : MG} (z : W.heap[g]? = some (MO m)) : W.frozen? ⟨g, 0, none⟩ = false ∧ W.frozen? ⟨g, 1, none⟩ = false ∧ W.frozen? ⟨g, 2, none⟩ = false ∧ W.frozen? ⟨g, 3, none⟩ = false ∧ W.frozen? ⟨g, 4, none⟩ = false ∧ W.frozen? ⟨g, 5, none⟩ = false := by
  refine ⟨?_, ?_, ?_, ?_, ?_, ?_⟩ <;> simp [World.frozen?, z]
theorem mo_set2 {W : World} {g : Nat} {m : MG} (z : W.heap[g]? = some (MO m)) (a : ByteArray) : (W.setCell ⟨g, 2, none⟩ (.string a)).heap[g]? = some (MO { m with ky := a }) := by
  simp [World.setCell, Array.getElem?_modify, z]
theorem mo_set3 {W : World} {g : Nat} {m : MG} (z : W.heap[g]? = some (MO m)) (a : ByteArray) : (W.setCell ⟨g, 3, none⟩ (.string a)).heap[g]? = some (MO { m with to := a }) := by
  simp [World.setCell, Array.getElem?_modify, z]
theorem set_ne {W : World} {g x o : Nat} {v : Value} {ob : Obj} (z : W.heap[x]? = some ob) (h : g ≠ x) : (W.setCell ⟨g, o, none⟩ v).heap[x]? = some ob := by
  simp [World.setCell, Array.getElem?_modify, z, h]
theorem three_new (w : World) (a b c : Obj) : (((w.alloc a).alloc b).alloc c).heap[w.heap.size]? = some a ∧ (((w.alloc a).alloc b).alloc c).heap[w.heap.size + 1]? = some b ∧ (((w.alloc a).alloc b).alloc c).heap[w.heap.size + 1 + 1]? = some c :=
  ⟨keep_bel (alb _ c) (two_new w a b).1, keep_bel (alb _ c) (two_new w a b).2, by have := heap_alloc_new ((w.alloc a).alloc b) c; simpa using this⟩
set_option maxRecDepth 100000 in
set_option maxHeartbeats 4000000 in
theorem over_any (m : MG) (a b : ByteArray) (w : World) :
    Calls Tryz.prog 79 #[MV m, .agg #[.string a, .string b]] w fun r w' => r = .returned (MV (overM m a b)) ∧ Below w.heap.size w w' := by
  have H0 := Lib.hid (bel_alloc (bel_alloc (alb w (MO m)) (rgc a b)) (MO zM))
  have q := three_new w (MO m) (rgc a b) (MO zM)
  have z1 := Lib.hid q.1
  have z2 := Lib.hid q.2.1
  have z3 := Lib.hid q.2.2
  clear q
  go_enter Tryz.func79, Tryz.ntmps79
  go_wp2_with fail
  refine at_code (fun WN hWN => ?_)
  have zW := Lib.hid (show WN.heap[w.heap.size]? = some (MO m) by rw [hWN]; exact z1.out)
  replace H0 := Lib.hid (show Below w.heap.size w WN.drew by rw [hWN]; exact H0.out.drew)
  replace z1 := Lib.hid (show WN.drew.heap[w.heap.size]? = some (MO m) by rw [hWN]; exact z1.out)
  replace z2 := Lib.hid (show WN.drew.heap[w.heap.size + 1]? = some (rgc a b) by rw [hWN]; exact z2.out)
  replace z3 := Lib.hid (show WN.drew.heap[w.heap.size + 1 + 1]? = some (MO zM) by rw [hWN]; exact z3.out)
  clear hWN
  have HS0 := Lib.hid (show Below w.heap.size w WN.drew ∧ WN.drew.cell? ⟨w.heap.size + 1, 0, none⟩ = some (.string a) ∧ WN.drew.cell? ⟨w.heap.size + 1, 1, none⟩ = some (.string b) from ⟨H0.out, (has_two z2.out).1, (has_two z2.out).2.1⟩)
  have y1 := Lib.hid (mo_set2 z1.out a)
  have y2 := Lib.hid (set_ne (g := w.heap.size) (o := 2) (v := .string a) z2.out (by omega))
  have y3 := Lib.hid (set_ne (g := w.heap.size) (o := 2) (v := .string a) z3.out (by omega))
  have H1 := Lib.hid (Below.setCell H0.out (p := ⟨w.heap.size, 2, none⟩) (Nat.le_refl _) (.string a))
  have HS1 := Lib.hid (show _ ∧ _ ∧ _ from ⟨H1.out, (has_two y2.out).1, (has_two y2.out).2.1⟩)
  have x1 := Lib.hid (mo_set3 y1.out b)
  have x2 := Lib.hid (set_ne (g := w.heap.size) (o := 3) (v := .string b) y2.out (by omega))
  have x3 := Lib.hid (set_ne (g := w.heap.size) (o := 3) (v := .string b) y3.out (by omega))
  have H2 := Lib.hid (Below.setCell H1.out (p := ⟨w.heap.size, 3, none⟩) (Nat.le_refl _) (.string b))
  have HS2 := Lib.hid (show _ ∧ _ ∧ _ from ⟨H2.out, (has_two x2.out).1, (has_two x2.out).2.1⟩)
  refine wp_region_held_drew (S := (fun V : World => Below w.heap.size w V ∧ V.cell? ⟨w.heap.size + 1, 0, none⟩ = some (.string a) ∧ V.cell? ⟨w.heap.size + 1, 1, none⟩ = some (.string b))) (by kernel_rfl) ?_ (fun hHeld => ?_)
  · exact HS0.out
  have HHeld := Lib.hid hHeld; clear hHeld
  refine wT (i := 0) (oi := { dst := some 5, op := Op.fieldAddr 30 (Operand.tmp 3) 0, type := 0, pos := "msg.go:128", after := #[], guard := none }) (v := ?_) rfl (Or.inl ⟨by rfl, ?_⟩) HHeld.out ?_
  rotate_left
  · intro w hSw; clear hSw; go_simp; try with_reducible rfl
  try simp only [pu, pn, s1, s2, s3]
  refine wT (i := 1) (oi := { dst := some 6, op := Op.load 9 (Operand.tmp 5), type := 9, pos := "msg.go:128", after := #[{ on := 0, ground := Ground.data }], guard := none }) (v := (.string a : Value)) rfl (Or.inl ⟨by rfl, ?_⟩) HHeld.out ?_
  · intro V hV; have hc0 := hV.2.1; clear hV; go_simp
  try simp only [pu, pn, s1, s2, s3]
  refine wT (i := 2) (oi := { dst := some 7, op := Op.fieldAddr 30 (Operand.tmp 3) 1, type := 0, pos := "msg.go:128", after := #[{ on := 5, ground := Ground.gcOnly Departure.lateStores }], guard := none }) (v := ?_) rfl (Or.inl ⟨by rfl, ?_⟩) HHeld.out ?_
  rotate_left
  · intro w hSw; clear hSw; go_simp; try with_reducible rfl
  try simp only [pu, pn, s1, s2, s3]
  refine wT (i := 3) (oi := { dst := some 8, op := Op.load 9 (Operand.tmp 7), type := 9, pos := "msg.go:128", after := #[{ on := 2, ground := Ground.data }, { on := 5, ground := Ground.gcOnly Departure.lateStores }], guard := none }) (v := (.string b : Value)) rfl (Or.inl ⟨by rfl, ?_⟩) HHeld.out ?_
  · intro V hV; have hc0 := hV.2.2; clear hV; go_simp
  try simp only [pu, pn, s1, s2, s3]
  refine wT (i := 4) (oi := { dst := some 9, op := Op.fieldAddr 50 (Operand.tmp 2) 2, type := 0, pos := "msg.go:128", after := #[{ on := 0, ground := Ground.phase }, { on := 1, ground := Ground.phase }, { on := 2, ground := Ground.textOnly Departure.lateStores }, { on := 3, ground := Ground.textOnly Departure.lateStores }], guard := none }) (v := ?_) rfl (Or.inl ⟨by rfl, ?_⟩) HHeld.out ?_
  rotate_left
  · intro w hSw; clear hSw; go_simp; try with_reducible rfl
  try simp only [pu, pn, s1, s2, s3]
  refine wpAnyH_ready (rs := [5]) (by kernel_rfl) (by simp) ?_
  refine AllReadyH.cons (o := { dst := none, op := Op.store 9 (Operand.tmp 9) (Operand.tmp 6), type := 0, pos := "msg.go:128", after := #[{ on := 4, ground := Ground.data }, { on := 1, ground := Ground.data }, { on := 0, ground := Ground.phase }, { on := 1, ground := Ground.phase }, { on := 2, ground := Ground.textOnly Departure.lateStores }, { on := 3, ground := Ground.textOnly Departure.lateStores }], guard := none }) rfl (fun K hK => ?_) AllReadyH.nil
  obtain ⟨c0, c1, c2, c3, c4, c5⟩ := cells6 zW.out
  obtain ⟨f2, f3⟩ := mo_frozen zW.out
  go_simp
  refine hK.out _ _ ?_ (fun hHeld => ?_)
  · exact HS1.out
  clear HHeld; have HHeld := Lib.hid hHeld; clear hHeld
  clear hK K
  try simp only [pu, pn, s1, s2, s3]
  refine wT (i := 6) (oi := { dst := some 10, op := Op.fieldAddr 50 (Operand.tmp 2) 3, type := 0, pos := "msg.go:128", after := #[{ on := 0, ground := Ground.phase }, { on := 1, ground := Ground.phase }, { on := 2, ground := Ground.phase }, { on := 3, ground := Ground.phase }, { on := 4, ground := Ground.phase }, { on := 5, ground := Ground.phase }], guard := none }) (v := ?_) rfl (Or.inl ⟨by rfl, ?_⟩) HHeld.out ?_
  rotate_left
  · intro w hSw; clear hSw; go_simp; try with_reducible rfl
  try simp only [pu, pn, s1, s2, s3]
  refine wpAnyH_ready (rs := [7]) (by kernel_rfl) (by simp) ?_
  refine AllReadyH.cons (o := { dst := none, op := Op.store 9 (Operand.tmp 10) (Operand.tmp 8), type := 0, pos := "msg.go:128", after := #[{ on := 6, ground := Ground.data }, { on := 3, ground := Ground.data }, { on := 5, ground := Ground.chain }, { on := 0, ground := Ground.phase }, { on := 1, ground := Ground.phase }, { on := 2, ground := Ground.phase }, { on := 3, ground := Ground.phase }, { on := 4, ground := Ground.phase }, { on := 5, ground := Ground.phase }], guard := none }) rfl (fun K hK => ?_) AllReadyH.nil
  go_simp
  refine hK.out _ _ ?_ (fun hHeld => ?_)
  · exact HS2.out
  clear HHeld; have HHeld := Lib.hid hHeld; clear hHeld
  clear hK K
  try simp only [pu, pn, s1, s2, s3]
  refine wpAnyH_done (by kernel_rfl) ?_ _
  clear c0 c1 c2 c3 c4 c5 f2 f3 zW
  clear HHeld HS0 HS1 HS2 y1 y2 y3 H0 H1 z1 z2 z3
  refine at_exit (fun WM hWM => ?_)
  replace x1 := Lib.hid (show WM.heap[w.heap.size]? = some (MO (overM m a b)) by rw [hWM]; exact x1.out)
  replace x3 := Lib.hid (show WM.heap[w.heap.size + 1 + 1]? = some (MO zM) by rw [hWM]; exact x3.out)
  replace H2 := Lib.hid (show Below w.heap.size w WM by rw [hWM]; exact H2.out)
  clear hWM
  obtain ⟨c0, c1, c2, c3, c4, c5⟩ := cells6 x1.out
  obtain ⟨f0, f1, f2, f3, f4, f5⟩ := mo_frozen6 (m := zM) x3.out
  obtain ⟨d0, d1, d2, d3, d4, d5⟩ := cells6 x3.out
  go_wp2
  refine bodyPost_ret (v := MV (overM m a b)) (by simp [results, Tryz.results79, go_sem, d0, d1, d2, d3, d4, d5, overM]) rfl ⟨rfl, ?_⟩
  exact Below.setCell (Below.setCell (Below.setCell (Below.setCell (Below.setCell (Below.setCell H2.out (by simp; omega) _) (by simp; omega) _) (by simp; omega) _) (by simp; omega) _) (by simp; omega) _) (by simp; omega) _
end Go.Proofs.YtilnpeekajnlhaaGreat
namespace Go.Proofs.YtilnpeekajnlhaaGreat
open Go.RowKit Go.Maps
def clipM (m : MG) (a b : ByteArray) : MG × Bool :=
  if isPt m.kd then (if sb a b && has a b m.ky then (m, true) else (zM, false))
  else if m.kd == 4 then (if (meetF m.ky m.to a b).2.2 then (overM m (meetF m.ky m.to a b).1 (meetF m.ky m.to a b).2.1, true) else (zM, false))
  else (zM, false)
abbrev CV (q : MG × Bool) : Value := .tuple #[MV q.1, .bool q.2]
/-- The three boxes of a call of Clip. -/
structure C3 (W : World) (g : Nat) (m : MG) (a b : ByteArray) (z : MG) : Prop where
  ha : W.heap[g]? = some (MO m)
  hb : W.heap[g + 1]? = some (rgc a b)
  hc : W.heap[g + 1 + 1]? = some (MO z)
theorem C3.later {W W2 : World} {g : Nat} {m z : MG} {a b : ByteArray} (h : C3 W g m a b z) (k : Below W.heap.size W W2) : C3 W2 g m a b z := ⟨keep_bel k h.ha, keep_bel k h.hb, keep_bel k h.hc⟩
theorem bel6 {B : Nat} {W X : World} {g : Nat} (h : Below B W X) (hg : B ≤ g) (a b c d e f : Value) : Below B W ((((((X.setCell ⟨g, 0, none⟩ a).setCell ⟨g, 1, none⟩ b).setCell ⟨g, 2, none⟩ c).setCell ⟨g, 3, none⟩ d).setCell ⟨g, 4, none⟩ e).setCell ⟨g, 5, none⟩ f) :=
  Below.setCell (Below.setCell (Below.setCell (Below.setCell (Below.setCell (Below.setCell h (p := ⟨_, _, none⟩) hg _) (p := ⟨_, _, none⟩) hg _) (p := ⟨_, _, none⟩) hg _) (p := ⟨_, _, none⟩) hg _) (p := ⟨_, _, none⟩) hg _) (p := ⟨_, _, none⟩) hg _
set_option maxRecDepth 100000 in
set_option maxHeartbeats 8000000 in
theorem clip_pt (m : MG) (ho : m.Ok) (a b : ByteArray) (w : World) (hp : isPt m.kd = true) :
    Calls Tryz.prog 76 #[MV m, .agg #[.string a, .string b]] w fun r w' => r = .returned (CV (clipM m a b)) ∧ Below w.heap.size w w' := by
  have h4 : (m.kd == 4) = false := by
    cases h : (m.kd == 4)
    · rfl
    · rw [beq_iff_eq] at h; rw [h] at hp; cases hp
  have HC : Hid (clipM m a b = if sb a b && has a b m.ky then (m, true) else (zM, false)) := Lib.hid (by unfold clipM; rw [if_pos hp])
  rw [HC.out]
  have H0 := Lib.hid (bel_alloc (bel_alloc (alb w (MO m)) (rgc a b)) (MO zM))
  have q := three_new w (MO m) (rgc a b) (MO zM)
  have Z := Lib.hid (C3.mk q.1 q.2.1 q.2.2)
  clear q HC
  obtain ⟨c0, c1, c2, c3, c4, c5⟩ := cells6 Z.out.ha
  go_enter Tryz.func76, Tryz.ntmps76
  cases e1 : sb a b
  · go_wp2_with (first
      | (go_at_call 60; ((with_reducible refine (isp_any m _).mono ?_); rintro e w1 ⟨rfl, b1⟩; rw [hp]; replace Z := Lib.hid (Z.out.later b1); replace H0 := Lib.hid (bel_trans H0.out b1); clear b1 c0 c1 c2 c3 c4 c5; obtain ⟨c0, c1, c2, c3, c4, c5⟩ := cells6 Z.out.ha; obtain ⟨d0, d1, -, -⟩ := has_two Z.out.hb))
      | (go_at_call 56; ((with_reducible refine (rightRange_any _ _ _).mono ?_); rintro e w2 ⟨rfl, b2⟩; rw [e1]; replace Z := Lib.hid (Z.out.later b2); replace H0 := Lib.hid (bel_trans H0.out b2); clear b2 c0 c1 c2 c3 c4 c5 d0 d1; obtain ⟨c0, c1, c2, c3, c4, c5⟩ := cells6 Z.out.ha; obtain ⟨f0, f1, f2, f3, f4, f5⟩ := mo_frozen6 Z.out.hc; obtain ⟨k0, k1, k2, k3, k4, k5⟩ := cells6 Z.out.hc))
      | fail)
    refine bodyPost_ret (v := CV (zM, false)) (by simp [results, Tryz.results76, go_sem, k0, k1, k2, k3, k4, k5]) rfl ⟨by simp [e1], ?_⟩
    exact bel6 H0.out (by omega) _ _ _ _ _ _
  · cases e2 : has a b m.ky
    · go_wp2_with (first
        | (go_at_call 60; ((with_reducible refine (isp_any m _).mono ?_); rintro e w1 ⟨rfl, b1⟩; rw [hp]; replace Z := Lib.hid (Z.out.later b1); replace H0 := Lib.hid (bel_trans H0.out b1); clear b1 c0 c1 c2 c3 c4 c5; obtain ⟨c0, c1, c2, c3, c4, c5⟩ := cells6 Z.out.ha; obtain ⟨d0, d1, -, -⟩ := has_two Z.out.hb))
        | (go_at_call 56; ((with_reducible refine (rightRange_any _ _ _).mono ?_); rintro e w2 ⟨rfl, b2⟩; rw [e1]; replace Z := Lib.hid (Z.out.later b2); replace H0 := Lib.hid (bel_trans H0.out b2); clear b2 c0 c1 c2 c3 c4 c5 d0 d1; obtain ⟨c0, c1, c2, c3, c4, c5⟩ := cells6 Z.out.ha; obtain ⟨d0, d1, -, -⟩ := has_two Z.out.hb))
        | (go_at_call 58; ((with_reducible refine (holds_any _ _ _ _).mono ?_); rintro e w3 ⟨rfl, b3⟩; rw [e2]; replace Z := Lib.hid (Z.out.later b3); replace H0 := Lib.hid (bel_trans H0.out b3); clear b3 c0 c1 c2 c3 c4 c5 d0 d1; obtain ⟨c0, c1, c2, c3, c4, c5⟩ := cells6 Z.out.ha; obtain ⟨f0, f1, f2, f3, f4, f5⟩ := mo_frozen6 Z.out.hc; obtain ⟨k0, k1, k2, k3, k4, k5⟩ := cells6 Z.out.hc))
        | fail)
      refine bodyPost_ret (v := CV (zM, false)) (by simp [results, Tryz.results76, go_sem, k0, k1, k2, k3, k4, k5]) rfl ⟨by simp [e1, e2], ?_⟩
      exact bel6 H0.out (by omega) _ _ _ _ _ _
    · go_wp2_with (first
        | (go_at_call 60; ((with_reducible refine (isp_any m _).mono ?_); rintro e w1 ⟨rfl, b1⟩; rw [hp]; replace Z := Lib.hid (Z.out.later b1); replace H0 := Lib.hid (bel_trans H0.out b1); clear b1 c0 c1 c2 c3 c4 c5; obtain ⟨c0, c1, c2, c3, c4, c5⟩ := cells6 Z.out.ha; obtain ⟨d0, d1, -, -⟩ := has_two Z.out.hb))
        | (go_at_call 56; ((with_reducible refine (rightRange_any _ _ _).mono ?_); rintro e w2 ⟨rfl, b2⟩; rw [e1]; replace Z := Lib.hid (Z.out.later b2); replace H0 := Lib.hid (bel_trans H0.out b2); clear b2 c0 c1 c2 c3 c4 c5 d0 d1; obtain ⟨c0, c1, c2, c3, c4, c5⟩ := cells6 Z.out.ha; obtain ⟨d0, d1, -, -⟩ := has_two Z.out.hb))
        | (go_at_call 58; ((with_reducible refine (holds_any _ _ _ _).mono ?_); rintro e w3 ⟨rfl, b3⟩; rw [e2]; replace Z := Lib.hid (Z.out.later b3); replace H0 := Lib.hid (bel_trans H0.out b3); clear b3 c0 c1 c2 c3 c4 c5 d0 d1; obtain ⟨c0, c1, c2, c3, c4, c5⟩ := cells6 Z.out.ha; obtain ⟨f0, f1, f2, f3, f4, f5⟩ := mo_frozen6 Z.out.hc; obtain ⟨k0, k1, k2, k3, k4, k5⟩ := cells6 Z.out.hc))
        | fail)
      refine bodyPost_ret (v := CV (m, true)) (by simp [results, Tryz.results76, go_sem, k0, k1, k2, k3, k4, k5]) rfl ⟨by simp [e1, e2], ?_⟩
      exact bel6 H0.out (by omega) _ _ _ _ _ _
set_option maxRecDepth 100000 in
set_option maxHeartbeats 8000000 in
theorem clip_no (m : MG) (ho : m.Ok) (a b : ByteArray) (w : World) (hp : isPt m.kd = false) (h4 : (m.kd == 4) = false) :
    Calls Tryz.prog 76 #[MV m, .agg #[.string a, .string b]] w fun r w' => r = .returned (CV (clipM m a b)) ∧ Below w.heap.size w w' := by
  have HC : Hid (clipM m a b = (zM, false)) := Lib.hid (by unfold clipM; rw [hp, h4]; rfl)
  rw [HC.out]
  have H0 := Lib.hid (bel_alloc (bel_alloc (alb w (MO m)) (rgc a b)) (MO zM))
  have q := three_new w (MO m) (rgc a b) (MO zM)
  have Z := Lib.hid (C3.mk q.1 q.2.1 q.2.2)
  clear q HC
  obtain ⟨c0, c1, c2, c3, c4, c5⟩ := cells6 Z.out.ha
  go_enter Tryz.func76, Tryz.ntmps76
  go_wp2_with (first
    | (go_at_call 60; ((with_reducible refine (isp_any m _).mono ?_); rintro e w1 ⟨rfl, b1⟩; rw [hp]; replace Z := Lib.hid (Z.out.later b1); replace H0 := Lib.hid (bel_trans H0.out b1); clear b1 c0 c1 c2 c3 c4 c5; obtain ⟨c0, c1, c2, c3, c4, c5⟩ := cells6 Z.out.ha; obtain ⟨f0, f1, f2, f3, f4, f5⟩ := mo_frozen6 Z.out.hc; obtain ⟨k0, k1, k2, k3, k4, k5⟩ := cells6 Z.out.hc))
    | fail)
  refine bodyPost_ret (v := CV (zM, false)) (by simp [results, Tryz.results76, go_sem, k0, k1, k2, k3, k4, k5]) rfl ⟨rfl, ?_⟩
  exact bel6 H0.out (by omega) _ _ _ _ _ _
end Go.Proofs.YtilnpeekajnlhaaGreat
