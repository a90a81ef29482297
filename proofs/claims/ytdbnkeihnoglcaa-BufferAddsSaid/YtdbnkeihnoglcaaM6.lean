/- Within of the program: a closure asked of each message. -/
import Derived.Test.YtdbnkeihnoglcaaM5
namespace Go.Proofs.Ytdbnkeihnoglcaa
set_option linter.unusedSimpArgs false
open Go.RowKit Go.Maps
set_option linter.unusedVariables false
theorem within_eq (a0 a1 b0 b1 : ByteArray) : withinB a0 a1 b0 b1 = (sb a0 a1 && (sb b0 b1 && (!lt a0 b0 && !bef b1 a1))) := by
  unfold withinB
  cases h1 : sb a0 a1
  · have e : meetF a0 a1 b0 b1 = (emptyS, emptyS, false) := by unfold meetF; rw [if_neg (by simp [h1])]
    rw [e]; simp
  · cases h2 : sb b0 b1
    · have e : meetF a0 a1 b0 b1 = (emptyS, emptyS, false) := by unfold meetF; rw [if_neg (by simp [h2])]
      rw [e]; simp
    · rw [meetF_E a0 a1 b0 b1 h1 h2]
      have em : maxS a0 b0 = if lt a0 b0 = true then b0 else a0 := rfl
      have ef : firstS a1 b1 = if bef b1 a1 = true then b1 else a1 := rfl
      have hl : lt a0 b0 = true → (b0.toList == a0.toList) = false := fun h => (gt_facts a0 b0 h).2
      have hf : bef b1 a1 = true → (b1.toList == a1.toList) = false := by
        intro h
        rw [beq_eq_false_iff_ne]; intro e
        unfold bef emp lt at h; rw [e, bl_irr] at h
        cases k : a1.toList.isEmpty <;> simp [k] at h
      unfold meetE
      rw [em, ef]
      cases k1 : lt a0 b0 <;> cases k2 : bef b1 a1 <;> simp [h1, h2, k1, k2] at hl hf ⊢
      all_goals first | (intro h; exact absurd h hl) | (split <;> simp_all; done) | (simp_all; done)


theorem wiR_eq (b0 b1 : ByteArray) (x : MG) : wiR b0 b1 x = withinB (spF x) (spT x) b0 b1 := (within_eq _ _ _ _).symm
abbrev SM (wr : World) (b g : Nat) (b0 b1 : ByteArray) (x : MG) (W : World) : Prop := Below wr.heap.size wr W ∧ W.cell? ⟨g, 0, none⟩ = some (.string b0) ∧ W.cell? ⟨g, 1, none⟩ = some (.string b1) ∧ W.cell? ⟨b, 0, none⟩ = some (.int .u8 x.kd) ∧ W.cell? ⟨b, 1, none⟩ = some (.int .i64 x.sq) ∧ W.cell? ⟨b, 2, none⟩ = some (.string x.ky) ∧ W.cell? ⟨b, 3, none⟩ = some (.string x.to) ∧ W.cell? ⟨b, 4, none⟩ = some (.string x.vl) ∧ W.cell? ⟨b, 5, none⟩ = some (.int .u64 x.dl)
abbrev CF (g : Nat) : Value := .func (.func 44) #[] #[.pointer (some ⟨g, 0, none⟩)]
set_option maxRecDepth 10000 in
set_option maxHeartbeats 2000000 in
theorem ask_any (g : Nat) (b0 b1 : ByteArray) (x : MG) (hx : x.Ok) (w : World) (h0 : w.heap[g]? = some (rgc b0 b1)) :
    Calls Try.prog 44 #[MV x, .pointer (some ⟨g, 0, none⟩)] w fun r w' => r = .returned (.bool (!wiR b0 b1 x)) ∧ Below w.heap.size w w' := by
  have HOX := Lib.hid hx
  have AW := Lib.hid (fun W => within_any (spF x) (spT x) b0 b1 W)
  rw [wiR_eq]
  generalize withinB (spF x) (spT x) b0 b1 = q at *
  have H0 := Lib.hid (alb w (MO x))
  have z0 := Lib.hid (heap_alloc_new w (MO x))
  have zg := Lib.hid (keep_bel H0.out h0)
  clear h0 hx
  go_enter Try.func44, Try.ntmps44
  go_wp2_with fail
  refine at_code (fun WN hWN => ?_)
  have H1 := Lib.hid (show Below w.heap.size w WN by rw [hWN]; exact H0.out)
  have KS := Lib.hid (show ∀ W, Below WN.heap.size WN W → SM WN w.heap.size g b0 b1 x W from fun W h => by
    rw [hWN] at h
    obtain ⟨c0, c1, c2, c3, c4, c5⟩ := cells6 (keep_bel h z0.out)
    obtain ⟨d0, d1, _, _⟩ := has_two (keep_bel h zg.out)
    refine ⟨by rw [hWN]; exact h, d0, d1, c0, c1, c2, c3, c4, c5⟩)
  clear hWN H0 z0 zg
  go_region_held3 (fun W => Below WN.heap.size WN W ∧ W.cell? ⟨g, 0, none⟩ = some (.string b0) ∧ W.cell? ⟨g, 1, none⟩ = some (.string b1) ∧ W.cell? ⟨w.heap.size, 0, none⟩ = some (.int .u8 x.kd) ∧ W.cell? ⟨w.heap.size, 1, none⟩ = some (.int .i64 x.sq) ∧ W.cell? ⟨w.heap.size, 2, none⟩ = some (.string x.ky) ∧ W.cell? ⟨w.heap.size, 3, none⟩ = some (.string x.to) ∧ W.cell? ⟨w.heap.size, 4, none⟩ = some (.string x.vl) ∧ W.cell? ⟨w.heap.size, 5, none⟩ = some (.int .u64 x.dl)) (first | exact KS.out _ ((Below.refl _ _).drew) | exact KS.out _ (bel_trans (And.left ‹_›) ‹_›) | (trace_state; fail)) (first
    | (go_at_call 33; ((with_reducible refine (span_any x HOX.out _).mono ?_); rintro e w1 ⟨rfl, b1⟩))
    | (go_at_call 45; ((with_reducible refine (AW.out _).mono ?_); rintro e w1 ⟨rfl, b1⟩)))
  all_goals
    rename_i hH
    have HW := Lib.hid (bel_trans H1.out hH.1)
    clear hH
    go_wp2
    go_ret
    exact ⟨rfl, HW.out⟩
set_option maxRecDepth 10000 in
set_option maxHeartbeats 2000000 in
theorem index_any (g : Nat) (b0 b1 : ByteArray) (A : Option Addr) (n c : Nat) (xs : List MG) (w : World) (hl : xs.length = n) (hn : n ≤ 1000) (hA : EG.Rd w A xs) (ho : OkA xs) (h0 : w.heap[g]? = some (rgc b0 b1)) :
    Calls Try.prog 63 #[.slice A n c, CF g] w fun r w' => (∃ v : Int, r = .returned (.int .i64 v) ∧ (0 ≤ v ↔ xs.all (wiR b0 b1) = false) ∧ (v < 1001)) ∧ Below w.heap.size w w' := by
  have HL := Lib.hid hl
  have HA := Lib.hid hA
  have HO := Lib.hid ho
  have z0 := Lib.hid h0
  clear hl hA ho h0
  go_enter Try.func63, Try.ntmps63
  go_wp2
  go_loopw [8] (fun iv wr => ∃ (k : Nat), k ≤ n ∧ iv = .int .i64 k ∧ (xs.take k).all (wiR b0 b1) = true ∧ Below w.heap.size w wr) (fun i _ => n - (intOf i).toNat)
  case atStart => exact ⟨0, by omega, rfl, rfl, Below.refl _ _⟩
  case round =>
    obtain ⟨k, hk, rfl, ha, hb⟩ := hrel
    have HB := Lib.hid hb
    have HAL := Lib.hid ha
    clear hb ha
    by_cases h8 : k < n
    · have hk1 : (k : Int) < (n : Int) := by omega
      have hk0 : (0 : Int) ≤ (k : Int) := by omega
      obtain ⟨x, hx⟩ : ∃ x, xs[k]? = some x := ⟨_, List.getElem?_eq_getElem (by rw [HL.out]; omega)⟩
      obtain ⟨b, off, rfl, hlt, g0, g1, g2, g3, g4, g5⟩ := eg_at (HA.out.later HB.out) hx
      have HX := Lib.hid hx
      have AX := Lib.hid (ask_any g b0 b1 x (HO.out.get hx) wr (keep_bel HB.out z0.out))
      clear hx hlt
      cases hh : wiR b0 b1 x
      all_goals
        rw [hh] at AX
        have HH := Lib.hid hh
        clear hh
        go_wp2_with (first
          | (go_at_call 44; ((with_reducible refine AX.out.mono ?_); rintro e w1 ⟨rfl, b1⟩; have B1 := Lib.hid (bel_trans HB.out b1); clear b1))
          | fail)
        first
          | exact ⟨⟨k + 1, by omega, by simp, all_take HAL.out HX.out HH.out, B1.out⟩, by simp [intOf]; omega⟩
          | (go_ret; exact ⟨⟨k, rfl, ⟨fun _ => all_no HX.out HH.out, fun _ => by omega⟩, by omega⟩, B1.out⟩)
    · have hk1 : ¬ (k : Int) < (n : Int) := by omega
      have e : xs.take k = xs := List.take_of_length_le (by rw [HL.out]; omega)
      rw [e] at HAL
      go_wp2
      go_ret
      exact ⟨⟨-1, rfl, ⟨fun h => absurd h (by omega), fun h => by (obtain ⟨y, hy, hy2⟩ := h; have := List.all_eq_true.1 HAL.out y hy; rw [hy2] at this; cases this)⟩, by omega⟩, HB.out⟩
theorem contains_any (g : Nat) (b0 b1 : ByteArray) (A : Option Addr) (n c : Nat) (xs : List MG) (w : World) (hl : xs.length = n) (hn : n ≤ 1000) (hA : EG.Rd w A xs) (ho : OkA xs) (h0 : w.heap[g]? = some (rgc b0 b1)) :
    Calls Try.prog 43 #[.slice A n c, CF g] w fun r w' => r = .returned (.bool (!xs.all (wiR b0 b1))) ∧ Below w.heap.size w w' := by
  have P := Lib.hid (index_any g b0 b1 A n c xs w hl hn hA ho h0)
  clear hl hn hA ho h0
  go_enter Try.func43, Try.ntmps43
  go_wp2_with (first
    | (go_at_call 63; ((with_reducible refine P.out.mono ?_); rintro e w1 ⟨⟨v, rfl, hv, hv2⟩, b1⟩; have B1 := Lib.hid b1; have HV := Lib.hid hv; clear b1 hv P))
    | fail)
  go_ret
  refine ⟨?_, B1.out⟩
  cases hh : xs.all (wiR b0 b1)
  · have : (0 : Int) ≤ v := HV.out.2 hh
    simp [this]
  · have : ¬ (0 : Int) ≤ v := fun h => by have := HV.out.1 h; rw [hh] at this; cases this
    simp only [Bool.not_true]; simp; omega
theorem withinA_any (b0 b1 : ByteArray) (A : Option Addr) (n c : Nat) (xs : List MG) (w : World) (hl : xs.length = n) (hn : n ≤ 1000) (hA : EG.Rd w A xs) (ho : OkA xs) :
    Calls Try.prog 17 #[.slice A n c, .agg #[.string b0, .string b1]] w fun r w' => r = .returned (.bool (xs.all (wiR b0 b1))) ∧ Below w.heap.size w w' := by
  have P := Lib.hid (contains_any w.heap.size b0 b1 A n c xs (w.alloc (rgc b0 b1)) hl hn (hA.later (alb _ _)) ho (heap_alloc_new _ _))
  clear hl hn hA ho
  go_enter Try.func17, Try.ntmps17
  go_wp2_with (first
    | (go_at_call 43; ((with_reducible refine P.out.mono ?_); rintro e w1 ⟨rfl, b1⟩; have B1 := Lib.hid (bel_a b1); clear b1 P))
    | fail)
  go_ret
  exact ⟨by simp, B1.out⟩
end Go.Proofs.Ytdbnkeihnoglcaa
