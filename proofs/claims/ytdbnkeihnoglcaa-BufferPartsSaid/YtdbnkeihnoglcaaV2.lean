/- The document's On and Value. -/
import Derived.Test.YtdbnkeihnoglcaaU1
namespace Go.Proofs.Ytdbnkeihnoglcaa
set_option linter.unusedSimpArgs false
open Go.RowKit Go.Maps
set_option linter.unusedVariables false
def DlOk (m : MG) : Prop := 0 ≤ m.dl ∧ m.dl < 18446744073709551616
abbrev QV (q : ByteArray × Bool) : Value := .tuple #[.string q.1, .bool q.2]
def NQ (q : ByteArray × Bool) : Prop := q.2 = false → q.1 = emptyS
theorem onQ_nq {m : MG} {s : ByteArray} {q : ByteArray × Bool} (h : NQ q) : NQ (onQ m s q) := by
  unfold onQ
  repeat' split
  all_goals first | exact h | (intro _; rfl) | (intro e; cases e; done)
theorem onQ_add {m : MG} {s : ByteArray} (h : touB m s = true) (h3 : m.kd = 3) (v : ByteArray) (is : Bool) : onQ m s (v, is) = (addF v is m.dl, true) := by
  unfold onQ; rw [h, h3]; rfl
set_option maxHeartbeats 2000000 in
theorem on_any (m : MG) (hd : DlOk m) (s v : ByteArray) (is : Bool) (hn : is = false → v = emptyS) (w : World) :
    Calls Try.prog 54 #[MV m, .string s, .string v, .bool is] w fun r w' => r = .returned (QV (onQ m s (v, is))) ∧ Below w.heap.size w w' := by
  obtain ⟨q, hq⟩ : ∃ q, onQ m s (v, is) = q := ⟨_, rfl⟩
  rw [hq]
  have HQ := Lib.hid hq
  clear hq
  obtain ⟨t, ht⟩ : ∃ t, touB m s = t := ⟨_, rfl⟩
  have AT := Lib.hid (rtouches_any m s)
  rw [ht] at AT
  have AD := Lib.hid (fun W => radd8_any v is m.dl W hd.1 hd.2)
  have HT := Lib.hid ht
  clear ht
  have B0 := Lib.hid (alb w (MO m))
  have Z0 := Lib.hid (heap_alloc_new w (MO m))
  obtain ⟨c0, c1, c2, c3, c4, c5⟩ := cells6 Z0.out
  clear hd
  go_enter Try.func54, Try.ntmps54
  cases is
  all_goals
    try (have hv := hn rfl; subst hv)
    clear hn
    cases t
    · have HE := Lib.hid (show q = _ by rw [← HQ.out, onQ_no HT.out])
      go_wp2_with (first
        | (go_at_call 32; ((with_reducible refine (AT.out _).mono ?_); rintro e w1 ⟨rfl, b1⟩; have B1 := Lib.hid (bel_trans B0.out b1); clear b1))
        | fail)
      refine bodyPost_ret (v := QV q) (by rw [HE.out]; simp [results, Try.results54, go_sem]) rfl ⟨rfl, B1.out⟩
    · by_cases k1 : m.kd = 1
      · have kb : (m.kd == 1) = true := by simpa using k1
        have HE := Lib.hid (show q = (m.vl, true) by rw [← HQ.out]; unfold onQ; rw [HT.out, if_pos rfl, if_pos k1])
        clear k1
        go_wp2_with (first
          | (go_at_call 32; ((with_reducible refine (AT.out _).mono ?_); rintro e w1 ⟨rfl, b1⟩; have B1 := Lib.hid (bel_trans B0.out b1); clear c0 c1 c2 c3 c4 c5; obtain ⟨c0, c1, c2, c3, c4, c5⟩ := cells6 (keep_bel b1 Z0.out); clear b1))
          | fail)
        refine bodyPost_ret (v := QV q) (by rw [HE.out]; simp [results, Try.results54, go_sem]) rfl ⟨rfl, B1.out⟩
      · have kb : (m.kd == 1) = false := by simpa using k1
        by_cases k3 : m.kd = 3
        · have kc : (m.kd == 3) = true := by simpa using k3
          have HE := Lib.hid (HQ.out.symm.trans (onQ_add HT.out k3 _ _))
          clear k1 k3
          go_wp2_with (first
            | (go_at_call 32; ((with_reducible refine (AT.out _).mono ?_); rintro e w1 ⟨rfl, b1⟩; have B1 := Lib.hid (bel_trans B0.out b1); clear c0 c1 c2 c3 c4 c5; obtain ⟨c0, c1, c2, c3, c4, c5⟩ := cells6 (keep_bel b1 Z0.out); clear b1))
            | (go_at_call 68; ((with_reducible refine (AD.out _).mono ?_); rintro e w2 ⟨rfl, b2⟩; have B2 := Lib.hid (bel_trans B1.out b2); clear b2))
            | fail)
          refine bodyPost_ret (v := QV q) (by rw [HE.out]; simp [results, Try.results54, go_sem]) rfl ⟨rfl, B2.out⟩
        · have kc : (m.kd == 3) = false := by simpa using k3
          have HE := Lib.hid (show q = (emptyS, false) by rw [← HQ.out]; unfold onQ; rw [HT.out, if_pos rfl, if_neg k1, if_neg k3])
          clear k1 k3
          go_wp2_with (first
            | (go_at_call 32; ((with_reducible refine (AT.out _).mono ?_); rintro e w1 ⟨rfl, b1⟩; have B1 := Lib.hid (bel_trans B0.out b1); clear c0 c1 c2 c3 c4 c5; obtain ⟨c0, c1, c2, c3, c4, c5⟩ := cells6 (keep_bel b1 Z0.out); clear b1))
            | fail)
          refine bodyPost_ret (v := QV q) (by rw [HE.out]; simp [results, Try.results54, go_sem]) rfl ⟨rfl, B1.out⟩
def startQ (v : ByteArray) (is : Bool) : ByteArray × Bool := (if is then v else emptyS, is)
theorem valL_nq {xs : List MG} {s : ByteArray} {q : ByteArray × Bool} (h : NQ q) : NQ (valL xs s q) := by
  induction xs generalizing q with
  | nil => exact h
  | cons x xs ih => exact ih (onQ_nq h)
theorem start_nq (v : ByteArray) (is : Bool) : NQ (startQ v is) := by
  unfold NQ startQ; cases is
  · intro _; rfl
  · intro h; cases h
set_option maxRecDepth 10000 in
set_option maxHeartbeats 4000000 in
theorem value_any (A : Option Addr) (n cap : Nat) (xs : List MG) (s v : ByteArray) (is : Bool) (w : World) (hl : xs.length = n) (hn : n ≤ 1000) (hA : EG.Rd w A xs) (hd : ∀ x ∈ xs, DlOk x) :
    Calls Try.prog 27 #[.slice A n cap, .string s, .string v, .bool is] w fun r w' => r = .returned (QV (valL xs s (startQ v is))) ∧ Below w.heap.size w w' := by
  have HL := Lib.hid hl
  have HA := Lib.hid hA
  have HD := Lib.hid hd
  clear hl hA hd
  obtain ⟨q, hq⟩ : ∃ q, valL xs s (startQ v is) = q := ⟨_, rfl⟩
  rw [hq]
  have HQ := Lib.hid hq
  clear hq
  obtain ⟨p, hp⟩ : ∃ p, startQ v is = p := ⟨_, rfl⟩
  have HP := Lib.hid hp
  clear hp
  go_enter Try.func27, Try.ntmps27
  cases is
  all_goals
    have HPP := Lib.hid (show p = _ from HP.out.symm)
    go_wp2
    go_loopw [2, 3, 10] (fun sv bv iv wr => ∃ (k : Nat), k ≤ n ∧ iv = .int .i64 k ∧ sv = .string (valL (xs.take k) s p).1 ∧ bv = .bool (valL (xs.take k) s p).2 ∧ Below w.heap.size w wr) (fun _ _ i _ => n - (intOf i).toNat)
    case atStart => exact ⟨0, by omega, rfl, by rw [HPP.out]; rfl, by rw [HPP.out]; rfl, Below.refl _ _⟩
    case round =>
      obtain ⟨k, hk, rfl, rfl, rfl, hb⟩ := hrel
      have HB := Lib.hid hb
      clear hb
      have HNQ := Lib.hid (valL_nq (xs := xs.take k) (s := s) (q := p) (by rw [HPP.out]; exact start_nq _ _))
      by_cases h8 : k < n
      · have hk1 : (k : Int) < (n : Int) := by omega
        have hk0 : (0 : Int) ≤ (k : Int) := by omega
        obtain ⟨x, hx⟩ : ∃ x, xs[k]? = some x := ⟨_, List.getElem?_eq_getElem (by rw [HL.out]; omega)⟩
        obtain ⟨b, off, rfl, hlt, g0, g1, g2, g3, g4, g5⟩ := eg_at (HA.out.later HB.out) hx
        have HNX := Lib.hid (valL_next hx s p)
        have AO := Lib.hid (on_any x (HD.out x (List.mem_of_getElem? hx)) s (valL (xs.take k) s p).1 (valL (xs.take k) s p).2 HNQ.out wr)
        clear hx hlt
        obtain ⟨⟨y, z⟩, hy⟩ : ∃ y, valL (xs.take k) s p = y := ⟨_, rfl⟩
        rw [hy] at HNX AO ⊢
        clear hy HNQ
        go_wp2_with (first
          | (go_at_call 54; ((with_reducible refine AO.out.mono ?_); rintro e w1 ⟨rfl, b1⟩; have B1 := Lib.hid (bel_trans HB.out b1); clear b1))
          | fail)
        exact ⟨⟨k + 1, by omega, by simp, by rw [HNX.out], by rw [HNX.out], B1.out⟩, by simp [intOf]; omega⟩
      · have hk1 : ¬ (k : Int) < (n : Int) := by omega
        have e : xs.take k = xs := List.take_of_length_le (by rw [HL.out]; omega)
        rw [e]
        have HE : Hid (valL xs s p = q) := Lib.hid (by rw [← HQ.out, ← HP.out])
        obtain ⟨⟨y, z⟩, hy⟩ : ∃ y, valL xs s p = y := ⟨_, rfl⟩
        rw [hy] at HE ⊢
        clear hy HNQ
        have he := HE.out
        subst he
        go_wp2
        refine bodyPost_ret (v := QV (y, z)) (by simp [results, Try.results27, go_sem]) rfl ⟨rfl, HB.out⟩
end Go.Proofs.Ytdbnkeihnoglcaa
