/- Texts of the proof, one behind the other. -/
import Derived.Test.YtilnpeekajnlhaaGreatTh06
import Derived.Test.YtilnpeekajnlhaaGreatTh26
import Derived.Test.YtilnpeekajnlhaaGreatTh27
set_option linter.unusedVariables false
set_option linter.unusedSimpArgs false
namespace Go.Proofs.YtilnpeekajnlhaaGreat
open Go.RowKit Go.Maps
set_option maxRecDepth 10000 in
set_option maxHeartbeats 4000000 in
theorem take_row (a b : ByteArray) (A : Option Addr) (n cap : Nat) (xs : List MG) (w : World) (hl : xs.length = n) (hn : n ≤ 1000) (hA : EG.Rd w A xs) (ho : OkA xs) :
    Calls Tryz.prog 23 #[.slice A n cap, .agg #[.string a, .string b]] w fun r w' => (∃ A' c' B' d', r = .returned (TV A' (forL a b xs).length c' B' (resL a b xs).length d') ∧ EG.Row w' w.heap.size A' (forL a b xs) c' ∧ EG.Row w' w.heap.size B' (resL a b xs) d') ∧ Below w.heap.size w w' := by
  have HL := Lib.hid hl
  have HA := Lib.hid hA
  have HO := Lib.hid ho
  have H0 := Lib.hid (alb w (rgc a b))
  have z0 := Lib.hid (heap_alloc_new w (rgc a b))
  clear hl hA ho
  go_enter Tryz.func23, Tryz.ntmps23
  go_wp2
  go_loopw [6, 11] (fun sv iv wr => ∃ (k : Nat) (A' : Option Addr) (c' m : Nat), k ≤ n ∧ iv = .int .i64 k ∧ sv = .slice A' m c' ∧ (resL a b (xs.take k)).length = m ∧ EG.Row wr (w.alloc (rgc a b)).heap.size A' (resL a b (xs.take k)) c' ∧ Below (w.alloc (rgc a b)).heap.size (w.alloc (rgc a b)) wr) (fun _ i _ => n - (intOf i).toNat)
  case atStart => exact ⟨0, none, 0, 0, by omega, rfl, rfl, rfl, .inl ⟨rfl, rfl⟩, Below.refl _ _⟩
  case round =>
    obtain ⟨k, A', c', m, hk, rfl, rfl, hm, hr, hb⟩ := hrel
    have HM := Lib.hid hm
    have HR := Lib.hid hr
    have HB := Lib.hid (bel_trans H0.out hb)
    have HP := Lib.hid hb
    have ZR := Lib.hid (keep_bel hb z0.out)
    clear hm hr hb
    by_cases h8 : k < n
    · have hk1 : (k : Int) < (n : Int) := by omega
      have hk0 : (0 : Int) ≤ (k : Int) := by omega
      obtain ⟨x, hx⟩ : ∃ x, xs[k]? = some x := ⟨_, List.getElem?_eq_getElem (by rw [HL.out]; omega)⟩
      obtain ⟨b', off, rfl, hlt, g0, g1, g2, g3, g4, g5⟩ := eg_at (HA.out.later HB.out) hx
      have HNX := Lib.hid (resL_next (a := a) (b := b) hx)
      have AR := Lib.hid (rest_any x (HO.out.get hx) a b)
      have HMM : Hid (m ≤ 2000) := Lib.hid (by have := resL_len a b (xs.take k); have := take_le xs k; rw [HM.out] at *; omega)
      have HLL := Lib.hid (rest_len x a b)
      obtain ⟨d0, d1, -, -⟩ := has_two (keep_bel (alb wr (MO x)) ZR.out)
      clear hx hlt
      obtain ⟨L, hL⟩ : ∃ L, L = restM x a b := ⟨_, rfl⟩
      rw [← hL] at HNX AR HLL
      clear hL
      obtain ⟨q, hq⟩ : ∃ q, L.length = q := ⟨_, rfl⟩
      have HQ := Lib.hid hq
      rw [hq] at HLL AR
      clear hq
      go_wp2_with (first
        | (go_at_call 53; ((with_reducible refine (AR.out _).mono ?_); rintro e w1 ⟨⟨AL, cL, rfl, rl⟩, b1⟩; have RL := Lib.hid rl; have B1 := Lib.hid (bel_a b1); have RW := Lib.hid (HR.out.later B1.out); have BQ := Lib.hid (bel_trans HP.out B1.out); clear b1 rl))
        | (at_builtin; refine RE.wpList_put EG _ rfl (.tmp 15) (.tmp 18) rfl (base := (w.alloc (rgc a b)).heap.size) A' m c' _ AL q cL L rfl rfl RW.out HM.out (by have := HMM.out; omega) BQ.out.size HQ.out (by have := HLL.out; omega) RL.out ?_; intro A2 c2 w2 r1 r2 r3; have R1 := Lib.hid r1; have R2 := Lib.hid r2; clear r1 r2 r3)
        | fail)
      exact ⟨⟨k + 1, A2, c2, m + q, by omega, by simp, by simp, by rw [HNX.out, List.length_append, HM.out, HQ.out], by rw [HNX.out]; exact R1.out, BQ.out.trans (RE.Row.below R2.out RW.out (Nat.le_refl _) BQ.out.size)⟩, by simp [intOf]; omega⟩
    · have hk1 : ¬ (k : Int) < (n : Int) := by omega
      have e : xs.take k = xs := List.take_of_length_le (by rw [HL.out]; omega)
      rw [e] at HM HR
      have hm := HM.out
      subst hm
      have AF := Lib.hid (for_any a b A n cap xs wr HL.out hn (HA.out.later HB.out) HO.out)
      obtain ⟨d0, d1, -, -⟩ := has_two ZR.out
      go_wp2_with (first
        | (go_at_call 45; ((with_reducible refine AF.out.mono ?_); rintro e w1 ⟨⟨AL, cL, rfl, rl⟩, b1⟩; have RL := Lib.hid (rl.base HB.out.size); have RR := Lib.hid ((HR.out.later b1).base (show w.heap.size ≤ (w.alloc (rgc a b)).heap.size by simp)); have B1 := Lib.hid (bel_trans HB.out b1); clear b1 rl))
        | fail)
      refine bodyPost_ret (v := TV AL (forL a b xs).length cL A' (resL a b xs).length c') (by simp [results, Tryz.results23, go_sem]) rfl ⟨⟨_, _, _, _, rfl, RL.out, RR.out⟩, B1.out⟩
end Go.Proofs.YtilnpeekajnlhaaGreat
namespace Go.Proofs.YtilnpeekajnlhaaGreat
open Go.RowKit Go.Maps
end Go.Proofs.YtilnpeekajnlhaaGreat
