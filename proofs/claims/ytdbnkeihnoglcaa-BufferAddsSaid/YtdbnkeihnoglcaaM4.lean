/- At, Within, on both sides; Same. -/
import Derived.Test.YtdbnkeihnoglcaaM3
namespace Go.Proofs.Ytdbnkeihnoglcaa
set_option linter.unusedSimpArgs false
open Go.RowKit Go.Maps
set_option linter.unusedVariables false
def atL (s : ByteArray) (xs : List MG) : List MG := xs.filter fun x => touB x s
theorem atL_next {s : ByteArray} {xs : List MG} {k : Nat} {x : MG} (h : xs[k]? = some x) : atL s (xs.take (k + 1)) = atL s (xs.take k) ++ (if touB x s then [x] else []) := by
  rw [List.take_add_one, h]
  by_cases e : touB x s = true <;> simp [atL, e]
theorem atL_take (s : ByteArray) (xs : List MG) (k : Nat) : (atL s (xs.take k)).length ≤ k := Nat.le_trans (List.length_filter_le _ _) (by simp [List.length_take]; omega)
set_option maxRecDepth 10000 in
set_option maxHeartbeats 2000000 in
theorem at_any (s : ByteArray) (A : Option Addr) (n cap : Nat) (xs : List MG) (w : World) (hl : xs.length = n) (hn : n ≤ 1000) (hA : EG.Rd w A xs) (ho : OkA xs) :
    Calls Try.prog 15 #[.slice A n cap, .string s] w fun r w' => (∃ A' c', r = .returned (.slice A' (atL s xs).length c') ∧ EG.Row w' w.heap.size A' (atL s xs) c') ∧ Below w.heap.size w w' := by
  have HL := Lib.hid hl
  have HA := Lib.hid hA
  have HO := Lib.hid ho
  clear hl hA ho
  go_enter Try.func15, Try.ntmps15
  go_wp2
  go_loopw [5, 10] (fun sv iv wr => ∃ (k : Nat) (A' : Option Addr) (c' m : Nat), k ≤ n ∧ iv = .int .i64 k ∧ sv = .slice A' m c' ∧ (atL s (xs.take k)).length = m ∧ EG.Row wr w.heap.size A' (atL s (xs.take k)) c' ∧ Below w.heap.size w wr) (fun _ i _ => n - (intOf i).toNat)
  case atStart => exact ⟨0, none, 0, 0, by omega, rfl, rfl, rfl, .inl ⟨rfl, rfl⟩, Below.refl _ _⟩
  case round =>
    obtain ⟨k, A', c', m, hk, rfl, rfl, hm, hr, hb⟩ := hrel
    have HM := Lib.hid hm
    have HR := Lib.hid hr
    have HB := Lib.hid hb
    clear hm hr hb
    by_cases h8 : k < n
    · have hk1 : (k : Int) < (n : Int) := by omega
      have hk0 : (0 : Int) ≤ (k : Int) := by omega
      obtain ⟨x, hx⟩ : ∃ x, xs[k]? = some x := ⟨_, List.getElem?_eq_getElem (by rw [HL.out]; omega)⟩
      obtain ⟨b, off, rfl, hlt, g0, g1, g2, g3, g4, g5⟩ := eg_at (HA.out.later HB.out) hx
      have hnx := atL_next (s := s) hx
      have AX := Lib.hid (touches_any x (HO.out.get hx) s (wr.alloc (MO x)))
      have HNX := Lib.hid hnx
      clear hx hnx hlt
      cases hh : touB x s with
      | false =>
        rw [hh] at AX
        rw [hh, if_neg (by simp), List.append_nil] at HNX
        clear hh
        go_wp2_with (first
          | (go_at_call 42; ((with_reducible refine AX.out.mono ?_); rintro e w1 ⟨rfl, b1⟩; have B1 := Lib.hid (bel_a b1); clear b1))
          | fail)
        exact ⟨⟨k + 1, A', c', m, by omega, by simp, rfl, by rw [HNX.out]; exact HM.out, by rw [HNX.out]; exact HR.out.later B1.out, bel_trans HB.out B1.out⟩, by simp [intOf]; omega⟩
      | true =>
        rw [hh] at AX
        rw [hh, if_pos rfl] at HNX
        have HMM : Hid (m ≤ 1000) := Lib.hid (by have := atL_take s xs k; rw [HM.out] at this; omega)
        clear hh
        go_wp2_with (first
          | (go_at_call 42; ((with_reducible refine AX.out.mono ?_); rintro e w1 ⟨rfl, b1⟩; have B1 := Lib.hid (bel_a b1); obtain ⟨y0, y1, y2, y3, y4, y5⟩ := cells6 (keep_bel b1 (heap_alloc_new wr (MO x))); have RW := Lib.hid ((HR.out.later B1.out).later (alb w1 (MO x))); have RL := Lib.hid (RE.Rd.lit (E := EG) w1 31 [x] #[.int .u8 x.kd, .int .i64 x.sq, .string x.ky, .string x.to, .string x.vl, .int .u64 x.dl] rfl); have BS := Lib.hid (bel_alloc (bel_trans HB.out B1.out) (MO x)); clear b1))
          | (at_builtin; refine RE.wpList_put EG _ rfl (.tmp 17) (.tmp 19) rfl (base := w.heap.size) A' m c' _ _ 1 1 [x] rfl rfl RW.out HM.out (by have := HMM.out; omega) BS.out.size rfl (by omega) RL.out ?_; intro A2 c2 w2 r1 r2 r3; have R1 := Lib.hid r1; have R2 := Lib.hid r2; clear r1 r2 r3)
          | fail)
        exact ⟨⟨k + 1, A2, c2, m + 1, by omega, by simp, rfl, by rw [HNX.out, List.length_append]; exact congrArg (· + 1) HM.out, by rw [HNX.out]; exact R1.out, BS.out.trans (RE.Row.below R2.out RW.out (Nat.le_refl _) BS.out.size)⟩, by simp [intOf]; omega⟩
    · have hk1 : ¬ (k : Int) < (n : Int) := by omega
      have e : xs.take k = xs := List.take_of_length_le (by rw [HL.out]; omega)
      rw [e] at HM HR
      have hm := HM.out
      subst hm
      go_wp2
      go_ret
      exact ⟨⟨_, _, rfl, HR.out⟩, HB.out⟩
set_option maxRecDepth 10000 in
set_option maxHeartbeats 2000000 in
theorem rat_any (s : ByteArray) (A : Option Addr) (n cap : Nat) (xs : List MG) (w : World) (hl : xs.length = n) (hn : n ≤ 1000) (hA : EG.Rd w A xs) :
    Calls Try.prog 16 #[.slice A n cap, .string s] w fun r w' => (∃ A' c', r = .returned (.slice A' (atL s xs).length c') ∧ EG.Row w' w.heap.size A' (atL s xs) c') ∧ Below w.heap.size w w' := by
  have HL := Lib.hid hl
  have HA := Lib.hid hA
  clear hl hA
  go_enter Try.func16, Try.ntmps16
  go_wp2
  go_loopw [5, 6] (fun sv iv wr => ∃ (k : Nat) (A' : Option Addr) (c' m : Nat), k ≤ n ∧ iv = .int .i64 k ∧ sv = .slice A' m c' ∧ (atL s (xs.take k)).length = m ∧ EG.Row wr w.heap.size A' (atL s (xs.take k)) c' ∧ Below w.heap.size w wr) (fun _ i _ => n - (intOf i).toNat)
  case atStart => exact ⟨0, _, 0, 0, by omega, rfl, rfl, rfl, .inl ⟨rfl, rfl⟩, by first | exact Below.refl _ _ | exact alb _ _⟩
  case round =>
    obtain ⟨k, A', c', m, hk, rfl, rfl, hm, hr, hb⟩ := hrel
    have HM := Lib.hid hm
    have HR := Lib.hid hr
    have HB := Lib.hid hb
    clear hm hr hb
    by_cases h8 : k < n
    · have hk1 : (k : Int) < (n : Int) := by omega
      have hk0 : (0 : Int) ≤ (k : Int) := by omega
      obtain ⟨x, hx⟩ : ∃ x, xs[k]? = some x := ⟨_, List.getElem?_eq_getElem (by rw [HL.out]; omega)⟩
      obtain ⟨b, off, rfl, hlt, g0, g1, g2, g3, g4, g5⟩ := eg_at (HA.out.later HB.out) hx
      have hnx := atL_next (s := s) hx
      have AX := Lib.hid (rtouches_any x s wr)
      have HNX := Lib.hid hnx
      have HLT := Lib.hid hlt
      clear hx hnx hlt
      cases hh : touB x s with
      | false =>
        rw [hh] at AX
        rw [hh, if_neg (by simp), List.append_nil] at HNX
        clear hh
        go_wp2_with (first
          | (go_at_call 32; ((with_reducible refine AX.out.mono ?_); rintro e w1 ⟨rfl, b1⟩; have B1 := Lib.hid b1; clear b1))
          | fail)
        exact ⟨⟨k + 1, A', c', m, by omega, by simp, rfl, by rw [HNX.out]; exact HM.out, by rw [HNX.out]; exact HR.out.later B1.out, bel_trans HB.out B1.out⟩, by simp [intOf]; omega⟩
      | true =>
        rw [hh] at AX
        rw [hh, if_pos rfl] at HNX
        have HMM : Hid (m ≤ 1000) := Lib.hid (by have := atL_take s xs k; rw [HM.out] at this; omega)
        clear hh
        go_wp2_with (first
          | (go_at_call 32; ((with_reducible refine AX.out.mono ?_); rintro e w1 ⟨rfl, b1⟩; have B1 := Lib.hid b1; have y0 := bel_later b1 g0; have y1 := bel_later b1 g1; have y2 := bel_later b1 g2; have y3 := bel_later b1 g3; have y4 := bel_later b1 g4; have y5 := bel_later b1 g5; have RW := Lib.hid ((HR.out.later B1.out).later (alb w1 (MO x))); have RL := Lib.hid (RE.Rd.lit (E := EG) w1 31 [x] #[.int .u8 x.kd, .int .i64 x.sq, .string x.ky, .string x.to, .string x.vl, .int .u64 x.dl] rfl); have BS := Lib.hid (bel_alloc (bel_trans HB.out B1.out) (MO x)); clear b1))
          | (at_builtin; refine RE.wpList_put EG _ rfl (.tmp 20) (.tmp 25) rfl (base := w.heap.size) A' m c' _ _ 1 1 [x] rfl rfl RW.out HM.out (by have := HMM.out; omega) BS.out.size rfl (by omega) RL.out ?_; intro A2 c2 w2 r1 r2 r3; have R1 := Lib.hid r1; have R2 := Lib.hid r2; clear r1 r2 r3)
          | fail)
        exact ⟨⟨k + 1, A2, c2, m + 1, by omega, by simp, rfl, by rw [HNX.out, List.length_append]; exact congrArg (· + 1) HM.out, by rw [HNX.out]; exact R1.out, BS.out.trans (RE.Row.below R2.out RW.out (Nat.le_refl _) BS.out.size)⟩, by simp [intOf]; omega⟩
    · have hk1 : ¬ (k : Int) < (n : Int) := by omega
      have e : xs.take k = xs := List.take_of_length_le (by rw [HL.out]; omega)
      rw [e] at HM HR
      have hm := HM.out
      subst hm
      go_wp2
      go_ret
      exact ⟨⟨_, _, rfl, HR.out⟩, HB.out⟩
end Go.Proofs.Ytdbnkeihnoglcaa
