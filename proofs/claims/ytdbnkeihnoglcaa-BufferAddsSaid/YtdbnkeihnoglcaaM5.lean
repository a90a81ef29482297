/- Same of the same; Within on both sides. -/
import Derived.Test.YtdbnkeihnoglcaaM4
import Derived.Deep.RegionHeld3
namespace Go.Proofs.Ytdbnkeihnoglcaa
set_option linter.unusedSimpArgs false
open Go.RowKit Go.Maps
set_option linter.unusedVariables false
set_option maxRecDepth 10000 in
set_option maxHeartbeats 2000000 in
theorem same_any (A B : Option Addr) (n c d : Nat) (xs : List MG) (w : World) (hl : xs.length = n) (hn : n ≤ 1000) (hA : EG.Rd w A xs) (hB : EG.Rd w B xs) :
    Calls Try.prog 14 #[.slice A n c, .slice B n d] w fun r w' => r = .returned (.bool true) ∧ Below w.heap.size w w' := by
  have HL := Lib.hid hl
  have HA := Lib.hid hA
  have HB2 := Lib.hid hB
  clear hl hA hB
  go_enter Try.func14, Try.ntmps14
  go_wp2
  go_loopw [5] (fun iv wr => ∃ (k : Nat), k ≤ n ∧ iv = .int .i64 k ∧ Below w.heap.size w wr) (fun i _ => n - (intOf i).toNat)
  case atStart => exact ⟨0, by omega, rfl, Below.refl _ _⟩
  case round =>
    obtain ⟨k, hk, rfl, hb⟩ := hrel
    have HB := Lib.hid hb
    clear hb
    by_cases h8 : k < n
    · have hk1 : (k : Int) < (n : Int) := by omega
      have hk0 : (0 : Int) ≤ (k : Int) := by omega
      obtain ⟨x, hx⟩ : ∃ x, xs[k]? = some x := ⟨_, List.getElem?_eq_getElem (by rw [HL.out]; omega)⟩
      obtain ⟨b, off, rfl, hlt, g0, g1, g2, g3, g4, g5⟩ := eg_at (HA.out.later HB.out) hx
      obtain ⟨b', off', rfl, hlt', e0, e1, e2, e3, e4, e5⟩ := eg_at (HB2.out.later HB.out) hx
      clear hx hlt hlt'
      go_wp2_with fail
      go_quiet (fail)
      go_wp2
      exact ⟨⟨k + 1, by omega, by simp, bel_drewN HB.out _⟩, by simp [intOf]; omega⟩
    · have hk1 : ¬ (k : Int) < (n : Int) := by omega
      go_wp2
      go_ret
      exact ⟨rfl, HB.out⟩
def wiR (b0 b1 : ByteArray) (x : MG) : Bool := sb (spF x) (spT x) && (sb b0 b1 && (!lt (spF x) b0 && !bef b1 (spT x)))
theorem all_take {p : MG → Bool} {xs : List MG} {k : Nat} (h : (xs.take k).all p = true) {x : MG} (hx : xs[k]? = some x) (hp : p x = true) : (xs.take (k + 1)).all p = true := by
  rw [List.take_add_one, hx]; simp [h, hp]
theorem all_no {p : MG → Bool} {xs : List MG} {k : Nat} {x : MG} (hx : xs[k]? = some x) (hp : p x = false) : xs.all p = false := by
  rw [List.all_eq_false]; exact ⟨x, List.mem_of_getElem? hx, by simp [hp]⟩
abbrev SW (wr : World) (g b o : Nat) (b0 b1 : ByteArray) (x : MG) (W : World) : Prop := Below wr.heap.size wr W ∧ W.cell? ⟨g, 0, none⟩ = some (.string b0) ∧ W.cell? ⟨g, 1, none⟩ = some (.string b1) ∧ W.cell? ⟨b, o, none⟩ = some (.int .u8 x.kd) ∧ W.cell? ⟨b, o + 1, none⟩ = some (.int .i64 x.sq) ∧ W.cell? ⟨b, o + 2, none⟩ = some (.string x.ky) ∧ W.cell? ⟨b, o + 3, none⟩ = some (.string x.to) ∧ W.cell? ⟨b, o + 4, none⟩ = some (.string x.vl) ∧ W.cell? ⟨b, o + 5, none⟩ = some (.int .u64 x.dl)
set_option maxRecDepth 10000 in
set_option maxHeartbeats 2000000 in
theorem rwithinA_any (b0 b1 : ByteArray) (A : Option Addr) (n c : Nat) (xs : List MG) (w : World) (hl : xs.length = n) (hn : n ≤ 1000) (hA : EG.Rd w A xs) (ho : OkA xs) :
    Calls Try.prog 18 #[.slice A n c, .agg #[.string b0, .string b1]] w fun r w' => r = .returned (.bool (xs.all (wiR b0 b1))) ∧ Below w.heap.size w w' := by
  have HL := Lib.hid hl
  have HA := Lib.hid hA
  have HO := Lib.hid ho
  have H0 := Lib.hid (alb w (rgc b0 b1))
  have z0 := Lib.hid (heap_alloc_new w (rgc b0 b1))
  clear hl hA ho
  go_enter Try.func18, Try.ntmps18
  go_wp2
  go_loopw [5] (fun iv wr => ∃ (k : Nat), k ≤ n ∧ iv = .int .i64 k ∧ (xs.take k).all (wiR b0 b1) = true ∧ Below (w.alloc (rgc b0 b1)).heap.size (w.alloc (rgc b0 b1)) wr) (fun i _ => n - (intOf i).toNat)
  case atStart => exact ⟨0, by omega, rfl, rfl, Below.refl _ _⟩
  case round =>
    obtain ⟨k, hk, rfl, ha, hb⟩ := hrel
    have HB := Lib.hid (bel_trans H0.out hb)
    have HP := Lib.hid hb
    have HAL := Lib.hid ha
    obtain ⟨d0, d1, -, -⟩ := has_two (keep_bel hb z0.out)
    clear hb ha
    by_cases h8 : k < n
    · have hk1 : (k : Int) < (n : Int) := by omega
      have hk0 : (0 : Int) ≤ (k : Int) := by omega
      obtain ⟨x, hx⟩ : ∃ x, xs[k]? = some x := ⟨_, List.getElem?_eq_getElem (by rw [HL.out]; omega)⟩
      obtain ⟨b, off, rfl, hlt, g0, g1, g2, g3, g4, g5⟩ := eg_at (HA.out.later HB.out) hx
      have HX := Lib.hid hx
      have HOX := Lib.hid (HO.out.get hx)
      clear hx hlt
      have AW := Lib.hid (fun W => rwithin_any (spF x) (spT x) b0 b1 W)
      cases hh : wiR b0 b1 x
      all_goals
        have hw := hh
        unfold wiR at hw
        rw [hw] at AW
        clear hw
        go_wp2_with fail
        have KS := Lib.hid (show ∀ W, Below wr.heap.size wr W → SW wr w.heap.size b (off + k * 6) b0 b1 x W from fun W h => ⟨h, bel_later h d0, bel_later h d1, bel_later h g0, bel_later h g1, bel_later h g2, bel_later h g3, bel_later h g4, bel_later h g5⟩)
        clear g0 g1 g2 g3 g4 g5 d0 d1
        go_region_held3 (fun W => Below wr.heap.size wr W ∧ W.cell? ⟨w.heap.size, 0, none⟩ = some (.string b0) ∧ W.cell? ⟨w.heap.size, 1, none⟩ = some (.string b1) ∧ W.cell? ⟨b, off + k * 6, none⟩ = some (.int .u8 x.kd) ∧ W.cell? ⟨b, off + k * 6 + 1, none⟩ = some (.int .i64 x.sq) ∧ W.cell? ⟨b, off + k * 6 + 2, none⟩ = some (.string x.ky) ∧ W.cell? ⟨b, off + k * 6 + 3, none⟩ = some (.string x.to) ∧ W.cell? ⟨b, off + k * 6 + 4, none⟩ = some (.string x.vl) ∧ W.cell? ⟨b, off + k * 6 + 5, none⟩ = some (.int .u64 x.dl)) (first | exact KS.out _ ((Below.refl _ _).drew) | exact KS.out _ (bel_trans (And.left ‹_›) ‹_›) | (trace_state; fail)) (first
          | (go_at_call 31; ((with_reducible refine (rspan_any x HOX.out _).mono ?_); rintro e w1 ⟨rfl, b1⟩))
          | (go_at_call 46; ((with_reducible refine (AW.out _).mono ?_); rintro e w1 ⟨rfl, b1⟩)))
        all_goals
          rename_i hH
          have HW := Lib.hid (bel_trans HB.out hH.1)
          have HPW := Lib.hid (bel_trans HP.out hH.1)
          have HH := Lib.hid hh
          clear hH hh
          go_wp2
          first
            | exact ⟨⟨k + 1, by omega, by simp, all_take HAL.out HX.out HH.out, HPW.out⟩, by simp [intOf]; omega⟩
            | (go_ret; exact ⟨by rw [all_no HX.out HH.out]; rfl, HW.out⟩)
    · have hk1 : ¬ (k : Int) < (n : Int) := by omega
      have e : xs.take k = xs := List.take_of_length_le (by rw [HL.out]; omega)
      rw [e] at HAL
      have hal := HAL.out
      go_wp2
      go_ret
      exact ⟨by first | rfl | (rw [hal]; rfl), HB.out⟩
end Go.Proofs.Ytdbnkeihnoglcaa
