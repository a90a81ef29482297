/- Pivots that are none: the one part of all. -/
import Derived.Test.YtniffjjkjgfacaaY3
namespace Go.Proofs.Ytniffjjkjgfacaa
set_option linter.unusedSimpArgs false
open Go.RowKit Go.Maps Go.Shelf
set_option linter.unusedVariables false
attribute [local go_sem] Oper.semAt_some
set_option maxRecDepth 10000 in
set_option maxHeartbeats 2000000 in
theorem right0 (w : World) : Calls Try.prog 58 #[S0, RG0] w fun e w' => e = .returned (.bool true) ∧ Below w.heap.size w w' := by
  go_enter Try.func58, Try.ntmps58
  go_wp2_with (first
    | (go_at_call 66; ((with_reducible refine (rr0 _).mono ?_); rintro e w1 ⟨rfl, b1⟩; have B1 := Lib.hid (bel_a b1); clear b1))
    | (go_at_call 67; ((with_reducible refine (rises0 _).mono ?_); rintro e w2 ⟨rfl, b2⟩; have B2 := Lib.hid (bel_trans B1.out b2); clear b2))
    | fail)
  go_quiet (fail)
  go_wp2
  go_ret
  exact ⟨rfl, bel_drewN B2.out _⟩
set_option maxRecDepth 10000 in
set_option maxHeartbeats 2000000 in
theorem part0 (w : World) : Calls Try.prog 75 #[S0, RG0, .int .i64 0] w fun e w' => e = .returned RG0 ∧ Below w.heap.size w w' := by
  go_enter Try.func75, Try.ntmps75
  go_wp2
  exact bodyPost_ret (v := RG0) (by simp [results, Try.results75, go_sem]) rfl ⟨rfl, by go_grown⟩
theorem heap3 (w : World) (a b c : Obj) : (((w.alloc a).alloc b).alloc c).heap[w.heap.size]? = some a ∧ (((w.alloc a).alloc b).alloc c).heap[w.heap.size + 1]? = some b ∧ (((w.alloc a).alloc b).alloc c).heap[w.heap.size + 1 + 1]? = some c := by
  refine ⟨?_, ?_, ?_⟩
  · exact (RE.heap_old _ _ _ (by simp; omega)).trans ((RE.heap_old _ _ _ (by simp)).trans (heap_alloc_new w a))
  · have h := heap_alloc_new (w.alloc a) b
    rw [show (w.alloc a).heap.size = w.heap.size + 1 by simp] at h
    exact (RE.heap_old _ _ _ (by simp)).trans h
  · have h := heap_alloc_new ((w.alloc a).alloc b) c
    rw [show ((w.alloc a).alloc b).heap.size = w.heap.size + 1 + 1 by simp] at h
    exact h
/-- The iterator's blocks. -/
structure PB (W : World) (B1 B2 B3 : Nat) (n : Int) : Prop where
  b1 : Boxed W B1 3 (.int .i64 n)
  b2 : Boxed W B2 39 S0
  b3 : W.heap[B3]? = some (.cells #[E0, E0] 88 (0, 0))
theorem PB.chg {D : Nat → Prop} {W W' : World} {B1 B2 B3 : Nat} {n : Int} (h : PB W B1 B2 B3 n) (hc : Chg D W W') (h1 : ¬ D B1) (h2 : ¬ D B2) (h3 : ¬ D B3) : PB W' B1 B2 B3 n := ⟨boxed_chg h.b1 hc h1, boxed_chg h.b2 hc h2, keep_chg hc h.b3 h3⟩
theorem PB.later {W W' : World} {B1 B2 B3 : Nat} {n : Int} (h : PB W B1 B2 B3 n) (hb : Below W.heap.size W W') : PB W' B1 B2 B3 n := ⟨boxed_later h.b1 hb, boxed_later h.b2 hb, keep_bel hb h.b3⟩
set_option maxRecDepth 10000 in
set_option maxHeartbeats 2000000 in
theorem all0 (w : World) : Calls Try.prog 69 #[S0, RG0] w fun e w' => ∃ B1 B2 B3, e = .returned (.func (.func 74) #[] #[.pointer (some ⟨B1, 0, none⟩), .pointer (some ⟨B2, 0, none⟩), .pointer (some ⟨B3, 0, none⟩)]) ∧ (w.heap.size ≤ B1 ∧ w.heap.size ≤ B2 ∧ w.heap.size ≤ B3) ∧ PB w' B1 B2 B3 1 ∧ Below w.heap.size w w' := by
  obtain ⟨V, hV⟩ : ∃ V, V = ((w.alloc (.cells #[S0] 39)).alloc (.cells #[E0, E0] 88)).alloc (.cells #[.int .i64 0] 3) := ⟨_, rfl⟩
  have H0 : Hid (PB V (w.heap.size + 1 + 1) w.heap.size (w.heap.size + 1) 0) := by
    obtain ⟨a, b, c⟩ := heap3 w (.cells #[S0] 39 (0, 0)) (.cells #[E0, E0] 88 (0, 0)) (.cells #[.int .i64 0] 3 (0, 0))
    rw [hV]
    exact Lib.hid ⟨c, a, b⟩
  have HV : Hid (Below w.heap.size w V) := Lib.hid (by rw [hV]; go_grown)
  subst hV
  go_enter Try.func69, Try.ntmps69
  go_wp2_with (first
    | (go_at_call 58; ((with_reducible refine (right0 _).mono ?_); rintro e w1 ⟨rfl, b1⟩; have H1 := Lib.hid (H0.out.later b1); have BV := Lib.hid (bel_trans HV.out b1); have c1 := H1.out.b1.cell; have c2 := H1.out.b2.cell; have f1 := H1.out.b1.frozen; clear b1))
    | (go_at_call 73; ((with_reducible refine (own0 _).mono ?_); rintro e w2 ⟨rfl, b2⟩; have H2 : Hid (PB w2 (w.heap.size + 1 + 1) w.heap.size (w.heap.size + 1) 1) := (have k1 : PB (w1.setCell ⟨w.heap.size + 1 + 1, 0, none⟩ (.int .i64 1)) (w.heap.size + 1 + 1) w.heap.size (w.heap.size + 1) 1 := ⟨H1.out.b1.set _, boxed_chg H1.out.b2 (Chg.set (D := fun g => g = w.heap.size + 1 + 1) w1 _ rfl) (by omega), keep_chg (Chg.set (D := fun g => g = w.heap.size + 1 + 1) w1 _ rfl) H1.out.b3 (by omega)⟩; Lib.hid (k1.later b2)); have BW : Hid (Below w.heap.size w w2) := Lib.hid (bel_trans (BV.out.trans ((Chg.set (D := fun g => g = w.heap.size + 1 + 1) w1 _ rfl).below (fun g hg => by omega) BV.out.size)) b2); clear b2 c1 c2 f1; have c2 := H2.out.b2.cell; have f2 := H2.out.b2.frozen))
    | fail)
  go_ret
  have cs : Chg (fun g => g = w.heap.size) w2 (w2.setCell ⟨w.heap.size, 0, none⟩ S0) := Chg.set (D := fun g => g = w.heap.size) w2 _ rfl
  exact ⟨_, _, _, rfl, ⟨by omega, by omega, by omega⟩, ⟨boxed_chg H2.out.b1 cs (by omega), H2.out.b2.set _, keep_chg cs H2.out.b3 (by omega)⟩, BW.out.trans (cs.below (fun g hg => by omega) BW.out.size)⟩
end Go.Proofs.Ytniffjjkjgfacaa
