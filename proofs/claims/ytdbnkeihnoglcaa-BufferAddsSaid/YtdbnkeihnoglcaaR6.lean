/- Grow of nothing; Concat of two. -/
import Derived.Test.YtdbnkeihnoglcaaR5
import Derived.Lib.AppendZeros
namespace Go.Proofs.Ytdbnkeihnoglcaa
set_option linter.unusedSimpArgs false
open Go.RowKit Go.Maps
set_option linter.unusedVariables false
theorem row_fresh (w : World) (n : Nat) (h0 : 0 < n) (hn : n ≤ 1000) :
    EG.Row (w.drew.alloc (.cells (Builtin.zeroCells EG.z.cells n ++ Builtin.zeroCells EG.z.cells (grownCap w n 0 31 - n)) 31)) w.heap.size (some ⟨w.heap.size, 0, none⟩) [] (grownCap w n 0 31) := by
  have h1 := grownCap_ge w n 0 31
  have h2 := grownCap_le_maxLen w n 0 31 (by unfold maxLen; omega)
  refine .inr ⟨by omega, by simp [RE.all], .inr ⟨w.heap.size, grownCap w n 0 31, Builtin.zeroCells EG.z.cells n ++ Builtin.zeroCells EG.z.cells (grownCap w n 0 31 - n), rfl, Nat.le_refl _, ?_, Nat.zero_le _, h2, ?_, by simp [RE.all]⟩⟩
  · exact heap_alloc_new w.drew _
  · rw [Array.size_append, size_zeroCells, size_zeroCells, ← Nat.add_mul]
    have : n + (grownCap w n 0 31 - n) = grownCap w n 0 31 := by omega
    rw [this]; rfl
set_option maxRecDepth 10000 in
set_option maxHeartbeats 4000000 in
theorem grow_nil (n : Nat) (hn : n ≤ 1000) (w : World) :
    Calls Try.prog 65 #[.slice none 0 0, .int .i64 n] w fun r w' => (∃ A c, r = .returned (.slice A 0 c) ∧ EG.Row w' w.heap.size A [] c) ∧ Below w.heap.size w w' := by
  have h1 : ¬ ((n : Int) < 0) := by omega
  go_enter Try.func65, Try.ntmps65
  by_cases hz : n = 0
  · subst hz
    go_wp2
    go_ret
    exact ⟨⟨none, 0, rfl, .inl ⟨rfl, rfl⟩⟩, Below.refl _ _⟩
  · have h2 : (0 : Int) < (n : Int) := by omega
    have h3 : 0 < n := by omega
    have hw : IntKind.i64.wrap (n : Int) = (n : Int) := IntWalk.i64_in _ (by omega)
    obtain ⟨i, hi, hzr, hsz, hby⟩ := EG.parts
    have HRUN := Lib.hid (Lib.run_append_nil_zeros (P := Try.prog) w 22 3 22 31 i EG.z .i64 .i64 Try.underlying22 Try.underlying3 hi hzr n h3 (by rw [hsz]; show 0 < 6; omega) (by omega) (by rw [hby]; show n * 72 ≤ _; omega))
    have HROW := Lib.hid (row_fresh w n h3 hn)
    have HBEL := Lib.hid (show Below w.heap.size w (w.drew.alloc (.cells (Builtin.zeroCells EG.z.cells n ++ Builtin.zeroCells EG.z.cells (grownCap w n 0 31 - n)) 31)) by go_grown)
    have HGC := Lib.hid (grownCap_ge w n 0 31)
    obtain ⟨W1, hW1⟩ : ∃ W1, W1 = w.drew.alloc (.cells (Builtin.zeroCells EG.z.cells n ++ Builtin.zeroCells EG.z.cells (grownCap w n 0 31 - n)) 31) := ⟨_, rfl⟩
    rw [← hW1] at HRUN HROW HBEL
    obtain ⟨c, hc⟩ : ∃ c, c = grownCap w n 0 31 := ⟨_, rfl⟩
    rw [← hc] at HRUN HROW HGC
    clear hW1 hc hi hzr hsz hby i
    have hnc := HGC.out
    go_wp2_with (first
      | (at_builtin; refine Lib.wpList_append_run _ rfl (.tmp 20) (.tmp 21) 22 3 rfl _ _ rfl rfl _ _ HRUN.out ?_)
      | fail)
    go_ret
    exact ⟨⟨_, _, rfl, HROW.out⟩, HBEL.out⟩
set_option maxRecDepth 10000 in
set_option maxHeartbeats 4000000 in
theorem concat_any (g : Nat) (A B : Option Addr) (n c m d : Nat) (xs ys : List MG) (w : World) (hg : w.heap[g]? = some (.cells #[.slice A n c, .slice B m d] 22 (0, 0)))
    (hx : xs.length = n) (hy : ys.length = m) (hn : n ≤ 100) (hm : m ≤ 100) (hA : EG.Rd w A xs) (hB : EG.Rd w B ys) :
    Calls Try.prog 47 #[.slice (some ⟨g, 0, none⟩) 2 2] w fun r w' => (∃ A' c', r = .returned (.slice A' (n + m) c') ∧ EG.Row w' w.heap.size A' (xs ++ ys) c') ∧ Below w.heap.size w w' := by
  have HG := Lib.hid hg
  have HX := Lib.hid hx
  have HY := Lib.hid hy
  have HA := Lib.hid hA
  have HB := Lib.hid hB
  obtain ⟨c0, c1, -, -⟩ := has_two hg
  clear hg hx hy hA hB
  have n1 : ¬ ((n : Int) < 0) := by omega
  have n2 : ¬ ((n : Int) + (m : Int) < 0) := by omega
  have AG := Lib.hid (grow_nil (n + m) (by omega) w)
  have hnm : ((n + m : Nat) : Int) = (n : Int) + (m : Int) := by omega
  rw [hnm] at AG
  clear hnm
  go_enter Try.func47, Try.ntmps47
  go_wp2
  go_loopw [3, 11] (fun sv iv wr => ((iv = .int .i64 0 ∧ sv = .int .i64 0 ∧ w = wr) ∨ (iv = .int .i64 1 ∧ sv = .int .i64 n ∧ w = wr) ∨ (iv = .int .i64 2 ∧ sv = .int .i64 ((n : Int) + m) ∧ w = wr))) (fun _ i _ => 2 - (intOf i).toNat)
  case atStart => exact .inl ⟨rfl, rfl, rfl⟩
  case round =>
    rcases hrel with ⟨rfl, rfl, rfl⟩ | ⟨rfl, rfl, rfl⟩ | ⟨rfl, rfl, rfl⟩
    · go_wp2
      exact ⟨.inr (.inl (by simp)), by simp [intOf]⟩
    · go_wp2
      exact ⟨.inr (.inr (by simp)), by simp [intOf]⟩
    · go_wp2_with (first
        | (go_at_call 65; ((with_reducible refine AG.out.mono ?_); rintro e w1 ⟨⟨A0, k0, rfl, r0⟩, b1⟩; have R0 := Lib.hid r0; have B1 := Lib.hid b1; clear r0))
        | fail)
      go_loopw [6, 27] (fun sv iv wr => (iv = .int .i64 0 ∧ sv = .slice A0 0 k0 ∧ Hid (EG.Row wr w.heap.size A0 [] k0) ∧ Below w.heap.size w wr) ∨ (∃ A1 k1, iv = .int .i64 1 ∧ sv = .slice A1 n k1 ∧ Hid (EG.Row wr w.heap.size A1 xs k1) ∧ Below w.heap.size w wr) ∨ (∃ A1 k1, iv = .int .i64 2 ∧ sv = .slice A1 (n + m) k1 ∧ Hid (EG.Row wr w.heap.size A1 (xs ++ ys) k1) ∧ Below w.heap.size w wr)) (fun _ i _ => 2 - (intOf i).toNat)
      case atStart => exact .inl ⟨rfl, rfl, R0, B1.out⟩
      case round =>
        rcases hrel with ⟨rfl, rfl, RR, hb⟩ | ⟨A1, k1, rfl, rfl, RR, hb⟩ | ⟨A1, k1, rfl, rfl, RR, hb⟩
        · have HBB := Lib.hid hb
          obtain ⟨e0, e1, -, -⟩ := has_two (keep_bel hb HG.out)
          clear hb
          go_wp2_with (first
            | (at_builtin; refine RE.wpList_put EG _ rfl (.tmp 31) (.tmp 32) rfl (base := w.heap.size) A0 0 k0 [] A n c xs rfl rfl RR.out rfl (by omega) HBB.out.size HX.out (by omega) (HA.out.later HBB.out) ?_; intro A2 k2 w2 r1 r2 r3; have R1 := Lib.hid r1; have BX := Lib.hid (HBB.out.trans (RE.Row.below r2 RR.out (Nat.le_refl _) HBB.out.size)); clear r1 r2 r3)
            | fail)
          exact ⟨.inr (.inl ⟨A2, k2, by simp, by simp, Lib.hid (by simpa using R1.out), BX.out⟩), by simp [intOf]⟩
        · have HBB := Lib.hid hb
          obtain ⟨e0, e1, -, -⟩ := has_two (keep_bel hb HG.out)
          clear hb
          go_wp2_with (first
            | (at_builtin; refine RE.wpList_put EG _ rfl (.tmp 31) (.tmp 32) rfl (base := w.heap.size) A1 n k1 xs B m d ys rfl rfl RR.out HX.out (by omega) HBB.out.size HY.out (by omega) (HB.out.later HBB.out) ?_; intro A2 k2 w2 r1 r2 r3; have R1 := Lib.hid r1; have BX := Lib.hid (HBB.out.trans (RE.Row.below r2 RR.out (Nat.le_refl _) HBB.out.size)); clear r1 r2 r3)
            | fail)
          exact ⟨.inr (.inr ⟨A2, k2, by simp, rfl, R1, BX.out⟩), by simp [intOf]⟩
        · have HBB := Lib.hid hb
          clear hb
          go_wp2
          go_ret
          exact ⟨⟨_, _, rfl, RR.out⟩, HBB.out⟩
end Go.Proofs.Ytdbnkeihnoglcaa
