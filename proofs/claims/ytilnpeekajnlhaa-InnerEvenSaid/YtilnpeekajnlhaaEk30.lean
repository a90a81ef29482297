/- Grow of nothing; Concat of three rows of texts and of two rows of numbers. -/
import Derived.Test.YtilnpeekajnlhaaEk20
import Derived.Test.YtilnpeekajnlhaaEk19
import Derived.Lib.AppendZeros
set_option linter.unusedVariables false
set_option linter.unusedSimpArgs false
namespace Go.Proofs.Ytilnpeekajnlhaa
open Go.RowKit Go.Maps
theorem cells3 {W : World} {g : Nat} {a b c : Value} {t : TypeId} (z : W.heap[g]? = some (.cells #[a, b, c] t (0, 0))) : W.cell? ⟨g, 0, none⟩ = some a ∧ W.cell? ⟨g, 1, none⟩ = some b ∧ W.cell? ⟨g, 2, none⟩ = some c := by
  refine ⟨?_, ?_, ?_⟩ <;> simp [World.cell?, z]
theorem row_freshS (w : World) (n : Nat) (h0 : 0 < n) (hn : n ≤ 1000) :
    ES.Row (w.drew.alloc (.cells (Builtin.zeroCells ES.z.cells n ++ Builtin.zeroCells ES.z.cells (grownCap w n 0 9 - n)) 9)) w.heap.size (some ⟨w.heap.size, 0, none⟩) [] (grownCap w n 0 9) := by
  have h1 := grownCap_ge w n 0 9
  have h2 := grownCap_le_maxLen w n 0 9 (by unfold maxLen; omega)
  refine .inr ⟨by omega, by simp [RE.all], .inr ⟨w.heap.size, grownCap w n 0 9, Builtin.zeroCells ES.z.cells n ++ Builtin.zeroCells ES.z.cells (grownCap w n 0 9 - n), rfl, Nat.le_refl _, ?_, Nat.zero_le _, h2, ?_, by simp [RE.all]⟩⟩
  · exact heap_alloc_new w.drew _
  · rw [Array.size_append, size_zeroCells, size_zeroCells, ← Nat.add_mul]
    have : n + (grownCap w n 0 9 - n) = grownCap w n 0 9 := by omega
    rw [this]; rfl
set_option maxRecDepth 10000 in
set_option maxHeartbeats 4000000 in
theorem grow_nilS (n : Nat) (hn : n ≤ 1000) (w : World) :
    Calls Try.prog 115 #[.slice none 0 0, .int .i64 n] w fun r w' => (∃ A c, r = .returned (.slice A 0 c) ∧ ES.Row w' w.heap.size A [] c) ∧ Below w.heap.size w w' := by
  have h1 : ¬ ((n : Int) < 0) := by omega
  go_enter Try.func115, Try.ntmps115
  by_cases hz : n = 0
  · subst hz
    go_wp2
    go_ret
    exact ⟨⟨none, 0, rfl, .inl ⟨rfl, rfl⟩⟩, Below.refl _ _⟩
  · have h2 : (0 : Int) < (n : Int) := by omega
    have h3 : 0 < n := by omega
    have hw : IntKind.i64.wrap (n : Int) = (n : Int) := IntWalk.i64_in _ (by omega)
    obtain ⟨i, hi, hzr, hsz, hby⟩ := ES.parts
    have HRUN := Lib.hid (Lib.run_append_nil_zeros (P := Try.prog) w 23 3 23 9 i ES.z .i64 .i64 Try.underlying23 Try.underlying3 hi hzr n h3 (by rw [hsz]; show 0 < 1; omega) (by omega) (by rw [hby]; show n * 16 ≤ _; omega))
    have HROW := Lib.hid (row_freshS w n h3 hn)
    have HBEL := Lib.hid (show Below w.heap.size w (w.drew.alloc (.cells (Builtin.zeroCells ES.z.cells n ++ Builtin.zeroCells ES.z.cells (grownCap w n 0 9 - n)) 9)) by go_grown)
    have HGC := Lib.hid (grownCap_ge w n 0 9)
    obtain ⟨W1, hW1⟩ : ∃ W1, W1 = w.drew.alloc (.cells (Builtin.zeroCells ES.z.cells n ++ Builtin.zeroCells ES.z.cells (grownCap w n 0 9 - n)) 9) := ⟨_, rfl⟩
    rw [← hW1] at HRUN HROW HBEL
    obtain ⟨c, hc⟩ : ∃ c, c = grownCap w n 0 9 := ⟨_, rfl⟩
    rw [← hc] at HRUN HROW HGC
    clear hW1 hc hi hzr hsz hby i
    have hnc := HGC.out
    go_wp2_with (first
      | (at_builtin; refine Lib.wpList_append_run _ rfl (.tmp 20) (.tmp 21) 23 3 rfl _ _ rfl rfl _ _ HRUN.out ?_)
      | fail)
    go_ret
    exact ⟨⟨_, _, rfl, HROW.out⟩, HBEL.out⟩
set_option maxRecDepth 10000 in
set_option maxHeartbeats 4000000 in
theorem concatS (g : Nat) (A B C : Option Addr) (n c m d q e : Nat) (xs ys zs : List ByteArray) (w : World) (hg : w.heap[g]? = some (.cells #[.slice A n c, .slice B m d, .slice C q e] 23 (0, 0))) (hxs : xs.length = n) (hys : ys.length = m) (hzs : zs.length = q) (hn : n ≤ 100) (hm : m ≤ 100) (hq : q ≤ 100) (hA : ES.Rd w A xs) (hB : ES.Rd w B ys) (hC : ES.Rd w C zs) :
    Calls Try.prog 95 #[.slice (some ⟨g, 0, none⟩) 3 3] w fun r w' => (∃ A' c', r = .returned (.slice A' (n + m + q) c') ∧ ES.Row w' w.heap.size A' (xs ++ ys ++ zs) c') ∧ Below w.heap.size w w' := by
  have HG := Lib.hid hg
  have Hxs := Lib.hid hxs
  have HA := Lib.hid hA
  have Hys := Lib.hid hys
  have HB := Lib.hid hB
  have Hzs := Lib.hid hzs
  have HC := Lib.hid hC
  obtain ⟨c0, c1, c2⟩ := cells3 hg
  clear hg hxs hA hys hB hzs hC
  have n1 : ¬ ((n : Int) < 0) := by omega
  have n2 : ¬ ((n : Int) + (m : Int) < 0) := by omega
  have n3 : ¬ ((n : Int) + (m : Int) + (q : Int) < 0) := by omega
  have AG := Lib.hid (grow_nilS (n + m + q) (by omega) w)
  have hnm : ((n + m + q : Nat) : Int) = (n : Int) + (m : Int) + (q : Int) := by omega
  rw [hnm] at AG
  clear hnm
  go_enter Try.func95, Try.ntmps95
  go_wp2
  go_loopw [3, 11] (fun sv iv wr => ((iv = .int .i64 0 ∧ sv = .int .i64 0 ∧ w = wr) ∨ (iv = .int .i64 1 ∧ sv = .int .i64 n ∧ w = wr) ∨ (iv = .int .i64 2 ∧ sv = .int .i64 ((n : Int) + m) ∧ w = wr) ∨ (iv = .int .i64 3 ∧ sv = .int .i64 ((n : Int) + m + q) ∧ w = wr))) (fun _ i _ => 3 - (intOf i).toNat)
  case atStart => exact .inl ⟨rfl, rfl, rfl⟩
  case round =>
    rcases hrel with ⟨rfl, rfl, rfl⟩ | ⟨rfl, rfl, rfl⟩ | ⟨rfl, rfl, rfl⟩ | ⟨rfl, rfl, rfl⟩
    · go_wp2
      exact ⟨.inr (.inl (by simp)), by simp [intOf]⟩
    · go_wp2
      exact ⟨.inr (.inr (.inl (by simp))), by simp [intOf]⟩
    · go_wp2
      exact ⟨.inr (.inr (.inr (by simp))), by simp [intOf]⟩
    · go_wp2_with (first
        | (go_at_call 115; ((with_reducible refine AG.out.mono ?_); rintro e w1 ⟨⟨A0, k0, rfl, r0⟩, b1⟩; have R0 := Lib.hid r0; have B1 := Lib.hid b1; clear r0))
        | fail)
      go_loopw [6, 27] (fun sv iv wr => (iv = .int .i64 0 ∧ sv = .slice A0 0 k0 ∧ Hid (ES.Row wr w.heap.size A0 [] k0) ∧ Below w.heap.size w wr) ∨ (∃ A1 k1, iv = .int .i64 1 ∧ sv = .slice A1 (n) k1 ∧ Hid (ES.Row wr w.heap.size A1 xs k1) ∧ Below w.heap.size w wr) ∨ (∃ A1 k1, iv = .int .i64 2 ∧ sv = .slice A1 (n + m) k1 ∧ Hid (ES.Row wr w.heap.size A1 (xs ++ ys) k1) ∧ Below w.heap.size w wr) ∨ (∃ A1 k1, iv = .int .i64 3 ∧ sv = .slice A1 (n + m + q) k1 ∧ Hid (ES.Row wr w.heap.size A1 (xs ++ ys ++ zs) k1) ∧ Below w.heap.size w wr)) (fun _ i _ => 3 - (intOf i).toNat)
      case atStart => exact .inl ⟨rfl, rfl, R0, B1.out⟩
      case round =>
        rcases hrel with ⟨rfl, rfl, RR, hb⟩ | ⟨A1, k1, rfl, rfl, RR, hb⟩ | ⟨A1, k1, rfl, rfl, RR, hb⟩ | ⟨A1, k1, rfl, rfl, RR, hb⟩
        · have HBB := Lib.hid hb
          obtain ⟨e0, e1, e2⟩ := cells3 (keep_bel hb HG.out)
          clear hb
          go_wp2_with (first
            | (at_builtin; refine RE.wpList_put ES _ rfl (.tmp 31) (.tmp 32) rfl (base := w.heap.size) A0 0 k0 [] A n c xs rfl rfl RR.out rfl (by omega) HBB.out.size Hxs.out (by omega) (HA.out.later HBB.out) ?_; intro A2 k2 w2 r1 r2 r3; have R1 := Lib.hid r1; have BX := Lib.hid (HBB.out.trans (RE.Row.below r2 RR.out (Nat.le_refl _) HBB.out.size)); clear r1 r2 r3)
            | fail)
          exact ⟨.inr (.inl (⟨A2, k2, by simp, by simp, Lib.hid (by simpa using R1.out), BX.out⟩)), by simp [intOf]⟩
        · have HBB := Lib.hid hb
          obtain ⟨e0, e1, e2⟩ := cells3 (keep_bel hb HG.out)
          clear hb
          go_wp2_with (first
            | (at_builtin; refine RE.wpList_put ES _ rfl (.tmp 31) (.tmp 32) rfl (base := w.heap.size) A1 (n) k1 xs B m d ys rfl rfl RR.out Hxs.out (by omega) HBB.out.size Hys.out (by omega) (HB.out.later HBB.out) ?_; intro A2 k2 w2 r1 r2 r3; have R1 := Lib.hid r1; have BX := Lib.hid (HBB.out.trans (RE.Row.below r2 RR.out (Nat.le_refl _) HBB.out.size)); clear r1 r2 r3)
            | fail)
          exact ⟨.inr (.inr (.inl (⟨A2, k2, by simp, by simp, Lib.hid (by simpa using R1.out), BX.out⟩))), by simp [intOf]⟩
        · have HBB := Lib.hid hb
          obtain ⟨e0, e1, e2⟩ := cells3 (keep_bel hb HG.out)
          clear hb
          go_wp2_with (first
            | (at_builtin; refine RE.wpList_put ES _ rfl (.tmp 31) (.tmp 32) rfl (base := w.heap.size) A1 (n + m) k1 (xs ++ ys) C q e zs rfl rfl RR.out (by rw [List.length_append, Hxs.out, Hys.out]) (by omega) HBB.out.size Hzs.out (by omega) (HC.out.later HBB.out) ?_; intro A2 k2 w2 r1 r2 r3; have R1 := Lib.hid r1; have BX := Lib.hid (HBB.out.trans (RE.Row.below r2 RR.out (Nat.le_refl _) HBB.out.size)); clear r1 r2 r3)
            | fail)
          exact ⟨.inr (.inr (.inr (⟨A2, k2, by simp, by simp, Lib.hid (by simpa using R1.out), BX.out⟩))), by simp [intOf]⟩
        · have HBB := Lib.hid hb
          clear hb
          go_wp2
          go_ret
          exact ⟨⟨_, _, rfl, RR.out⟩, HBB.out⟩
theorem row_freshI (w : World) (n : Nat) (h0 : 0 < n) (hn : n ≤ 1000) :
    EI.Row (w.drew.alloc (.cells (Builtin.zeroCells EI.z.cells n ++ Builtin.zeroCells EI.z.cells (grownCap w n 0 3 - n)) 3)) w.heap.size (some ⟨w.heap.size, 0, none⟩) [] (grownCap w n 0 3) := by
  have h1 := grownCap_ge w n 0 3
  have h2 := grownCap_le_maxLen w n 0 3 (by unfold maxLen; omega)
  refine .inr ⟨by omega, by simp [RE.all], .inr ⟨w.heap.size, grownCap w n 0 3, Builtin.zeroCells EI.z.cells n ++ Builtin.zeroCells EI.z.cells (grownCap w n 0 3 - n), rfl, Nat.le_refl _, ?_, Nat.zero_le _, h2, ?_, by simp [RE.all]⟩⟩
  · exact heap_alloc_new w.drew _
  · rw [Array.size_append, size_zeroCells, size_zeroCells, ← Nat.add_mul]
    have : n + (grownCap w n 0 3 - n) = grownCap w n 0 3 := by omega
    rw [this]; rfl
set_option maxRecDepth 10000 in
set_option maxHeartbeats 4000000 in
theorem grow_nilI (n : Nat) (hn : n ≤ 1000) (w : World) :
    Calls Try.prog 116 #[.slice none 0 0, .int .i64 n] w fun r w' => (∃ A c, r = .returned (.slice A 0 c) ∧ EI.Row w' w.heap.size A [] c) ∧ Below w.heap.size w w' := by
  have h1 : ¬ ((n : Int) < 0) := by omega
  go_enter Try.func116, Try.ntmps116
  by_cases hz : n = 0
  · subst hz
    go_wp2
    go_ret
    exact ⟨⟨none, 0, rfl, .inl ⟨rfl, rfl⟩⟩, Below.refl _ _⟩
  · have h2 : (0 : Int) < (n : Int) := by omega
    have h3 : 0 < n := by omega
    have hw : IntKind.i64.wrap (n : Int) = (n : Int) := IntWalk.i64_in _ (by omega)
    obtain ⟨i, hi, hzr, hsz, hby⟩ := EI.parts
    have HRUN := Lib.hid (Lib.run_append_nil_zeros (P := Try.prog) w 24 3 24 3 i EI.z .i64 .i64 Try.underlying24 Try.underlying3 hi hzr n h3 (by rw [hsz]; show 0 < 1; omega) (by omega) (by rw [hby]; show n * 8 ≤ _; omega))
    have HROW := Lib.hid (row_freshI w n h3 hn)
    have HBEL := Lib.hid (show Below w.heap.size w (w.drew.alloc (.cells (Builtin.zeroCells EI.z.cells n ++ Builtin.zeroCells EI.z.cells (grownCap w n 0 3 - n)) 3)) by go_grown)
    have HGC := Lib.hid (grownCap_ge w n 0 3)
    obtain ⟨W1, hW1⟩ : ∃ W1, W1 = w.drew.alloc (.cells (Builtin.zeroCells EI.z.cells n ++ Builtin.zeroCells EI.z.cells (grownCap w n 0 3 - n)) 3) := ⟨_, rfl⟩
    rw [← hW1] at HRUN HROW HBEL
    obtain ⟨c, hc⟩ : ∃ c, c = grownCap w n 0 3 := ⟨_, rfl⟩
    rw [← hc] at HRUN HROW HGC
    clear hW1 hc hi hzr hsz hby i
    have hnc := HGC.out
    go_wp2_with (first
      | (at_builtin; refine Lib.wpList_append_run _ rfl (.tmp 20) (.tmp 21) 24 3 rfl _ _ rfl rfl _ _ HRUN.out ?_)
      | fail)
    go_ret
    exact ⟨⟨_, _, rfl, HROW.out⟩, HBEL.out⟩
set_option maxRecDepth 10000 in
set_option maxHeartbeats 4000000 in
theorem concatI (g : Nat) (A B : Option Addr) (n c m d : Nat) (xs ys : List Int) (w : World) (hg : w.heap[g]? = some (.cells #[.slice A n c, .slice B m d] 24 (0, 0))) (hxs : xs.length = n) (hys : ys.length = m) (hn : n ≤ 100) (hm : m ≤ 100) (hA : EI.Rd w A xs) (hB : EI.Rd w B ys) :
    Calls Try.prog 96 #[.slice (some ⟨g, 0, none⟩) 2 2] w fun r w' => (∃ A' c', r = .returned (.slice A' (n + m) c') ∧ EI.Row w' w.heap.size A' (xs ++ ys) c') ∧ Below w.heap.size w w' := by
  have HG := Lib.hid hg
  have Hxs := Lib.hid hxs
  have HA := Lib.hid hA
  have Hys := Lib.hid hys
  have HB := Lib.hid hB
  obtain ⟨c0, c1, -, -⟩ := has_two hg
  clear hg hxs hA hys hB
  have n1 : ¬ ((n : Int) < 0) := by omega
  have n2 : ¬ ((n : Int) + (m : Int) < 0) := by omega
  have AG := Lib.hid (grow_nilI (n + m) (by omega) w)
  have hnm : ((n + m : Nat) : Int) = (n : Int) + (m : Int) := by omega
  rw [hnm] at AG
  clear hnm
  go_enter Try.func96, Try.ntmps96
  go_wp2
  go_loopw [3, 11] (fun sv iv wr => ((iv = .int .i64 0 ∧ sv = .int .i64 0 ∧ w = wr) ∨ (iv = .int .i64 1 ∧ sv = .int .i64 n ∧ w = wr) ∨ (iv = .int .i64 2 ∧ sv = .int .i64 ((n : Int) + m) ∧ w = wr))) (fun _ i _ => 2 - (intOf i).toNat)
  case atStart => exact .inl ⟨rfl, rfl, rfl⟩
  case round =>
    rcases hrel with ⟨rfl, rfl, rfl⟩ | ⟨rfl, rfl, rfl⟩ | ⟨rfl, rfl, rfl⟩
    · go_wp2
      exact ⟨.inr (.inl (by simp)), by simp [intOf]⟩
    · go_wp2
      exact ⟨.inr (.inr (by simp)), by simp [intOf]⟩
    · go_wp2_with (first
        | (go_at_call 116; ((with_reducible refine AG.out.mono ?_); rintro e w1 ⟨⟨A0, k0, rfl, r0⟩, b1⟩; have R0 := Lib.hid r0; have B1 := Lib.hid b1; clear r0))
        | fail)
      go_loopw [6, 27] (fun sv iv wr => (iv = .int .i64 0 ∧ sv = .slice A0 0 k0 ∧ Hid (EI.Row wr w.heap.size A0 [] k0) ∧ Below w.heap.size w wr) ∨ (∃ A1 k1, iv = .int .i64 1 ∧ sv = .slice A1 (n) k1 ∧ Hid (EI.Row wr w.heap.size A1 xs k1) ∧ Below w.heap.size w wr) ∨ (∃ A1 k1, iv = .int .i64 2 ∧ sv = .slice A1 (n + m) k1 ∧ Hid (EI.Row wr w.heap.size A1 (xs ++ ys) k1) ∧ Below w.heap.size w wr)) (fun _ i _ => 2 - (intOf i).toNat)
      case atStart => exact .inl ⟨rfl, rfl, R0, B1.out⟩
      case round =>
        rcases hrel with ⟨rfl, rfl, RR, hb⟩ | ⟨A1, k1, rfl, rfl, RR, hb⟩ | ⟨A1, k1, rfl, rfl, RR, hb⟩
        · have HBB := Lib.hid hb
          obtain ⟨e0, e1, -, -⟩ := has_two (keep_bel hb HG.out)
          clear hb
          go_wp2_with (first
            | (at_builtin; refine RE.wpList_put EI _ rfl (.tmp 31) (.tmp 32) rfl (base := w.heap.size) A0 0 k0 [] A n c xs rfl rfl RR.out rfl (by omega) HBB.out.size Hxs.out (by omega) (HA.out.later HBB.out) ?_; intro A2 k2 w2 r1 r2 r3; have R1 := Lib.hid r1; have BX := Lib.hid (HBB.out.trans (RE.Row.below r2 RR.out (Nat.le_refl _) HBB.out.size)); clear r1 r2 r3)
            | fail)
          exact ⟨.inr (.inl (⟨A2, k2, by simp, by simp, Lib.hid (by simpa using R1.out), BX.out⟩)), by simp [intOf]⟩
        · have HBB := Lib.hid hb
          obtain ⟨e0, e1, -, -⟩ := has_two (keep_bel hb HG.out)
          clear hb
          go_wp2_with (first
            | (at_builtin; refine RE.wpList_put EI _ rfl (.tmp 31) (.tmp 32) rfl (base := w.heap.size) A1 (n) k1 xs B m d ys rfl rfl RR.out Hxs.out (by omega) HBB.out.size Hys.out (by omega) (HB.out.later HBB.out) ?_; intro A2 k2 w2 r1 r2 r3; have R1 := Lib.hid r1; have BX := Lib.hid (HBB.out.trans (RE.Row.below r2 RR.out (Nat.le_refl _) HBB.out.size)); clear r1 r2 r3)
            | fail)
          exact ⟨.inr (.inr (⟨A2, k2, by simp, by simp, Lib.hid (by simpa using R1.out), BX.out⟩)), by simp [intOf]⟩
        · have HBB := Lib.hid hb
          clear hb
          go_wp2
          go_ret
          exact ⟨⟨_, _, rfl, RR.out⟩, HBB.out⟩
end Go.Proofs.Ytilnpeekajnlhaa
