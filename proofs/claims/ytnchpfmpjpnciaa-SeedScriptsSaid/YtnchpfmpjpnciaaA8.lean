/- Rows of messages are the same; a new source; what a machine is made of. -/
import Derived.Test.YtnchpfmpjpnciaaA7
namespace Go.Proofs.Ytnchpfmpjpnciaa
set_option linter.unusedSimpArgs false
open Go.RowKit Go.Maps Go.Shelf
set_option linter.unusedVariables false
theorem mval_size (S : Int) : (mval S).toList.length = 6 := by
  obtain ⟨_, _, _, _, _, h⟩ := mval_form S
  rw [h]; rfl
theorem mrow_length (S : Int) (n : Nat) : (mrow S n).length = n * 6 := by
  induction n with
  | zero => rfl
  | succ n ih => rw [mrow, List.length_append, ih, mval_size]; omega
theorem mrow_at (S : Int) (n k j : Nat) (hk : k < n) (hj : j < 6) : (mrow S n)[k * 6 + j]? = (mval (mst S k)).toList[j]? := by
  induction n with
  | zero => omega
  | succ n ih =>
    have hl := mrow_length S n
    rw [mrow]
    by_cases h : k < n
    · rw [List.getElem?_append_left (by omega)]; exact ih h
    · obtain rfl : k = n := by omega
      rw [List.getElem?_append_right (by omega), hl]; congr 1; omega
theorem row_cells {w : World} {lo : Nat} {A : Option Addr} {S : Int} {n k : Nat} {kd md : Int} {mk mt mv : ByteArray} (h : RdV w lo A (mrow S n)) (hk : k < n) (hm : mval (mst S k) = #[.int .u8 kd, .int .i64 0, .string mk, .string mt, .string mv, .int .u64 md]) :
    ∃ g, A = some ⟨g, 0, none⟩ ∧ g < w.heap.size ∧ w.cell? ⟨g, k * 6, none⟩ = some (.int .u8 kd) ∧ w.cell? ⟨g, k * 6 + 1, none⟩ = some (.int .i64 0) ∧ w.cell? ⟨g, k * 6 + 2, none⟩ = some (.string mk) ∧ w.cell? ⟨g, k * 6 + 3, none⟩ = some (.string mt) ∧ w.cell? ⟨g, k * 6 + 4, none⟩ = some (.string mv) ∧ w.cell? ⟨g, k * 6 + 5, none⟩ = some (.int .u64 md) := by
  rcases h with h | ⟨g, h1, _, h3, h4⟩
  · have := mrow_length S n; rw [h] at this; simp at this; omega
  · have q : ∀ j, j < 6 → (mrow S n)[k * 6 + j]? = (#[Value.int .u8 kd, .int .i64 0, .string mk, .string mt, .string mv, .int .u64 md] : Array Value).toList[j]? := fun j hj => by rw [mrow_at S n k j hk hj, hm]
    exact ⟨g, h1, h3, h4 _ _ (q 0 (by omega)), h4 _ _ (q 1 (by omega)), h4 _ _ (q 2 (by omega)), h4 _ _ (q 3 (by omega)), h4 _ _ (q 4 (by omega)), h4 _ _ (q 5 (by omega))⟩
set_option maxHeartbeats 2000000 in
set_option maxRecDepth 4000 in
theorem same_any {w : World} {lo lo' : Nat} {A A' : Option Addr} {S : Int} {n c c' : Nat} (h : RdV w lo A (mrow S n)) (h' : RdV w lo' A' (mrow S n)) (hn : n ≤ 3) :
    Calls Try.prog 16 #[.slice A n c, .slice A' n c'] w fun e w' => e = .returned (.bool true) ∧ Below w.heap.size w w' := by
  have H := Lib.hid h
  have H' := Lib.hid h'
  clear h h'
  go_enter Try.func16, Try.ntmps16
  go_wp2
  go_loopw [5] (fun iv wr => ∃ k : Nat, k ≤ n ∧ iv = .int .i64 k ∧ Below w.heap.size w wr) (fun i _ => n - (intOf i).toNat)
  case atStart => exact ⟨0, by omega, rfl, Below.refl _ _⟩
  case round =>
    obtain ⟨k, hk, rfl, hb⟩ := hrel
    have HB := Lib.hid hb
    by_cases h8 : k < n
    · have hk1 : (k : Int) < (n : Int) := by omega
      have hk0 : (0 : Int) ≤ (k : Int) := by omega
      obtain ⟨kd, mk, mt, mv, md, hm⟩ := mval_form (mst S k)
      obtain ⟨g, rfl, hg, a0, a1, a2, a3, a4, a5⟩ := row_cells H.out h8 hm
      obtain ⟨g', rfl, hg', b0, b1, b2, b3, b4, b5⟩ := row_cells H'.out h8 hm
      have A0 := bel_later (HB.out.drew) a0
      have A1 := bel_later (HB.out.drew) a1
      have A2 := bel_later (HB.out.drew) a2
      have A3 := bel_later (HB.out.drew) a3
      have A4 := bel_later (HB.out.drew) a4
      have A5 := bel_later (HB.out.drew) a5
      have B0 := bel_later (HB.out.drew) b0
      have B1 := bel_later (HB.out.drew) b1
      have B2 := bel_later (HB.out.drew) b2
      have B3 := bel_later (HB.out.drew) b3
      have B4 := bel_later (HB.out.drew) b4
      have B5 := bel_later (HB.out.drew) b5
      clear a0 a1 a2 a3 a4 a5 b0 b1 b2 b3 b4 b5 hm hb
      go_wp2_with fail
      go_region
      all_goals
        go_wp2_with fail
        exact ⟨⟨k + 1, by omega, by simp, HB.out.drew⟩, by simp [intOf]; omega⟩
    · have hk1 : ¬ (k : Int) < (n : Int) := by omega
      go_wp2
      go_ret
      exact ⟨rfl, hb⟩
theorem new_any (n : Int) (w : World) : Calls Try.prog 5 #[.int .u64 n] w fun e w' => e = .returned (.pointer (some ⟨w.heap.size, 0, none⟩)) ∧ w' = w.alloc (.cells #[.int .u64 n] 63) := by
  go_enter Try.func5, Try.ntmps5
  go_wp2
  go_ret
  exact ⟨rfl, rfl⟩
theorem info49 : (Try.prog.info? 49).map (·.size) = some 9 := by kernel_rfl
theorem run_zc (w : World) : Sem.run Try.prog (zeroValue 49) w = Result.ok (Value.agg #[.int .i64 0, .int .i64 0, .int .i64 0, .int .i64 0, .int .i64 0, .int .i64 0, .int .i64 0, .int .i64 0, .int .i64 0]) w := by
  kernel_rfl
/-- A machine's sizes. -/
def cc (a b c d e f g : Int) : Array Value := #[.int .i64 4, .int .i64 16, .int .i64 a, .int .i64 b, .int .i64 c, .int .i64 d, .int .i64 e, .int .i64 f, .int .i64 g]
theorem cc_one (a b c d e f g : Int) : (cc a b c d e f g).all (·.oneCell') = true := by simp [cc, Value.oneCell']
theorem res49 {f : Func} (hf : f.results = #[.cell 2 49]) (tmps : Array Value) (w : World) (g : Nat) (cs : Array Value) (hp : tmps.getD 2 undef = .pointer (some ⟨g, 0, none⟩)) (hg : w.heap[g]? = some (.cells cs 49 (0, 0))) (hi : cs.size = 9) :
    (results f tmps).run Try.prog w = .ok (.agg cs) w := by
  have hp' : tmps[2]?.getD undef = .pointer (some ⟨g, 0, none⟩) := by simpa using hp
  simp [results, hf, hp', asAddr, run_loadVar_row w g 49 49 cs (0, 0) _ hg Try.underlying49 rfl (by rw [hi]; exact info49)]
def cfA (S : Int) : Array Value :=
  let s1 := bs S 5; let s2 := bs s1 100; let s3 := bs s2 9; let s4 := bs s3 3; let s5 := bs s4 200; let s6 := bs s5 5
  cc (4 + bl S 5) (bl s1 100) (4 + bl s2 9) (2 + bl s3 3) (20 + bl s4 200) (bl s5 5) (3 + bl s6 6)
set_option maxHeartbeats 2000000 in
set_option maxRecDepth 4000 in
theorem config_p (S : Int) (w : World) : Calls Try.prog 21 #[.int .u64 S] w fun e w' => e = .returned (.agg (cfA S)) ∧ Below w.heap.size w w' := by
  have hal := run_zc
  obtain ⟨s0, hs0⟩ : ∃ x, x = S := ⟨_, rfl⟩
  rw [← hs0]
  obtain ⟨x0, hx0⟩ : ∃ x, x = bl s0 5 := ⟨_, rfl⟩
  obtain ⟨s1, hs1⟩ : ∃ x, x = bs s0 5 := ⟨_, rfl⟩
  have hr0 := bl_range s0 5 (by omega)
  rw [← hx0] at hr0
  obtain ⟨x1, hx1⟩ : ∃ x, x = bl s1 100 := ⟨_, rfl⟩
  obtain ⟨s2, hs2⟩ : ∃ x, x = bs s1 100 := ⟨_, rfl⟩
  have hr1 := bl_range s1 100 (by omega)
  rw [← hx1] at hr1
  obtain ⟨x2, hx2⟩ : ∃ x, x = bl s2 9 := ⟨_, rfl⟩
  obtain ⟨s3, hs3⟩ : ∃ x, x = bs s2 9 := ⟨_, rfl⟩
  have hr2 := bl_range s2 9 (by omega)
  rw [← hx2] at hr2
  obtain ⟨x3, hx3⟩ : ∃ x, x = bl s3 3 := ⟨_, rfl⟩
  obtain ⟨s4, hs4⟩ : ∃ x, x = bs s3 3 := ⟨_, rfl⟩
  have hr3 := bl_range s3 3 (by omega)
  rw [← hx3] at hr3
  obtain ⟨x4, hx4⟩ : ∃ x, x = bl s4 200 := ⟨_, rfl⟩
  obtain ⟨s5, hs5⟩ : ∃ x, x = bs s4 200 := ⟨_, rfl⟩
  have hr4 := bl_range s4 200 (by omega)
  rw [← hx4] at hr4
  obtain ⟨x5, hx5⟩ : ∃ x, x = bl s5 5 := ⟨_, rfl⟩
  obtain ⟨s6, hs6⟩ : ∃ x, x = bs s5 5 := ⟨_, rfl⟩
  have hr5 := bl_range s5 5 (by omega)
  rw [← hx5] at hr5
  obtain ⟨x6, hx6⟩ : ∃ x, x = bl s6 6 := ⟨_, rfl⟩
  obtain ⟨s7, hs7⟩ : ∃ x, x = bs s6 6 := ⟨_, rfl⟩
  have hr6 := bl_range s6 6 (by omega)
  rw [← hx6] at hr6
  have hres : cfA s0 = cc (4 + x0) x1 (4 + x2) (2 + x3) (20 + x4) x5 (3 + x6) := by
    rw [hx0, hx1, hx2, hx3, hx4, hx5, hx6, hs6, hs5, hs4, hs3, hs2, hs1]; rfl
  rw [hres]
  have X0 := Lib.hid hx0.symm
  have T0 := Lib.hid hs1.symm
  have X1 := Lib.hid hx1.symm
  have T1 := Lib.hid hs2.symm
  have X2 := Lib.hid hx2.symm
  have T2 := Lib.hid hs3.symm
  have X3 := Lib.hid hx3.symm
  have T3 := Lib.hid hs4.symm
  have X4 := Lib.hid hx4.symm
  have T4 := Lib.hid hs5.symm
  have X5 := Lib.hid hx5.symm
  have T5 := Lib.hid hs6.symm
  have X6 := Lib.hid hx6.symm
  have T6 := Lib.hid hs7.symm
  clear hx0 hs1 hx1 hs2 hx2 hs3 hx3 hs4 hx4 hs5 hx5 hs6 hx6 hs7 hs0
  have Z0 := Lib.hid (keep_bel (alb (w.alloc (.cells #[.int .i64 0, .int .i64 0, .int .i64 0, .int .i64 0, .int .i64 0, .int .i64 0, .int .i64 0, .int .i64 0, .int .i64 0] 49)) (.cells #[.int .u64 s0] 63)) (heap_alloc_new w (.cells #[.int .i64 0, .int .i64 0, .int .i64 0, .int .i64 0, .int .i64 0, .int .i64 0, .int .i64 0, .int .i64 0, .int .i64 0] 49)))
  have N0 := Lib.hid (new_any s0 (w.alloc (.cells #[.int .i64 0, .int .i64 0, .int .i64 0, .int .i64 0, .int .i64 0, .int .i64 0, .int .i64 0, .int .i64 0, .int .i64 0] 49)))
  have hS0 : Src ((w.alloc (.cells #[.int .i64 0, .int .i64 0, .int .i64 0, .int .i64 0, .int .i64 0, .int .i64 0, .int .i64 0, .int .i64 0, .int .i64 0] 49)).alloc (.cells #[.int .u64 s0] 63)) 63 (w.heap.size + 1) s0 := by
    have h := heap_alloc_new (w.alloc (.cells #[.int .i64 0, .int .i64 0, .int .i64 0, .int .i64 0, .int .i64 0, .int .i64 0, .int .i64 0, .int .i64 0, .int .i64 0] 49)) (.cells #[.int .u64 s0] 63)
    rw [World.size_alloc] at h; exact h
  have C0 := Lib.hid (below_p 5 hS0 (by omega))
  rw [X0.out, T0.out] at C0
  have H0 : Hid (Eff 63 (w.heap.size + 1) s0 ((w.alloc (.cells #[.int .i64 0, .int .i64 0, .int .i64 0, .int .i64 0, .int .i64 0, .int .i64 0, .int .i64 0, .int .i64 0, .int .i64 0] 49)).alloc (.cells #[.int .u64 s0] 63)) ((w.alloc (.cells #[.int .i64 0, .int .i64 0, .int .i64 0, .int .i64 0, .int .i64 0, .int .i64 0, .int .i64 0, .int .i64 0, .int .i64 0] 49)).alloc (.cells #[.int .u64 s0] 63))) := Lib.hid ⟨hS0, Chg.refl _ _⟩
  have hne : ¬ w.heap.size = w.heap.size + 1 := by omega
  have B0 : Hid (Below w.heap.size w ((w.alloc (.cells #[.int .i64 0, .int .i64 0, .int .i64 0, .int .i64 0, .int .i64 0, .int .i64 0, .int .i64 0, .int .i64 0, .int .i64 0] 49)).alloc (.cells #[.int .u64 s0] 63))) := Lib.hid (by go_grown)
  clear hres hS0
  go_enter Try.func21, Try.ntmps21
  go_wp2_with (first
    | (go_at_call 5; ((with_reducible refine N0.out.mono ?_); rintro e w1 ⟨rfl, rfl⟩))
    | (go_at_call 8; ((with_reducible refine C0.out.mono ?_); rintro e w1 ⟨rfl, h⟩; have H1 := Lib.hid (H0.out.trans h); have Z1 := Lib.hid (h.keep hne Z0.out); have C1 := Lib.hid (below_p 100 h.src (by omega)); rw [X1.out, T1.out] at C1; clear h))
    | (go_at_call 8; ((with_reducible refine C1.out.mono ?_); rintro e w2 ⟨rfl, h⟩; have H2 := Lib.hid (H1.out.trans h); have Z2 := Lib.hid (h.keep hne Z1.out); have C2 := Lib.hid (below_p 9 h.src (by omega)); rw [X2.out, T2.out] at C2; clear h))
    | (go_at_call 8; ((with_reducible refine C2.out.mono ?_); rintro e w3 ⟨rfl, h⟩; have H3 := Lib.hid (H2.out.trans h); have Z3 := Lib.hid (h.keep hne Z2.out); have C3 := Lib.hid (below_p 3 h.src (by omega)); rw [X3.out, T3.out] at C3; clear h))
    | (go_at_call 8; ((with_reducible refine C3.out.mono ?_); rintro e w4 ⟨rfl, h⟩; have H4 := Lib.hid (H3.out.trans h); have Z4 := Lib.hid (h.keep hne Z3.out); have C4 := Lib.hid (below_p 200 h.src (by omega)); rw [X4.out, T4.out] at C4; clear h))
    | (go_at_call 8; ((with_reducible refine C4.out.mono ?_); rintro e w5 ⟨rfl, h⟩; have H5 := Lib.hid (H4.out.trans h); have Z5 := Lib.hid (h.keep hne Z4.out); have C5 := Lib.hid (below_p 5 h.src (by omega)); rw [X5.out, T5.out] at C5; clear h))
    | (go_at_call 8; ((with_reducible refine C5.out.mono ?_); rintro e w6 ⟨rfl, h⟩; have H6 := Lib.hid (H5.out.trans h); have Z6 := Lib.hid (h.keep hne Z5.out); have C6 := Lib.hid (below_p 6 h.src (by omega)); rw [X6.out, T6.out] at C6; clear h))
    | (go_at_call 8; ((with_reducible refine C6.out.mono ?_); rintro e w7 ⟨rfl, h⟩; have H7 := Lib.hid (H6.out.trans h); have Z7 := Lib.hid (h.keep hne Z6.out); clear h))
    | (refine wpList_store_row rfl 49 (.tmp 2) (.tmp 25) rfl w.heap.size (cc (4 + x0) x1 (4 + x2) (2 + x3) (20 + x4) x5 (3 + x6)) rfl rfl 49 _ Z7.out info49 rfl (cc_one _ _ _ _ _ _ _) ?_)
    | fail)
  have hb7 : Below w.heap.size w w7 := B0.out.trans (H7.out.chg.below (fun x hx => by omega) (by simp; omega))
  refine bodyPost_ret (v := .agg (cc (4 + x0) x1 (4 + x2) (2 + x3) (20 + x4) x5 (3 + x6))) (res49 rfl _ _ w.heap.size _ rfl (setRow_heap _ _ _ _ _ _ Z7.out) rfl) rfl ⟨rfl, below_setRow hb7 (Nat.le_refl _) _⟩
theorem run_f49 (a b c d e f g : Int) (w : World) : Sem.run Try.prog (Instr.field 49 (Value.agg #[.int .i64 4, .int .i64 16, .int .i64 a, .int .i64 b, .int .i64 c, .int .i64 d, .int .i64 e, .int .i64 f, .int .i64 g]) 0) w = Result.ok (Value.int .i64 4) w := by
  kernel_rfl
theorem live_any (w : World) : Calls Try.prog 17 #[] w fun e w' => e = .returned (.bool true) ∧ Below w.heap.size w w' := by
  have hf49 := run_f49
  have N0 := Lib.hid (new_any 0 w)
  have hS0 : Src (w.alloc (.cells #[.int .u64 0] 63)) 63 w.heap.size 0 := heap_alloc_new w _
  have C0 := Lib.hid (next_p hS0)
  rw [show out 0 = 16294208416658607535 by decide +kernel] at C0
  have e1 : out (st 0) = 7960286522194355700 := by decide +kernel
  have HE1 := Lib.hid e1
  have B0 : Hid (Below w.heap.size w (w.alloc (.cells #[.int .u64 0] 63))) := Lib.hid (alb w _)
  have CF : Hid (∀ W, Calls Try.prog 21 #[.int .u64 0] W fun e w' => (∃ a b c d e' f g, e = .returned (.agg #[.int .i64 4, .int .i64 16, .int .i64 a, .int .i64 b, .int .i64 c, .int .i64 d, .int .i64 e', .int .i64 f, .int .i64 g])) ∧ Below W.heap.size W w') := Lib.hid (fun W => (config_p 0 W).mono fun e w' h => ⟨⟨_, _, _, _, _, _, _, h.1⟩, h.2⟩)
  clear hS0 e1
  go_enter Try.func17, Try.ntmps17
  go_wp2_with (first
    | (go_at_call 5; ((with_reducible refine N0.out.mono ?_); rintro e w1 ⟨rfl, rfl⟩))
    | (go_at_call 6; ((with_reducible refine C0.out.mono ?_); rintro e w2 ⟨rfl, h2⟩; have B2 := Lib.hid (B0.out.trans (h2.chg.below (fun x hx => by omega) (by simp))); have C1 := Lib.hid (next_p h2.src); rw [HE1.out] at C1; clear h2))
    | (go_at_call 6; ((with_reducible refine C1.out.mono ?_); rintro e w3 ⟨rfl, h3⟩; have B3 := Lib.hid (B2.out.trans (h3.chg.below (fun x hx => by omega) B2.out.size)); clear h3))
    | (go_at_call 21; ((with_reducible refine (CF.out _).mono ?_); rintro e w4 ⟨⟨_, _, _, _, _, _, _, rfl⟩, b4⟩; have B4 := Lib.hid (B3.out.trans (b4.mono B3.out.size)); clear b4))
    | fail)
  go_ret
  exact ⟨rfl, B4.out⟩
end Go.Proofs.Ytnchpfmpjpnciaa
