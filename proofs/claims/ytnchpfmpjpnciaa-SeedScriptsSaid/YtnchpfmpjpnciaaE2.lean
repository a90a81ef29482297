/- Picks, and the document's sizes of a machine. -/
import Derived.Deep.AppendLies
import Derived.Test.YtnchpfmpjpnciaaE1
import Derived.Test.YtnchpfmpjpnciaaA8
namespace Go.Proofs.Ytnchpfmpjpnciaa
set_option linter.unusedSimpArgs false
open Go.RowKit Go.Maps Go.Shelf
set_option linter.unusedVariables false
theorem info3z : (Try.prog.info? 3).map (fun i => (i.zero, i.size, i.bytes)) = some (some (.int .i64 0), 1, 8) := by kernel_rfl
def cl0 (n m : Int) : Int := if n < 0 then 0 else if m < n then m else n
theorem cl0_range (n m : Int) (h : 0 ≤ m) : 0 ≤ cl0 n m ∧ cl0 n m ≤ m := by
  unfold cl0; split
  · omega
  · split <;> omega
theorem cl0_1 {n m : Int} (h : n < 0) : cl0 n m = 0 := by unfold cl0; rw [if_pos h]
theorem cl0_2 {n m : Int} (h : 0 ≤ n) (h2 : m < n) : cl0 n m = m := by unfold cl0; rw [if_neg (by omega), if_pos h2]
theorem cl0_3 {n m : Int} (h : 0 ≤ n) (h2 : n ≤ m) : cl0 n m = n := by unfold cl0; rw [if_neg (by omega), if_neg (by omega)]
theorem clip0_p (n m : Int) (w : World) (h : 0 ≤ m) :
    Calls Try.prog 24 #[.int .i64 n, .int .i64 0, .int .i64 m] w fun e w' => e = .returned (.int .i64 (cl0 n m)) ∧ w = w' := by
  by_cases h1 : n < 0
  · rw [cl0_1 h1]
    have h2 : ¬ m < n := by omega
    go_enter Try.func24, Try.ntmps24
    go_wp2
    all_goals
      go_ret
      refine ⟨?_, rfl⟩
      refine congrArg Ending.returned ?_
      show Value.int IntKind.i64 _ = Value.int IntKind.i64 _
      refine congrArg _ ?_
      omega
  · by_cases h2 : m < n
    · rw [cl0_2 (by omega) h2]
      go_enter Try.func24, Try.ntmps24
      go_wp2
      all_goals
        go_ret
        refine ⟨?_, rfl⟩
        refine congrArg Ending.returned ?_
        show Value.int IntKind.i64 _ = Value.int IntKind.i64 _
        refine congrArg _ ?_
        omega
    · rw [cl0_3 (by omega) (by omega)]
      go_enter Try.func24, Try.ntmps24
      go_wp2
      all_goals
        go_ret
        refine ⟨?_, rfl⟩
        refine congrArg Ending.returned ?_
        show Value.int IntKind.i64 _ = Value.int IntKind.i64 _
        refine congrArg _ ?_
        omega
def npk (n : Int) : Nat := (cl0 n 10000).toNat
theorem npk_cast (n : Int) : (npk n : Int) = cl0 n 10000 ∧ npk n ≤ 10000 := by
  have := cl0_range n 10000 (by omega)
  unfold npk; omega
theorem npk_lt (n : Int) (k : Nat) : k < npk n ↔ (k : Int) < n ∧ (k : Int) < 10000 := by
  have h := npk_cast n
  unfold cl0 at h
  split at h
  · omega
  · split at h <;> omega
/-- What drawing picks leaves. -/
def PkPost (t g : Nat) (S s : Int) (np : Nat) (w : World) (e : Ending) (w' : World) : Prop := ∃ A c, e = .returned (.slice A np c) ∧ Eff t g (pst S s np) w w' ∧ RdV w' w.heap.size A (prow S s np)

set_option maxHeartbeats 2000000 in
set_option maxRecDepth 4000 in
theorem picks_p {w : World} {g : Nat} {S : Int} (s n : Int) (h : Src w 63 g S) (hs : 1 ≤ s ∧ s ≤ 64) :
    Calls Try.prog 29 #[.pointer (some ⟨g, 0, none⟩), .int .i64 s, .int .i64 n] w (PkPost 63 g S s (npk n) w) := by
  have hG := h.lt
  have hc := npk_cast n
  have hlt := fun k => npk_lt n k
  have HLT := Lib.hid hlt
  have CL := Lib.hid (clip0_p n 10000 w (by omega))
  rw [← hc.1] at CL
  obtain ⟨np, hnp⟩ : ∃ x, x = npk n := ⟨_, rfl⟩
  rw [← hnp] at CL hc HLT ⊢
  have hnp1 := hc.2
  have s1 := hs.1
  have s2 := hs.2
  have s3 : ¬ s < 1 := by omega
  have H := Lib.hid h
  obtain ⟨i0, hi0, hz0, hz1, hz2⟩ := info_parts info3z
  clear hc hnp hlt h
  go_enter Try.func29, Try.ntmps29
  go_wp2_with (first
    | (go_at_call 24; ((with_reducible refine CL.out.mono ?_); rintro e w1 ⟨rfl, rfl⟩))
    | fail)
  go_loopw [7, 17] (fun lv iv wr => ∃ (k : Nat) (A : Option Addr) (c : Nat), k ≤ np ∧ iv = .int .i64 k ∧ lv = .slice A k c ∧ wr.ownsRow w.heap.size 3 1 (.slice A k c) k (prow S s k) ∧ Eff 63 g (pst S s k) w wr) (fun _ i _ => np - (intOf i).toNat)
  case atStart => exact ⟨0, none, 0, by omega, rfl, rfl, World.ownsRow_nil _ _ _ _, ⟨H.out, Chg.refl _ _⟩⟩
  case round =>
    obtain ⟨k, A, c, hk, rfl, rfl, ho, he⟩ := hrel
    have HO := Lib.hid ho
    have HE := Lib.hid he
    clear ho he
    by_cases h8 : k < np
    · have hx := bl_range (pst S s k) s s1
      have BL := Lib.hid (below_p s HE.out.1 (by omega))
      have HP : Hid (prow S s (k + 1) = prow S s k ++ [.int .i64 (bl (pst S s k) s + 1)] ∧ pst S s (k + 1) = bs (pst S s k) s) := Lib.hid ⟨rfl, rfl⟩
      generalize bl (pst S s k) s = x at *
      have hx1 := hx.1
      have hx2 := hx.2
      have hk1 : (k : Int) < (np : Int) := by omega
      go_wp2_with (first
        | (go_at_call 8; ((with_reducible refine BL.out.mono ?_); rintro e w3 ⟨rfl, h3⟩; have H3 := Lib.hid (HE.out.trans h3); have OW3 := Lib.hid (own_bel (own_chg HO.out h3.2 hG) (alb w3 (.cells #[.int .i64 (x + 1)] 3))); have NW := Lib.hid (World.news_of_block (cs := #[.int .i64 (x + 1)]) (t := 3) (fr := (0, 0)) (heap_alloc_new w3 _)); have N3 : Hid (w.heap.size ≤ w3.heap.size) := Lib.hid (Nat.le_trans HE.out.size h3.size); clear h3))
        | (at_builtin; refine wpList_append_lies _ rfl (.tmp 19) (.tmp 24) _ rfl w.heap.size 3 i0 _ 1 8 Try.underlying51 hi0 hz0 hz1 hz2 rfl (by omega) (.slice A k c) k (prow S s k) rfl OW3.out ⟨w3.heap.size, 0, none⟩ 1 1 [.int .i64 (x + 1)] rfl rfl NW.out (by simp [Value.oneCell']) (by omega) (by simp only [maxLen]; omega) (by omega) (by have := N3.out; simp; omega) (w3.heap.size + 1) (by simp) ?_; intro gg cap w4 hown4 hg4 hat4 hlt4; have HOW4 := Lib.hid hown4; have HGR4 := Lib.hid hg4; have ONE : Hid (∀ x, (Value.slice A k c).ownBlock = some x → w.heap.size ≤ x) := Lib.hid (fun x hx => (OW3.out.lt x hx).1); clear hown4 hg4 hat4 hlt4)
        | fail)
      refine ⟨⟨k + 1, _, _, by omega, by simp, rfl, ?_, ?_⟩, by simp [intOf]; omega⟩
      · rw [HP.out.1]; exact HOW4.out
      · rw [HP.out.2]; exact (H3.out.later (alb w3 (.cells #[.int .i64 (x + 1)] 3))).grown HGR4.out (fun y hy => ONE.out y hy) hG
    · have e8 : k = np := by omega
      have hnot := fun hh => h8 ((HLT.out k).2 hh)
      have HNOT := Lib.hid hnot
      clear hnot
      subst e8
      obtain ⟨A', c', hv, hrd⟩ := RdV.of_own HO.out
      obtain ⟨rfl, rfl⟩ : A = A' ∧ c = c' := by injection hv with h1 h2 h3; exact ⟨h1, h3⟩
      have HRD := Lib.hid hrd
      clear hrd hv
      go_wp2_with fail
      go_ret
      exact ⟨A, c, rfl, HE.out, HRD.out⟩

set_option maxHeartbeats 2000000 in
set_option maxRecDepth 4000 in
theorem picks_d {w : World} {g : Nat} {S : Int} (s n : Int) (h : Src w 27 g S) (hs : 1 ≤ s ∧ s ≤ 64) :
    Calls Try.prog 31 #[.pointer (some ⟨g, 0, none⟩), .int .i64 s, .int .i64 n] w (PkPost 27 g S s (npk n) w) := by
  have hG := h.lt
  have hc := npk_cast n
  have hlt := fun k => npk_lt n k
  have HLT := Lib.hid hlt
  have CL := Lib.hid (clip0_p n 10000 w (by omega))
  rw [← hc.1] at CL
  obtain ⟨np, hnp⟩ : ∃ x, x = npk n := ⟨_, rfl⟩
  rw [← hnp] at CL hc HLT ⊢
  have hnp1 := hc.2
  have s1 := hs.1
  have s2 := hs.2
  have s3 : ¬ s < 1 := by omega
  have H := Lib.hid h
  obtain ⟨i0, hi0, hz0, hz1, hz2⟩ := info_parts info3z
  clear hc hnp hlt h
  go_enter Try.func31, Try.ntmps31
  go_wp2_with fail
  go_loopw [7, 8] (fun lv iv wr => ∃ (k : Nat) (A : Option Addr) (c : Nat), k ≤ np ∧ iv = .int .i64 k ∧ lv = .slice A k c ∧ wr.ownsRow w.heap.size 3 1 (.slice A k c) k (prow S s k) ∧ Eff 27 g (pst S s k) w wr) (fun _ i _ => np - (intOf i).toNat)
  case atStart => exact ⟨0, some ⟨w.heap.size, 0, none⟩, 0, by omega, rfl, rfl, ⟨rfl, .inr ⟨w.heap.size, 0, #[], rfl, Nat.le_refl _, heap_alloc_new w _, by omega, by simp [maxLen], rfl, rfl⟩⟩, Eff.later ⟨H.out, Chg.refl _ _⟩ (alb _ _)⟩
  case round =>
    obtain ⟨k, A, c, hk, rfl, rfl, ho, he⟩ := hrel
    have HO := Lib.hid ho
    have HE := Lib.hid he
    clear ho he
    by_cases h8 : k < np
    · have hx := bl_range (pst S s k) s s1
      have BL := Lib.hid (below_d s HE.out.1 (by omega))
      have HP : Hid (prow S s (k + 1) = prow S s k ++ [.int .i64 (bl (pst S s k) s + 1)] ∧ pst S s (k + 1) = bs (pst S s k) s) := Lib.hid ⟨rfl, rfl⟩
      generalize bl (pst S s k) s = x at *
      have hx1 := hx.1
      have hx2 := hx.2
      have hk1 := ((HLT.out k).1 h8).1
      have hk3 := ((HLT.out k).1 h8).2
      go_wp2_with (first
        | (go_at_call 9; ((with_reducible refine BL.out.mono ?_); rintro e w3 ⟨rfl, h3⟩; have H3 := Lib.hid (HE.out.trans h3); have OW3 := Lib.hid (own_bel (own_chg HO.out h3.2 hG) (alb w3 (.cells #[.int .i64 (x + 1)] 3))); have NW := Lib.hid (World.news_of_block (cs := #[.int .i64 (x + 1)]) (t := 3) (fr := (0, 0)) (heap_alloc_new w3 _)); have N3 : Hid (w.heap.size ≤ w3.heap.size) := Lib.hid (Nat.le_trans HE.out.size h3.size); clear h3))
        | (at_builtin; refine wpList_append_lies _ rfl (.tmp 23) (.tmp 28) _ rfl w.heap.size 3 i0 _ 1 8 Try.underlying51 hi0 hz0 hz1 hz2 rfl (by omega) (.slice A k c) k (prow S s k) rfl OW3.out ⟨w3.heap.size, 0, none⟩ 1 1 [.int .i64 (x + 1)] rfl rfl NW.out (by simp [Value.oneCell']) (by omega) (by simp only [maxLen]; omega) (by omega) (by have := N3.out; simp; omega) (w3.heap.size + 1) (by simp) ?_; intro gg cap w4 hown4 hg4 hat4 hlt4; have HOW4 := Lib.hid hown4; have HGR4 := Lib.hid hg4; have ONE : Hid (∀ x, (Value.slice A k c).ownBlock = some x → w.heap.size ≤ x) := Lib.hid (fun x hx => (OW3.out.lt x hx).1); clear hown4 hg4 hat4 hlt4)
        | fail)
      refine ⟨⟨k + 1, _, _, by omega, by simp, rfl, ?_, ?_⟩, by simp [intOf]; omega⟩
      · rw [HP.out.1]; exact HOW4.out
      · rw [HP.out.2]; exact (H3.out.later (alb w3 (.cells #[.int .i64 (x + 1)] 3))).grown HGR4.out (fun y hy => ONE.out y hy) hG
    · have e8 : k = np := by omega
      have hnot := fun hh => h8 ((HLT.out k).2 hh)
      have HNOT := Lib.hid hnot
      clear hnot
      subst e8
      obtain ⟨A', c', hv, hrd⟩ := RdV.of_own HO.out
      obtain ⟨rfl, rfl⟩ : A = A' ∧ c = c' := by injection hv with h1 h2 h3; exact ⟨h1, h3⟩
      have HRD := Lib.hid hrd
      clear hrd hv
      by_cases h9 : (k : Int) < n
      · have h10 : ¬ (k : Int) < 10000 := fun hh => HNOT.out ⟨h9, hh⟩
        go_wp2_with fail
        go_ret
        exact ⟨A, c, rfl, HE.out, HRD.out⟩
      · go_wp2_with fail
        go_ret
        exact ⟨A, c, rfl, HE.out, HRD.out⟩
set_option maxHeartbeats 2000000 in
set_option maxRecDepth 4000 in
theorem config_d (S : Int) (w : World) : Calls Try.prog 30 #[.int .u64 S] w fun e w' => e = .returned (.agg (cfA S)) ∧ Below w.heap.size w w' := by
  have hal := run_zc
  obtain ⟨s0, hs0⟩ : ∃ x, x = S := ⟨_, rfl⟩
  rw [← hs0]
  obtain ⟨x0, hx0⟩ : ∃ x, x = bl s0 5 := ⟨_, rfl⟩
  obtain ⟨s1, hs1⟩ : ∃ x, x = bs s0 5 := ⟨_, rfl⟩
  have hr0 := bl_range s0 5 (by omega)
  rw [← hx0] at hr0
  obtain ⟨x1, hx1⟩ : ∃ x, x = bl s1 100 := ⟨_, rfl⟩
  obtain ⟨s2, hs2⟩ : ∃ x, x = bs s1 100 := ⟨_, rfl⟩
  have hr1 := bl_range s1 100 (by omega)
  rw [← hx1] at hr1
  obtain ⟨x2, hx2⟩ : ∃ x, x = bl s2 9 := ⟨_, rfl⟩
  obtain ⟨s3, hs3⟩ : ∃ x, x = bs s2 9 := ⟨_, rfl⟩
  have hr2 := bl_range s2 9 (by omega)
  rw [← hx2] at hr2
  obtain ⟨x3, hx3⟩ : ∃ x, x = bl s3 3 := ⟨_, rfl⟩
  obtain ⟨s4, hs4⟩ : ∃ x, x = bs s3 3 := ⟨_, rfl⟩
  have hr3 := bl_range s3 3 (by omega)
  rw [← hx3] at hr3
  obtain ⟨x4, hx4⟩ : ∃ x, x = bl s4 200 := ⟨_, rfl⟩
  obtain ⟨s5, hs5⟩ : ∃ x, x = bs s4 200 := ⟨_, rfl⟩
  have hr4 := bl_range s4 200 (by omega)
  rw [← hx4] at hr4
  obtain ⟨x5, hx5⟩ : ∃ x, x = bl s5 5 := ⟨_, rfl⟩
  obtain ⟨s6, hs6⟩ : ∃ x, x = bs s5 5 := ⟨_, rfl⟩
  have hr5 := bl_range s5 5 (by omega)
  rw [← hx5] at hr5
  obtain ⟨x6, hx6⟩ : ∃ x, x = bl s6 6 := ⟨_, rfl⟩
  obtain ⟨s7, hs7⟩ : ∃ x, x = bs s6 6 := ⟨_, rfl⟩
  have hr6 := bl_range s6 6 (by omega)
  rw [← hx6] at hr6
  have hres : cfA s0 = cc (4 + x0) x1 (4 + x2) (2 + x3) (20 + x4) x5 (3 + x6) := by
    rw [hx0, hx1, hx2, hx3, hx4, hx5, hx6, hs6, hs5, hs4, hs3, hs2, hs1]; rfl
  rw [hres]
  have X0 := Lib.hid hx0.symm
  have T0 := Lib.hid hs1.symm
  have X1 := Lib.hid hx1.symm
  have T1 := Lib.hid hs2.symm
  have X2 := Lib.hid hx2.symm
  have T2 := Lib.hid hs3.symm
  have X3 := Lib.hid hx3.symm
  have T3 := Lib.hid hs4.symm
  have X4 := Lib.hid hx4.symm
  have T4 := Lib.hid hs5.symm
  have X5 := Lib.hid hx5.symm
  have T5 := Lib.hid hs6.symm
  have X6 := Lib.hid hx6.symm
  have T6 := Lib.hid hs7.symm
  clear hx0 hs1 hx1 hs2 hx2 hs3 hx3 hs4 hx4 hs5 hx5 hs6 hx6 hs7 hs0
  have Z0 := Lib.hid (keep_bel (alb (w.alloc (.cells #[.int .i64 0, .int .i64 0, .int .i64 0, .int .i64 0, .int .i64 0, .int .i64 0, .int .i64 0, .int .i64 0, .int .i64 0] 49)) (.cells #[.int .u64 s0] 27)) (heap_alloc_new w (.cells #[.int .i64 0, .int .i64 0, .int .i64 0, .int .i64 0, .int .i64 0, .int .i64 0, .int .i64 0, .int .i64 0, .int .i64 0] 49)))
  have hS0 : Src ((w.alloc (.cells #[.int .i64 0, .int .i64 0, .int .i64 0, .int .i64 0, .int .i64 0, .int .i64 0, .int .i64 0, .int .i64 0, .int .i64 0] 49)).alloc (.cells #[.int .u64 s0] 27)) 27 (w.heap.size + 1) s0 := by
    have h := heap_alloc_new (w.alloc (.cells #[.int .i64 0, .int .i64 0, .int .i64 0, .int .i64 0, .int .i64 0, .int .i64 0, .int .i64 0, .int .i64 0, .int .i64 0] 49)) (.cells #[.int .u64 s0] 27)
    rw [World.size_alloc] at h; exact h
  have C0 := Lib.hid (below_d 5 hS0 (by omega))
  rw [X0.out, T0.out] at C0
  have H0 : Hid (Eff 27 (w.heap.size + 1) s0 ((w.alloc (.cells #[.int .i64 0, .int .i64 0, .int .i64 0, .int .i64 0, .int .i64 0, .int .i64 0, .int .i64 0, .int .i64 0, .int .i64 0] 49)).alloc (.cells #[.int .u64 s0] 27)) ((w.alloc (.cells #[.int .i64 0, .int .i64 0, .int .i64 0, .int .i64 0, .int .i64 0, .int .i64 0, .int .i64 0, .int .i64 0, .int .i64 0] 49)).alloc (.cells #[.int .u64 s0] 27))) := Lib.hid ⟨hS0, Chg.refl _ _⟩
  have hne : ¬ w.heap.size = w.heap.size + 1 := by omega
  have B0 : Hid (Below w.heap.size w ((w.alloc (.cells #[.int .i64 0, .int .i64 0, .int .i64 0, .int .i64 0, .int .i64 0, .int .i64 0, .int .i64 0, .int .i64 0, .int .i64 0] 49)).alloc (.cells #[.int .u64 s0] 27))) := Lib.hid (by go_grown)
  clear hres hS0
  go_enter Try.func30, Try.ntmps30
  go_wp2_with (first
    | (go_at_call 9; ((with_reducible refine C0.out.mono ?_); rintro e w1 ⟨rfl, h⟩; have H1 := Lib.hid (H0.out.trans h); have Z1 := Lib.hid (h.keep hne Z0.out); have C1 := Lib.hid (below_d 100 h.src (by omega)); rw [X1.out, T1.out] at C1; clear h))
    | (go_at_call 9; ((with_reducible refine C1.out.mono ?_); rintro e w2 ⟨rfl, h⟩; have H2 := Lib.hid (H1.out.trans h); have Z2 := Lib.hid (h.keep hne Z1.out); have C2 := Lib.hid (below_d 9 h.src (by omega)); rw [X2.out, T2.out] at C2; clear h))
    | (go_at_call 9; ((with_reducible refine C2.out.mono ?_); rintro e w3 ⟨rfl, h⟩; have H3 := Lib.hid (H2.out.trans h); have Z3 := Lib.hid (h.keep hne Z2.out); have C3 := Lib.hid (below_d 3 h.src (by omega)); rw [X3.out, T3.out] at C3; clear h))
    | (go_at_call 9; ((with_reducible refine C3.out.mono ?_); rintro e w4 ⟨rfl, h⟩; have H4 := Lib.hid (H3.out.trans h); have Z4 := Lib.hid (h.keep hne Z3.out); have C4 := Lib.hid (below_d 200 h.src (by omega)); rw [X4.out, T4.out] at C4; clear h))
    | (go_at_call 9; ((with_reducible refine C4.out.mono ?_); rintro e w5 ⟨rfl, h⟩; have H5 := Lib.hid (H4.out.trans h); have Z5 := Lib.hid (h.keep hne Z4.out); have C5 := Lib.hid (below_d 5 h.src (by omega)); rw [X5.out, T5.out] at C5; clear h))
    | (go_at_call 9; ((with_reducible refine C5.out.mono ?_); rintro e w6 ⟨rfl, h⟩; have H6 := Lib.hid (H5.out.trans h); have Z6 := Lib.hid (h.keep hne Z5.out); have C6 := Lib.hid (below_d 6 h.src (by omega)); rw [X6.out, T6.out] at C6; clear h))
    | (go_at_call 9; ((with_reducible refine C6.out.mono ?_); rintro e w7 ⟨rfl, h⟩; have H7 := Lib.hid (H6.out.trans h); have Z7 := Lib.hid (h.keep hne Z6.out); clear h))
    | (refine wpList_store_row rfl 49 (.tmp 2) (.tmp 40) rfl w.heap.size (cc (4 + x0) x1 (4 + x2) (2 + x3) (20 + x4) x5 (3 + x6)) rfl rfl 49 _ Z7.out info49 rfl (cc_one _ _ _ _ _ _ _) ?_)
    | fail)
  have hb7 : Below w.heap.size w w7 := B0.out.trans (H7.out.chg.below (fun x hx => by omega) (by simp; omega))
  refine bodyPost_ret (v := .agg (cc (4 + x0) x1 (4 + x2) (2 + x3) (20 + x4) x5 (3 + x6))) (res49 rfl _ _ w.heap.size _ rfl (setRow_heap _ _ _ _ _ _ Z7.out) rfl) rfl ⟨rfl, below_setRow hb7 (Nat.le_refl _) _⟩
end Go.Proofs.Ytnchpfmpjpnciaa
