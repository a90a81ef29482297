/- Arenas of numbers: Give. -/
import Derived.Test.YtpihoegikojlaaaA4
namespace Go.Proofs.Ytpihoegikojlaaa
set_option linter.unusedSimpArgs false
open Go.RowKit
set_option linter.unusedVariables false

set_option maxRecDepth 100000 in
set_option maxHeartbeats 2000000 in
theorem giveI (N base n m i : Nat) (M : Int) (pl gs : List Value) (w : World) (h : AI w base N M n pl m gs) (hi : i < n) (ht : pl[i * 2 + 1]? = some (.bool true)) (hm : m < 4096) :
    Calls Try.prog 21 #[.pointer (some ⟨N, 0, none⟩), .int .i64 ((i : Int) + 1)] w fun e w' => e = .returned (.int .i64 0) ∧ AI w' base N M n ((pl.set (i * 2) (.int .i64 0)).set (i * 2 + 1) (.bool false)) (m + 1) (gs ++ [.int .i64 ((i : Int) + 1)]) ∧ Below base w w' := by
  obtain ⟨i0, hi0, hz0, hz1, hz2⟩ := info_parts info3
  obtain ⟨A, c, G, d, h0, h1, h2, f1, f2, o1, o2, e1, e2, e3, hbN, hbw, m0, m1, m2, m3⟩ := h
  obtain ⟨g, c', hA, hbg, hgl⟩ := o1.form (by omega)
  obtain ⟨rfl, rfl⟩ : A = some ⟨g, 0, none⟩ ∧ c = c' := by injection hA with a b c; exact ⟨a, c⟩
  have hpl := o1.1
  obtain ⟨x, hx⟩ : ∃ x, pl[i * 2]? = some x := ⟨_, List.getElem?_eq_getElem (by omega)⟩
  have t0 : w.cell? ⟨g, i * 2, none⟩ = some x := by rw [o1.cellAt _ (by omega), hx]
  have t1 : w.cell? ⟨g, i * 2 + 1, none⟩ = some (.bool true) := by rw [o1.cellAt _ (by omega), ht]
  have z0 := o1.frozenAt (i * 2)
  have z1 := o1.frozenAt (i * 2 + 1)
  have hgN : g ≠ N := by simpa [Value.ownBlock] using e1
  have C := Lib.hid (atI_in N n c g i w h1 hi (by omega) t1)
  have hl1 := World.block_lt_of_cell? w _ h1
  have O1 := Lib.hid ((o1.stored (i * 2) (.int .i64 0)).1.stored (i * 2 + 1) (.bool false)).1
  have hGg : (Value.slice G m d).ownBlock ≠ some g := e3 g (by simp [Value.ownBlock])
  have O2 := Lib.hid (own_set (own_set o2 hGg (o := i * 2) (.int .i64 0)) hGg (o := i * 2 + 1) (.bool false))
  have hS0 : Below base w ((w.setCell ⟨g, i * 2, none⟩ (.int .i64 0)).setCell ⟨g, i * 2 + 1, none⟩ (.bool false)) := ((Below.refl base w).setCell (p := ⟨g, i * 2, none⟩) hbg _).setCell (p := ⟨g, i * 2 + 1, none⟩) hbg _
  have hgN' : N ≠ g := fun e => hgN e.symm
  have k0 : ((w.setCell ⟨g, i * 2, none⟩ (.int .i64 0)).setCell ⟨g, i * 2 + 1, none⟩ (.bool false)).cell? ⟨N, 0, none⟩ = some (.int .i64 M) := by simp [go_sem, h0, hgN, hgN']
  have k1 : ((w.setCell ⟨g, i * 2, none⟩ (.int .i64 0)).setCell ⟨g, i * 2 + 1, none⟩ (.bool false)).cell? ⟨N, 1, none⟩ = some (.slice (some ⟨g, 0, none⟩) n c) := by simp [go_sem, h1, hgN, hgN']
  have k2 : ((w.setCell ⟨g, i * 2, none⟩ (.int .i64 0)).setCell ⟨g, i * 2 + 1, none⟩ (.bool false)).cell? ⟨N, 2, none⟩ = some (.slice G m d) := by simp [go_sem, h2, hgN, hgN']
  have kf1 : ((w.setCell ⟨g, i * 2, none⟩ (.int .i64 0)).setCell ⟨g, i * 2 + 1, none⟩ (.bool false)).frozen? ⟨N, 1, none⟩ = false := by simp [go_sem, f1, hgN, hgN']
  have kf2 : ((w.setCell ⟨g, i * 2, none⟩ (.int .i64 0)).setCell ⟨g, i * 2 + 1, none⟩ (.bool false)).frozen? ⟨N, 2, none⟩ = false := by simp [go_sem, f2, hgN, hgN']
  have hs : ((w.setCell ⟨g, i * 2, none⟩ (.int .i64 0)).setCell ⟨g, i * 2 + 1, none⟩ (.bool false)).heap.size = w.heap.size := by simp
  have E2 := Lib.hid e2
  have E3 := Lib.hid e3
  have hW : Below ((w.setCell ⟨g, i * 2, none⟩ (.int .i64 0)).setCell ⟨g, i * 2 + 1, none⟩ (.bool false)).heap.size ((w.setCell ⟨g, i * 2, none⟩ (.int .i64 0)).setCell ⟨g, i * 2 + 1, none⟩ (.bool false)) (((w.setCell ⟨g, i * 2, none⟩ (.int .i64 0)).setCell ⟨g, i * 2 + 1, none⟩ (.bool false)).alloc (.cells #[.int .i64 ((i : Int) + 1)] 3)) := by go_grown
  have y0 : (((w.setCell ⟨g, i * 2, none⟩ (.int .i64 0)).setCell ⟨g, i * 2 + 1, none⟩ (.bool false)).alloc (.cells #[.int .i64 ((i : Int) + 1)] 3)).cell? ⟨N, 0, none⟩ = some (.int .i64 M) := bel_later hW k0
  have y1 : (((w.setCell ⟨g, i * 2, none⟩ (.int .i64 0)).setCell ⟨g, i * 2 + 1, none⟩ (.bool false)).alloc (.cells #[.int .i64 ((i : Int) + 1)] 3)).cell? ⟨N, 1, none⟩ = some (.slice (some ⟨g, 0, none⟩) n c) := bel_later hW k1
  have y2 : (((w.setCell ⟨g, i * 2, none⟩ (.int .i64 0)).setCell ⟨g, i * 2 + 1, none⟩ (.bool false)).alloc (.cells #[.int .i64 ((i : Int) + 1)] 3)).cell? ⟨N, 2, none⟩ = some (.slice G m d) := bel_later hW k2
  have yf1 : (((w.setCell ⟨g, i * 2, none⟩ (.int .i64 0)).setCell ⟨g, i * 2 + 1, none⟩ (.bool false)).alloc (.cells #[.int .i64 ((i : Int) + 1)] 3)).frozen? ⟨N, 1, none⟩ = false := (bel_frozen hW (by rw [hs]; exact hl1)).trans kf1
  have yf2 : (((w.setCell ⟨g, i * 2, none⟩ (.int .i64 0)).setCell ⟨g, i * 2 + 1, none⟩ (.bool false)).alloc (.cells #[.int .i64 ((i : Int) + 1)] 3)).frozen? ⟨N, 2, none⟩ = false := (bel_frozen hW (by rw [hs]; exact hl1)).trans kf2
  have P1 := Lib.hid (own_bel O1.out hW)
  have P2 := Lib.hid (own_bel O2.out hW)
  have hBa : Below base w (((w.setCell ⟨g, i * 2, none⟩ (.int .i64 0)).setCell ⟨g, i * 2 + 1, none⟩ (.bool false)).alloc (.cells #[.int .i64 ((i : Int) + 1)] 3)) := hS0.trans (hW.mono (by rw [hs]; exact hbw))
  have hbW : base ≤ (((w.setCell ⟨g, i * 2, none⟩ (.int .i64 0)).setCell ⟨g, i * 2 + 1, none⟩ (.bool false)).alloc (.cells #[.int .i64 ((i : Int) + 1)] 3)).heap.size := Nat.le_trans hbw hBa.size
  have hNW : N < (((w.setCell ⟨g, i * 2, none⟩ (.int .i64 0)).setCell ⟨g, i * 2 + 1, none⟩ (.bool false)).alloc (.cells #[.int .i64 ((i : Int) + 1)] 3)).heap.size := Nat.lt_of_lt_of_le hl1 hBa.size
  have hWs : (((w.setCell ⟨g, i * 2, none⟩ (.int .i64 0)).setCell ⟨g, i * 2 + 1, none⟩ (.bool false)).alloc (.cells #[.int .i64 ((i : Int) + 1)] 3)).heap.size = w.heap.size + 1 := by simp
  have hnw : Hid (∀ j u, [Value.int .i64 ((i : Int) + 1)][j]? = some u → (((w.setCell ⟨g, i * 2, none⟩ (.int .i64 0)).setCell ⟨g, i * 2 + 1, none⟩ (.bool false)).alloc (.cells #[.int .i64 ((i : Int) + 1)] 3)).cell? ((⟨w.heap.size, 0, none⟩ : Addr).add j) = some u) := Lib.hid (World.news_of_block (cs := #[.int .i64 ((i : Int) + 1)]) (t := 3) (fr := (0, 0)) (by simpa using heap_alloc_new ((w.setCell ⟨g, i * 2, none⟩ (.int .i64 0)).setCell ⟨g, i * 2 + 1, none⟩ (.bool false)) _))
  clear o1 o2 e1 e2 e3 hA
  go_enter Try.func21, Try.ntmps21
  go_wp2_with fail
  refine C.out.mono ?_
  rintro e w1 ⟨rfl, rfl⟩
  go_wp2_with (at_builtin; refine wpList_append_lies _ rfl (.tmp 20) (.tmp 22) _ rfl base 3 i0 _ 1 8 Try.underlying31 hi0 hz0 hz1 hz2 rfl (by omega) (.slice G m d) m gs rfl P2.out ⟨w.heap.size, 0, none⟩ 1 1 [.int .i64 ((i : Int) + 1)] rfl rfl hnw.out (by simp [Value.oneCell']) (by omega) (by simp only [maxLen]; omega) (by omega) hbW (w.heap.size + 1) hWs ?_; intro gg cap w2 hown2 hg2 hat2 hlt2; have d0 := (grown_far hg2 (o := 0) hNW E2.out).trans y0; have d1 := (grown_far hg2 (o := 1) hNW E2.out).trans y1; have d2 := (grown_far hg2 (o := 2) hNW E2.out).trans y2; have df1 := (grown_ffar hg2 (o := 1) hNW E2.out).trans yf1; have df2 := (grown_ffar hg2 (o := 2) hNW E2.out).trans yf2)
  have hggN : gg ≠ N := by
    rcases hat2 with e | e
    · intro e2; exact E2.out (by rw [e, e2])
    · omega
  have hggg : gg ≠ g := by
    rcases hat2 with e | e
    · intro e2; exact hGg (by rw [e, e2])
    · omega
  have hpls : w2.ownsRow base 80 2 (.slice (some ⟨g, 0, none⟩) n c) n ((pl.set (i * 2) (.int .i64 0)).set (i * 2 + 1) (.bool false)) := own_grown P1.out hg2 (fun b eb er => by
    simp [Value.ownBlock] at eb
    subst eb
    exact hGg er)
  have hBz : Below base w w2 := grown_bel hBa hg2 P2.out (Nat.le_refl _) hbW
  have u2 : (w2.setCell ⟨N, 2, none⟩ (.slice (some ⟨gg, 0, none⟩) (m + 1) cap)).cell? ⟨N, 2, none⟩ = some (.slice (some ⟨gg, 0, none⟩) (m + 1) cap) := by simp [go_sem, d2]
  go_ret
  refine ⟨rfl, ⟨some ⟨g, 0, none⟩, c, some ⟨gg, 0, none⟩, cap, ?_, ?_, u2, ?_, ?_, ?_, ?_, ?_, ?_, ?_, hbN, ?_, m0, m1, m2, ?_⟩, ?_⟩
  · simp [go_sem, d0]
  · simp [go_sem, d1]
  · simp [go_sem, df1]
  · simp [go_sem, df2]
  · exact own_set hpls (by simp [Value.ownBlock]; exact hgN) _
  · exact own_set hown2 (by simp [Value.ownBlock]; exact hggN) _
  · simp [Value.ownBlock]; exact hgN
  · simp [Value.ownBlock]; exact hggN
  · intro b eb
    simp [Value.ownBlock] at eb ⊢
    omega
  · have := hBz.size; simp [World.setCell]; omega
  · omega
  · exact hBz.setCell (p := ⟨N, 2, none⟩) hbN _
end Go.Proofs.Ytpihoegikojlaaa
