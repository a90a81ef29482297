/- Arenas of numbers: Take at a place that was never taken. -/
import Derived.Test.YtpihoegikojlaaaA3
namespace Go.Proofs.Ytpihoegikojlaaa
set_option linter.unusedSimpArgs false
open Go.RowKit
set_option linter.unusedVariables false

theorem own_grown {w w' : World} {row : Option Nat} {base : Nat} {e : TypeId} {size n : Nat} {v : Value} {xs : List Value} (h : w.ownsRow base e size v n xs) (hg : w.grownBy w' row) (hne : ∀ b, v.ownBlock = some b → row ≠ some b) : w'.ownsRow base e size v n xs := by
  refine h.kept hg ?_
  cases e : v.ownBlock with
  | none => exact .inl rfl
  | some b => exact .inr (fun h => hne b e h.symm)

set_option maxRecDepth 100000 in
set_option maxHeartbeats 2000000 in
theorem takeI_fresh (N base n : Nat) (M v : Int) (pl : List Value) (w : World) (h : AI w base N M n pl 0 []) (hn : M - ((n : Int) - (0 : Nat)) ≠ 0) (hM : (n : Int) < M) :
    Calls Try.prog 14 #[.pointer (some ⟨N, 0, none⟩), .int .i64 v] w fun e w' => e = .returned (.tuple #[.int .i64 ((n : Int) + 1), .int .i64 0]) ∧ AI w' base N M (n + 1) (pl ++ [.int .i64 v, .bool true]) 0 [] ∧ Below base w w' := by
  obtain ⟨i0, hi0, hz0, hz1, hz2⟩ := info_parts info80
  obtain ⟨A, c, G, d, h0, h1, h2, f1, f2, o1, o2, e1, e2, e3, hbN, hbw, m0, m1, m2, m3⟩ := h
  have C := Lib.hid (leftI_at N n 0 c d M A G w h0 h1 h2 (by omega) (by omega) (by omega) (by omega))
  have O1 := Lib.hid o1
  have O2 := Lib.hid o2
  have E1 := Lib.hid e1
  have E2 := Lib.hid e2
  have E3 := Lib.hid e3
  have q0 : ¬ (M - ((n : Int) - (0 : Nat)) = 0) := hn
  have hl1 := World.block_lt_of_cell? w _ h1
  clear o1 o2 e1 e2 e3
  go_enter Try.func14, Try.ntmps14
  go_wp2_with fail
  refine C.out.mono ?_
  rintro e w1 ⟨rfl, hb⟩
  have g0 : w1.cell? ⟨N, 0, none⟩ = some (.int .i64 M) := bel_later hb h0
  have g1 : w1.cell? ⟨N, 1, none⟩ = some (.slice A n c) := bel_later hb h1
  have g2 : w1.cell? ⟨N, 2, none⟩ = some (.slice G 0 d) := bel_later hb h2
  have gf1 : w1.frozen? ⟨N, 1, none⟩ = false := (bel_frozen hb hl1).trans f1
  have gf2 : w1.frozen? ⟨N, 2, none⟩ = false := (bel_frozen hb hl1).trans f2
  have own1 := Lib.hid (own_bel O1.out hb)
  have giv1 := Lib.hid (own_bel O2.out hb)
  clear h0 h1 h2 f1 f2
  have hl2 : N < w1.heap.size := Nat.lt_of_lt_of_le hl1 hb.size
  have hW : Below w1.heap.size w1 (w1.alloc (.cells #[.int .i64 v, .bool true] 80)) := by go_grown
  have k0 : (w1.alloc (.cells #[.int .i64 v, .bool true] 80)).cell? ⟨N, 0, none⟩ = some (.int .i64 M) := bel_later hW g0
  have k1 : (w1.alloc (.cells #[.int .i64 v, .bool true] 80)).cell? ⟨N, 1, none⟩ = some (.slice A n c) := bel_later hW g1
  have k2 : (w1.alloc (.cells #[.int .i64 v, .bool true] 80)).cell? ⟨N, 2, none⟩ = some (.slice G 0 d) := bel_later hW g2
  have kf1 : (w1.alloc (.cells #[.int .i64 v, .bool true] 80)).frozen? ⟨N, 1, none⟩ = false := (bel_frozen hW hl2).trans gf1
  have kf2 : (w1.alloc (.cells #[.int .i64 v, .bool true] 80)).frozen? ⟨N, 2, none⟩ = false := (bel_frozen hW hl2).trans gf2
  have own2 := Lib.hid (own_bel own1.out hW)
  have giv2 := Lib.hid (own_bel giv1.out hW)
  have p0 : (w1.alloc (.cells #[.int .i64 v, .bool true] 80)).cell? ⟨w1.heap.size, 0, none⟩ = some (.int .i64 v) := by simp [go_sem]
  have p1 : (w1.alloc (.cells #[.int .i64 v, .bool true] 80)).cell? ⟨w1.heap.size, 1, none⟩ = some (.bool true) := by simp [go_sem]
  have hs1 : (w1.alloc (.cells #[.int .i64 v, .bool true] 80)).heap.size = w1.heap.size + 1 := by simp
  have hW0 : Below base w (w1.alloc (.cells #[.int .i64 v, .bool true] 80)) := (hb.mono hbw).trans (hW.mono (by have := hb.size; omega))
  clear g0 g1 g2 gf1 gf2
  go_wp2_with fail
  generalize w1.alloc (.cells #[.int .i64 v, .bool true] 80) = W at *
  have hNW : N < W.heap.size := by omega
  have hWY : Below W.heap.size W (W.drew.alloc (.cells #[.int .i64 v, .bool true] 80)) := by go_grown
  have y0 : (W.drew.alloc (.cells #[.int .i64 v, .bool true] 80)).cell? ⟨N, 0, none⟩ = some (.int .i64 M) := bel_later hWY k0
  have y1 : (W.drew.alloc (.cells #[.int .i64 v, .bool true] 80)).cell? ⟨N, 1, none⟩ = some (.slice A n c) := bel_later hWY k1
  have y2 : (W.drew.alloc (.cells #[.int .i64 v, .bool true] 80)).cell? ⟨N, 2, none⟩ = some (.slice G 0 d) := bel_later hWY k2
  have yf1 : (W.drew.alloc (.cells #[.int .i64 v, .bool true] 80)).frozen? ⟨N, 1, none⟩ = false := (bel_frozen hWY hNW).trans kf1
  have yf2 : (W.drew.alloc (.cells #[.int .i64 v, .bool true] 80)).frozen? ⟨N, 2, none⟩ = false := (bel_frozen hWY hNW).trans kf2
  have yp0 : (W.drew.alloc (.cells #[.int .i64 v, .bool true] 80)).cell? ⟨w1.heap.size, 0, none⟩ = some (.int .i64 v) := bel_later hWY p0
  have yp1 : (W.drew.alloc (.cells #[.int .i64 v, .bool true] 80)).cell? ⟨w1.heap.size, 1, none⟩ = some (.bool true) := bel_later hWY p1
  have own3 := Lib.hid (own_bel own2.out hWY)
  have giv3 := Lib.hid (own_bel giv2.out hWY)
  have hbW : base ≤ (W.drew.alloc (.cells #[.int .i64 v, .bool true] 80)).heap.size := Nat.le_trans hbw (by simp; have := hb.size; omega)
  have hNY : N < (W.drew.alloc (.cells #[.int .i64 v, .bool true] 80)).heap.size := by simp; omega
  have hBa : Below base w (W.drew.alloc (.cells #[.int .i64 v, .bool true] 80)) := hW0.trans (hWY.mono (by have := hb.size; omega))
  have hGl : Hid (∀ b, (Value.slice G 0 d).ownBlock = some b → b < W.heap.size) := Lib.hid (fun b hb => (giv2.out.lt b hb).2)
  have hnw : Hid (∀ j u, [Value.int .i64 v, Value.bool true][j]? = some u → (W.drew.alloc (.cells #[.int .i64 v, .bool true] 80)).cell? ((⟨W.heap.size, 0, none⟩ : Addr).add j) = some u) := Lib.hid (World.news_of_block (cs := #[.int .i64 v, .bool true]) (t := 80) (fr := (0, 0)) (heap_alloc_new W.drew _))
  go_region_law (refine step_append_lies _ rfl (.tmp 28) (.tmp 30) _ rfl base 80 i0 _ 2 16 Try.underlying59 hi0 hz0 hz1 hz2 rfl (by omega) (.slice A n c) n pl (by simp [Act.eval, Act.put]) own3.out ⟨W.heap.size, 0, none⟩ 1 1 [.int .i64 v, .bool true] (by simp [Act.eval, Act.put]) rfl hnw.out (by simp [Value.oneCell']) (by omega) (by simp only [maxLen]; omega) (by omega) hbW (W.heap.size + 1) (by simp) ?_; intro gg cap w2 hown2 hg2 hat2 hlt2; have d0 := (grown_far hg2 (o := 0) hNY E1.out).trans y0; have d1 := (grown_far hg2 (o := 1) hNY E1.out).trans y1; have d2 := (grown_far hg2 (o := 2) hNY E1.out).trans y2; have df1 := (grown_ffar hg2 (o := 1) hNY E1.out).trans yf1; have df2 := (grown_ffar hg2 (o := 2) hNY E1.out).trans yf2)
  all_goals
    have hgN : gg ≠ N := by
      rcases hat2 with e | e
      · intro e2; exact E1.out (by rw [e, e2])
      · omega
    have hgG : ∀ b, (Value.slice G 0 d).ownBlock = some b → gg ≠ b := by
      intro b eb
      rcases hat2 with e | e
      · intro e2; exact E3.out gg e (by rw [e2]; exact eb)
      · have := hGl.out b eb; omega
    have hgiv : w2.ownsRow base 3 1 (.slice G 0 d) 0 [] := own_grown giv3.out hg2 (fun b eb er => E3.out b er eb)
    have hBz : Below base w w2 := grown_bel hBa hg2 own3.out (Nat.le_refl _) hbW
    have u1 : (w2.setCell ⟨N, 1, none⟩ (.slice (some ⟨gg, 0, none⟩) (n + 1) cap)).cell? ⟨N, 1, none⟩ = some (.slice (some ⟨gg, 0, none⟩) (n + 1) cap) := by simp [go_sem, d1]
    go_wp2
    refine bodyPost_ret (v := .tuple #[.int .i64 ((n : Int) + 1), .int .i64 0]) (by simp [results, Try.results14, go_sem]) rfl ⟨rfl, ⟨some ⟨gg, 0, none⟩, cap, G, d, ?_, u1, ?_, ?_, ?_, ?_, ?_, ?_, E2.out, ?_, hbN, ?_, m0, m1, ?_, m3⟩, ?_⟩
    · simp [go_sem, d0]
    · simp [go_sem, d2]
    · simp [go_sem, df1]
    · simp [go_sem, df2]
    · exact own_set hown2 (by simp [Value.ownBlock]; exact hgN) _
    · exact own_set hgiv E2.out _
    · simp [Value.ownBlock]; exact hgN
    · intro b eb hG
      simp [Value.ownBlock] at eb
      exact hgG b hG eb
    · have := hBz.size; simp [World.setCell]; omega
    · omega
    · exact hBz.setCell (p := ⟨N, 1, none⟩) hbN _
end Go.Proofs.Ytpihoegikojlaaa
