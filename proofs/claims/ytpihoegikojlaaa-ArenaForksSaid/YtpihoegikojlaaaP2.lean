/- Take at a place that was never taken. -/
import Derived.Test.YtpihoegikojlaaaP1
import Derived.Test.YtpihoegikojlaaaB3
namespace Go.Proofs.Ytpihoegikojlaaa
set_option linter.unusedSimpArgs false
open Go.RowKit Go.Maps
set_option linter.unusedVariables false
variable {F : Nat → Prop}

/-- What a call that writes an arena leaves. -/
def WPost (lo N : Nat) (A G : Option Addr) (d : Nat) (b' : AB) (v : Value) (w : World) (e : Ending) (w' : World) : Prop :=
  ∃ A' G' c' d', e = .returned v ∧ PA w' lo N A' G' c' d' b' ∧ Chg (FA N A G d) w w' ∧ ∀ g, FA N A' G' d' g → FA N A G d g ∨ w.heap.size ≤ g
theorem PL.fresh {b : AB} {pl : List Value} (h : PL b pl) (hl : pl.length = b.top * 2) (v : Int) : PL (vlS (tkS (topS b (b.top + 1)) (b.top + 1) true) (b.top + 1) v) (pl ++ [.int .i64 v, .bool true]) := by
  intro i hi
  have hi' : i < b.top + 1 := hi
  by_cases h1 : i < b.top
  · obtain ⟨e1, e2⟩ := h i h1
    have n1 : ¬ i + 1 = b.top + 1 := by omega
    refine ⟨?_, ?_⟩
    · rw [List.getElem?_append_left (by omega), e1]; simp [vlS, tkS, topS, n1]; omega
    · rw [List.getElem?_append_left (by omega), e2]; simp [vlS, tkS, topS, n1]; omega
  · obtain rfl : i = b.top := by omega
    refine ⟨?_, ?_⟩
    · rw [List.getElem?_append_right (by omega), hl, Nat.sub_self]; simp [vlS]
    · rw [List.getElem?_append_right (by omega), hl]
      have : b.top * 2 + 1 - b.top * 2 = 1 := by omega
      rw [this]; simp [vlS, tkS]
theorem PL.put {b : AB} {pl : List Value} (h : PL b pl) (hl : pl.length = b.top * 2) {k : Nat} (hk : k < b.top) (f : Bool) (v : Int) : PL (vlS (tkS b (k + 1) f) (k + 1) v) ((pl.set (k * 2) (.int .i64 v)).set (k * 2 + 1) (.bool f)) := by
  intro i hi
  have hi' : i < b.top := hi
  obtain ⟨e1, e2⟩ := h i hi'
  by_cases h1 : i = k
  · subst h1
    refine ⟨?_, ?_⟩
    · rw [List.getElem?_set_ne (by omega), List.getElem?_set_self (by omega)]; simp [vlS]
    · rw [List.getElem?_set_self (by simp; omega)]; simp [vlS, tkS]
  · have n1 : ¬ i + 1 = k + 1 := by omega
    refine ⟨?_, ?_⟩
    · rw [List.getElem?_set_ne (by omega), List.getElem?_set_ne (by omega), e1]; simp [vlS, tkS, n1]; omega
    · rw [List.getElem?_set_ne (by omega), List.getElem?_set_ne (by omega), e2]; simp [vlS, tkS, n1]; omega
theorem PL.val {b : AB} {pl : List Value} (h : PL b pl) (hl : pl.length = b.top * 2) {k : Nat} (hk : k < b.top) (v : Int) : PL (vlS b (k + 1) v) (pl.set (k * 2) (.int .i64 v)) := by
  intro i hi
  have hi' : i < b.top := hi
  obtain ⟨e1, e2⟩ := h i hi'
  by_cases h1 : i = k
  · subst h1
    refine ⟨?_, ?_⟩
    · rw [List.getElem?_set_self (by omega)]; simp [vlS]
    · rw [List.getElem?_set_ne (by omega), e2]; simp [vlS]
  · have n1 : ¬ i + 1 = k + 1 := by omega
    refine ⟨?_, ?_⟩
    · rw [List.getElem?_set_ne (by omega), e1]; simp [vlS, n1]; omega
    · rw [List.getElem?_set_ne (by omega), e2]; simp [vlS, n1]

set_option maxRecDepth 100000 in
set_option maxHeartbeats 2000000 in
theorem ptake_fresh {w : World} {lo N : Nat} {A G : Option Addr} {c d : Nat} {b : AB} (v : Int) (h : PA w lo N A G c d b) (iv : IV b) (hfull : ¬ b.most ≤ (cnt b.tk 64 : Int)) (hbk : b.bk = []) (hbw : lo ≤ w.heap.size) :
    Calls Try.prog 14 #[.pointer (some ⟨N, 0, none⟩), .int .i64 v] w (WPost lo N A G d (vlS (tkS (topS b (b.top + 1)) (b.top + 1) true) (b.top + 1) v) (.tuple #[.int .i64 ((b.top : Int) + 1), .int .i64 0]) w) := by
  obtain ⟨i0, hi0, hz0, hz1, hz2⟩ := info_parts info80
  have hcn := iv.cn
  rw [hbk] at hcn
  have hcn2 : cnt b.tk 64 = b.top := hcn
  rw [hcn2] at hfull
  have hn : b.most - ((b.top : Int) - (0 : Nat)) ≠ 0 := by omega
  have m0 := iv.m0
  have m1 := iv.m1
  have m2 := iv.top60
  have h0 := h.c0
  have h1 := h.c1
  have h2 : w.cell? ⟨N, 2, none⟩ = some (.slice G 0 d) := by have := h.c2; rw [hbk] at this; exact this
  have f1 := h.fz 1
  have f2 := h.fz 2
  obtain ⟨pl, o1, hPL⟩ := h.pl
  have hpl := o1.1
  have HPL := Lib.hid (hPL.fresh hpl v)
  have GS := Lib.hid h.gs
  have HF := Lib.hid h.fin
  have FZ := Lib.hid h.fz
  have hbN := h.hN.1
  have e1 : (Value.slice A b.top c).ownBlock ≠ some N := by rw [ob_eq]; exact h.d1
  have E2 := Lib.hid h.d2
  have E3 := Lib.hid h.d3
  have C := Lib.hid (leftI_at N b.top 0 c d b.most A G w h0 h1 h2 (by omega) (by omega) (by omega) (by omega))
  have O1 := Lib.hid o1
  have E1 := Lib.hid e1
  have q0 : ¬ (b.most - ((b.top : Int) - (0 : Nat)) = 0) := hn
  have hl1 := World.block_lt_of_cell? w _ h1
  have HBK := Lib.hid hbk
  clear o1 e1 h hPL iv hcn hcn2 hbk hpl
  go_enter Try.func14, Try.ntmps14
  go_wp2_with fail
  refine C.out.mono ?_
  rintro e w1 ⟨rfl, hb⟩
  have g0 : w1.cell? ⟨N, 0, none⟩ = some (.int .i64 b.most) := bel_later hb h0
  have g1 : w1.cell? ⟨N, 1, none⟩ = some (.slice A b.top c) := bel_later hb h1
  have g2 : w1.cell? ⟨N, 2, none⟩ = some (.slice G 0 d) := bel_later hb h2
  have gf1 : w1.frozen? ⟨N, 1, none⟩ = false := (bel_frozen hb hl1).trans f1
  have gf2 : w1.frozen? ⟨N, 2, none⟩ = false := (bel_frozen hb hl1).trans f2
  have own1 := Lib.hid (own_bel O1.out hb)
  clear h0 h1 h2 f1 f2
  have hl2 : N < w1.heap.size := Nat.lt_of_lt_of_le hl1 hb.size
  have hW : Below w1.heap.size w1 (w1.alloc (.cells #[.int .i64 v, .bool true] 80)) := by go_grown
  have k0 : (w1.alloc (.cells #[.int .i64 v, .bool true] 80)).cell? ⟨N, 0, none⟩ = some (.int .i64 b.most) := bel_later hW g0
  have k1 : (w1.alloc (.cells #[.int .i64 v, .bool true] 80)).cell? ⟨N, 1, none⟩ = some (.slice A b.top c) := bel_later hW g1
  have k2 : (w1.alloc (.cells #[.int .i64 v, .bool true] 80)).cell? ⟨N, 2, none⟩ = some (.slice G 0 d) := bel_later hW g2
  have kf1 : (w1.alloc (.cells #[.int .i64 v, .bool true] 80)).frozen? ⟨N, 1, none⟩ = false := (bel_frozen hW hl2).trans gf1
  have kf2 : (w1.alloc (.cells #[.int .i64 v, .bool true] 80)).frozen? ⟨N, 2, none⟩ = false := (bel_frozen hW hl2).trans gf2
  have own2 := Lib.hid (own_bel own1.out hW)
  have p0 : (w1.alloc (.cells #[.int .i64 v, .bool true] 80)).cell? ⟨w1.heap.size, 0, none⟩ = some (.int .i64 v) := by simp [go_sem]
  have p1 : (w1.alloc (.cells #[.int .i64 v, .bool true] 80)).cell? ⟨w1.heap.size, 1, none⟩ = some (.bool true) := by simp [go_sem]
  have hs1 : (w1.alloc (.cells #[.int .i64 v, .bool true] 80)).heap.size = w1.heap.size + 1 := by simp
  have hW0 : Below w.heap.size w (w1.alloc (.cells #[.int .i64 v, .bool true] 80)) := hb.trans (hW.mono hb.size)
  clear g0 g1 g2 gf1 gf2
  go_wp2_with fail
  generalize w1.alloc (.cells #[.int .i64 v, .bool true] 80) = W at *
  have hNW : N < W.heap.size := by omega
  have hWY : Below W.heap.size W (W.drew.alloc (.cells #[.int .i64 v, .bool true] 80)) := by go_grown
  have y0 : (W.drew.alloc (.cells #[.int .i64 v, .bool true] 80)).cell? ⟨N, 0, none⟩ = some (.int .i64 b.most) := bel_later hWY k0
  have y1 : (W.drew.alloc (.cells #[.int .i64 v, .bool true] 80)).cell? ⟨N, 1, none⟩ = some (.slice A b.top c) := bel_later hWY k1
  have y2 : (W.drew.alloc (.cells #[.int .i64 v, .bool true] 80)).cell? ⟨N, 2, none⟩ = some (.slice G 0 d) := bel_later hWY k2
  have yf1 : (W.drew.alloc (.cells #[.int .i64 v, .bool true] 80)).frozen? ⟨N, 1, none⟩ = false := (bel_frozen hWY hNW).trans kf1
  have yf2 : (W.drew.alloc (.cells #[.int .i64 v, .bool true] 80)).frozen? ⟨N, 2, none⟩ = false := (bel_frozen hWY hNW).trans kf2
  have yp0 : (W.drew.alloc (.cells #[.int .i64 v, .bool true] 80)).cell? ⟨w1.heap.size, 0, none⟩ = some (.int .i64 v) := bel_later hWY p0
  have yp1 : (W.drew.alloc (.cells #[.int .i64 v, .bool true] 80)).cell? ⟨w1.heap.size, 1, none⟩ = some (.bool true) := bel_later hWY p1
  have own3 := Lib.hid (own_bel own2.out hWY)
  have hbW : lo ≤ (W.drew.alloc (.cells #[.int .i64 v, .bool true] 80)).heap.size := Nat.le_trans hbw (by simp; have := hb.size; omega)
  have hNY : N < (W.drew.alloc (.cells #[.int .i64 v, .bool true] 80)).heap.size := by simp; omega
  have hBa : Below w.heap.size w (W.drew.alloc (.cells #[.int .i64 v, .bool true] 80)) := hW0.trans (hWY.mono (by have := hb.size; omega))
  have hnw : Hid (∀ j u, [Value.int .i64 v, Value.bool true][j]? = some u → (W.drew.alloc (.cells #[.int .i64 v, .bool true] 80)).cell? ((⟨W.heap.size, 0, none⟩ : Addr).add j) = some u) := Lib.hid (World.news_of_block (cs := #[.int .i64 v, .bool true]) (t := 80) (fr := (0, 0)) (heap_alloc_new W.drew _))
  go_region_law (refine step_append_lies _ rfl (.tmp 28) (.tmp 30) _ rfl lo 80 i0 _ 2 16 Try.underlying59 hi0 hz0 hz1 hz2 rfl (by omega) (.slice A b.top c) b.top pl (by simp [Act.eval, Act.put]) own3.out ⟨W.heap.size, 0, none⟩ 1 1 [.int .i64 v, .bool true] (by simp [Act.eval, Act.put]) rfl hnw.out (by simp [Value.oneCell']) (by omega) (by simp only [maxLen]; omega) (by omega) hbW (W.heap.size + 1) (by simp) ?_; intro gg cap w2 hown2 hg2 hat2 hlt2; have d0 := (grown_far hg2 (o := 0) hNY E1.out).trans y0; have d1 := (grown_far hg2 (o := 1) hNY E1.out).trans y1; have d2 := (grown_far hg2 (o := 2) hNY E1.out).trans y2; have df1 := (grown_ffar hg2 (o := 1) hNY E1.out).trans yf1; have df2 := (grown_ffar hg2 (o := 2) hNY E1.out).trans yf2)
  all_goals
    have hgN : gg ≠ N := by
      rcases hat2 with e | e
      · intro e2; exact E1.out (by rw [e, e2])
      · omega
    have hgw : A.map (·.block) = some gg ∨ w.heap.size ≤ gg := by
      rcases hat2 with e | e
      · left; rw [← ob_eq A b.top c]; exact e
      · right; have := hBa.size; have := hb.size; omega
    have hrN : ∀ g, (Value.slice A b.top c).ownBlock = some g → FA N A G d g := fun g e => .inr (.inl (by rw [← ob_eq A b.top c]; exact e))
    have hBz : Chg (FA N A G d) w w2 := (Chg.of_below hBa).trans (Chg.of_grown hg2 hrN) (fun g hg => .inl hg)
    have hBf : Chg (FA N A G d) w (w2.setCell ⟨N, 1, none⟩ (.slice (some ⟨gg, 0, none⟩) (b.top + 1) cap)) := hBz.trans (Chg.set w2 _ (.inl rfl)) (fun g hg => .inl hg)
    have hg1 : Row w2 lo G b.bk d := (GS.out.bel hBa).kept hg2 (by
      rcases hf : fpr G d with _ | x
      · exact .inl rfl
      · right; intro e; rw [ob_eq] at e; exact E3.out x e.symm hf)
    have hgf : Row (w2.setCell ⟨N, 1, none⟩ (.slice (some ⟨gg, 0, none⟩) (b.top + 1) cap)) lo G b.bk d := hg1.kept grown_set (.inr E2.out)
    have hd3 : ∀ g, (some (⟨gg, 0, none⟩ : Addr)).map (·.block) = some g → fpr G d ≠ some g := by
      intro g hg hf
      simp at hg
      subst hg
      rcases hgw with e | e
      · exact E3.out gg e hf
      · have := HF.out gg (.inr (.inr hf)); omega
    have u1 : (w2.setCell ⟨N, 1, none⟩ (.slice (some ⟨gg, 0, none⟩) (b.top + 1) cap)).cell? ⟨N, 1, none⟩ = some (.slice (some ⟨gg, 0, none⟩) (b.top + 1) cap) := by simp [go_sem, d1]
    have u0 : (w2.setCell ⟨N, 1, none⟩ (.slice (some ⟨gg, 0, none⟩) (b.top + 1) cap)).cell? ⟨N, 0, none⟩ = some (.int .i64 b.most) := by simp [go_sem, d0]
    have u2 : (w2.setCell ⟨N, 1, none⟩ (.slice (some ⟨gg, 0, none⟩) (b.top + 1) cap)).cell? ⟨N, 2, none⟩ = some (.slice G 0 d) := by simp [go_sem, d2]
    have uf : ∀ j, (w2.setCell ⟨N, 1, none⟩ (.slice (some ⟨gg, 0, none⟩) (b.top + 1) cap)).frozen? ⟨N, j, none⟩ = false := fun j => (World.frozen?_setCell _ _ _ _).trans ((grown_ffar hg2 (o := j) hNY E1.out).trans ((bel_frozen hBa hl1).trans (FZ.out j)))
    go_wp2
    refine bodyPost_ret (v := .tuple #[.int .i64 ((b.top : Int) + 1), .int .i64 0]) (by simp [results, Try.results14, go_sem]) rfl ⟨some ⟨gg, 0, none⟩, G, cap, d, rfl, ⟨⟨hbN, by have := hBf.size; omega⟩, u0, u1, ?_, uf, ⟨_, own_set hown2 (by simp [Value.ownBlock]; exact hgN) _, HPL.out⟩, hgf, by simp; exact hgN, E2.out, hd3, .inr (Nat.succ_pos _)⟩, hBf, ?_⟩
    · rw [u2]; show _ = some (Value.slice G b.bk.length d); rw [HBK.out]; rfl
    · rintro g (e | e | e)
      · exact .inl (.inl e)
      · simp at e; subst e
        rcases hgw with x | x
        · exact .inl (.inr (.inl x))
        · exact .inr x
      · exact .inl (.inr (.inr e))
end Go.Proofs.Ytpihoegikojlaaa
