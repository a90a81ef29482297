/- Take at a place that was given back. -/
import Derived.Test.YtpihoegikojlaaaP2
namespace Go.Proofs.Ytpihoegikojlaaa
set_option linter.unusedSimpArgs false
open Go.RowKit Go.Maps
set_option linter.unusedVariables false
variable {F : Nat → Prop}

theorem drew_bel' (w : World) : Below w.heap.size w w.drew := (Below.refl _ _).drew
theorem own_row {w : World} {lo d : Nat} {G : Option Addr} {l : List Int} (h : Row w lo G l d) (hn : 0 < l.length) : ∃ q, G = some ⟨q, 0, none⟩ ∧ fpr G d = some q ∧ 0 < d ∧ w.ownsRow lo 3 1 (.slice G l.length d) l.length (l.map (Value.int .i64)) := by
  rcases h with ⟨h, _⟩ | ⟨h0, h⟩
  · subst h; simp at hn
  · obtain ⟨q, d', hG, _, _⟩ := h.form hn
    obtain ⟨rfl, rfl⟩ : G = some ⟨q, 0, none⟩ ∧ d = d' := by injection hG with a b c; exact ⟨a, c⟩
    have : ¬ d = 0 := by omega
    exact ⟨q, rfl, by simp [fpr, this], h0, h⟩
set_option maxRecDepth 100000 in
set_option maxHeartbeats 2000000 in
theorem ptake_back {w : World} {lo N : Nat} {A G : Option Addr} {c d : Nat} {b : AB} (v : Int) (l : List Int) (i : Nat) (h : PA w lo N A G c d b) (iv : IV b) (hfull : ¬ b.most ≤ (cnt b.tk 64 : Int)) (hbk : b.bk = l ++ [(i : Int) + 1]) (hi : i < b.top) :
    Calls Try.prog 14 #[.pointer (some ⟨N, 0, none⟩), .int .i64 v] w (WPost lo N A G d (vlS (tkS (bkS b l) (i + 1) true) (i + 1) v) (.tuple #[.int .i64 ((i : Int) + 1), .int .i64 0]) w) := by
  obtain ⟨m, hm⟩ : ∃ m, m = l.length := ⟨_, rfl⟩
  have hlen : b.bk.length = m + 1 := by rw [hbk, hm]; simp
  have hcn := iv.cn
  have m0 := iv.m0
  have m1 := iv.m1
  have m2 := iv.top60
  have hn : b.most - ((b.top : Int) - ((m + 1 : Nat) : Int)) ≠ 0 := by omega
  have h0 := h.c0
  have h1 := h.c1
  have h2 := h.c2
  rw [hlen] at h2
  have f1 := h.fz 1
  have f2 := h.fz 2
  have FZ := Lib.hid h.fz
  obtain ⟨pl, o1, hPL⟩ := h.pl
  have HPL := Lib.hid (hPL.put o1.1 hi true v)
  have HF := Lib.hid h.fin
  have hbN := h.hN.1
  have dd2 := h.d2
  have dd3 := h.d3
  have dd1 := h.d1
  obtain ⟨g, c', hA, hbg, hgl⟩ := o1.form (by omega)
  obtain ⟨rfl, rfl⟩ : A = some ⟨g, 0, none⟩ ∧ c = c' := by injection hA with a b c; exact ⟨a, c⟩
  obtain ⟨q, rfl, hfq, hdp, o2⟩ := own_row h.gs (by omega)
  rw [hlen, hbk, List.map_append] at o2
  have o2 : w.ownsRow lo 3 1 (.slice (some ⟨q, 0, none⟩) (m + 1) d) (m + 1) (l.map (Value.int .i64) ++ [.int .i64 ((i : Int) + 1)]) := o2
  have hgs : (l.map (Value.int .i64)).length = m := by rw [List.length_map, hm]
  have m3 : m ≤ 60 := by omega
  have e1 : (Value.slice (some ⟨g, 0, none⟩) b.top c).ownBlock ≠ some N := by rw [ob_eq]; exact dd1
  have e2 : (Value.slice (some ⟨q, 0, none⟩) (m + 1) d).ownBlock ≠ some N := by rw [ob_eq, Option.map_some]; rw [hfq] at dd2; exact dd2
  have e3 : ∀ x, (Value.slice (some ⟨g, 0, none⟩) b.top c).ownBlock = some x → (Value.slice (some ⟨q, 0, none⟩) (m + 1) d).ownBlock ≠ some x := by
    intro x hx
    rw [ob_eq] at hx
    have := dd3 x hx
    rw [hfq] at this
    rw [ob_eq]; exact this
  have hG := True.intro
  have HM := Lib.hid hm
  clear h hPL iv hcn hlen hfull hm
  have hpl := o1.1
  have hgN : g ≠ N := by simpa [Value.ownBlock] using e1
  have hqN : q ≠ N := by simpa [Value.ownBlock] using e2
  have hqg : q ≠ g := by simpa [Value.ownBlock] using e3 g (by simp [Value.ownBlock])
  have hgN' : N ≠ g := fun e => hgN e.symm
  have hqN' : N ≠ q := fun e => hqN e.symm
  have hqg' : g ≠ q := fun e => hqg e.symm
  obtain ⟨x, hx⟩ : ∃ x, pl[i * 2]? = some x := ⟨_, List.getElem?_eq_getElem (by omega)⟩
  obtain ⟨y, hy⟩ : ∃ y, pl[i * 2 + 1]? = some y := ⟨_, List.getElem?_eq_getElem (by omega)⟩
  have t0 : w.cell? ⟨g, i * 2, none⟩ = some x := by rw [o1.cellAt _ (by omega), hx]
  have t1 : w.cell? ⟨g, i * 2 + 1, none⟩ = some y := by rw [o1.cellAt _ (by omega), hy]
  have z0 := o1.frozenAt (i * 2)
  have z1 := o1.frozenAt (i * 2 + 1)
  have s0 : w.cell? ⟨q, m, none⟩ = some (.int .i64 ((i : Int) + 1)) := by rw [o2.cellAt _ (by omega)]; simp [← hgs]
  have hd : m + 1 ≤ d := by
    rcases o2.2 with ⟨h, _⟩ | ⟨g', cap', cur, h', _, _, hk, _⟩
    · cases h
    · cases h'; exact hk
  have hd1 : m ≤ d := by omega
  have hd2 : (m : Int) ≤ (d : Int) := by omega
  have hd3 : ¬ d = 0 := by omega
  have hd4 : ¬ 0 = d := by omega
  have C := Lib.hid (leftI_at N b.top (m + 1) c d b.most _ _ w h0 h1 h2 (by omega) (by omega) (by omega) (by omega))
  have hl1 := World.block_lt_of_cell? w _ h1
  have O1 := Lib.hid o1
  have O2 := Lib.hid o2
  have q0 : ¬ (b.most - ((b.top : Int) - ((m + 1 : Nat) : Int)) = 0) := hn
  have q1 : ((m + 1 : Nat) : Int) - 1 = (m : Int) := by omega
  have q2 : ¬ ((m : Int) < 0) := by omega
  have q3 : (i : Int) + 1 - 1 = (i : Int) := by omega
  clear o1 o2 e1 e2 e3 hA hG
  go_enter Try.func14, Try.ntmps14
  go_wp2_with fail
  refine C.out.mono ?_
  rintro e w1 ⟨rfl, hb⟩
  have hW : Below w.heap.size w (w1.alloc (.cells #[.int .i64 v, .bool true] 80)) := bel_alloc hb _
  have hNl : N < (w1.alloc (.cells #[.int .i64 v, .bool true] 80)).heap.size := Nat.lt_of_lt_of_le hl1 hW.size
  have k0 : (w1.alloc (.cells #[.int .i64 v, .bool true] 80)).cell? ⟨N, 0, none⟩ = some (.int .i64 b.most) := bel_later hW h0
  have k1 : (w1.alloc (.cells #[.int .i64 v, .bool true] 80)).cell? ⟨N, 1, none⟩ = some (.slice (some ⟨g, 0, none⟩) b.top c) := bel_later hW h1
  have k2 : (w1.alloc (.cells #[.int .i64 v, .bool true] 80)).cell? ⟨N, 2, none⟩ = some (.slice (some ⟨q, 0, none⟩) (m + 1) d) := bel_later hW h2
  have kf1 : (w1.alloc (.cells #[.int .i64 v, .bool true] 80)).frozen? ⟨N, 1, none⟩ = false := (bel_frozen hW hl1).trans f1
  have kf2 : (w1.alloc (.cells #[.int .i64 v, .bool true] 80)).frozen? ⟨N, 2, none⟩ = false := (bel_frozen hW hl1).trans f2
  have kt0 : (w1.alloc (.cells #[.int .i64 v, .bool true] 80)).cell? ⟨g, i * 2, none⟩ = some x := bel_later hW t0
  have kt1 : (w1.alloc (.cells #[.int .i64 v, .bool true] 80)).cell? ⟨g, i * 2 + 1, none⟩ = some y := bel_later hW t1
  have kz0 : (w1.alloc (.cells #[.int .i64 v, .bool true] 80)).frozen? ⟨g, i * 2, none⟩ = false := (bel_frozen hW hgl).trans z0
  have kz1 : (w1.alloc (.cells #[.int .i64 v, .bool true] 80)).frozen? ⟨g, i * 2 + 1, none⟩ = false := (bel_frozen hW hgl).trans z1
  have ks0 : (w1.alloc (.cells #[.int .i64 v, .bool true] 80)).cell? ⟨q, m, none⟩ = some (.int .i64 ((i : Int) + 1)) := bel_later hW s0
  have p0 : (w1.alloc (.cells #[.int .i64 v, .bool true] 80)).cell? ⟨w1.heap.size, 0, none⟩ = some (.int .i64 v) := by simp [go_sem]
  have p1 : (w1.alloc (.cells #[.int .i64 v, .bool true] 80)).cell? ⟨w1.heap.size, 1, none⟩ = some (.bool true) := by simp [go_sem]
  have P1 := Lib.hid (own_bel O1.out hW)
  have P2 := Lib.hid (own_bel O2.out hW)
  have hpN : w1.heap.size ≠ N := by have := hb.size; omega
  have hpg : w1.heap.size ≠ g := by have := hb.size; omega
  have hpN' : N ≠ w1.heap.size := fun e => hpN e.symm
  have hpg' : g ≠ w1.heap.size := fun e => hpg e.symm
  clear h0 h1 h2 f1 f2 t0 t1 z0 z1 s0
  go_wp2_with fail
  have hV : Chg (FA N (some ⟨g, 0, none⟩) (some ⟨q, 0, none⟩) d) w ((w1.alloc (.cells #[.int .i64 v, .bool true] 80)).setCell ⟨N, 2, none⟩ (.slice (some ⟨q, 0, none⟩) m d)) := (Chg.of_below hW).trans (Chg.set _ _ (.inl rfl)) (fun g hg => .inl hg)
  have vfz : Hid (∀ j, ((w1.alloc (.cells #[.int .i64 v, .bool true] 80)).setCell ⟨N, 2, none⟩ (.slice (some ⟨q, 0, none⟩) m d)).frozen? ⟨N, j, none⟩ = false) := Lib.hid (fun j => (World.frozen?_setCell _ _ _ _).trans ((bel_frozen hW hl1).trans (FZ.out j)))
  have v0 : ((w1.alloc (.cells #[.int .i64 v, .bool true] 80)).setCell ⟨N, 2, none⟩ (.slice (some ⟨q, 0, none⟩) m d)).cell? ⟨N, 0, none⟩ = some (.int .i64 b.most) := by simp [go_sem, k0]
  have v1 : ((w1.alloc (.cells #[.int .i64 v, .bool true] 80)).setCell ⟨N, 2, none⟩ (.slice (some ⟨q, 0, none⟩) m d)).cell? ⟨N, 1, none⟩ = some (.slice (some ⟨g, 0, none⟩) b.top c) := by simp [go_sem, k1]
  have v2 : ((w1.alloc (.cells #[.int .i64 v, .bool true] 80)).setCell ⟨N, 2, none⟩ (.slice (some ⟨q, 0, none⟩) m d)).cell? ⟨N, 2, none⟩ = some (.slice (some ⟨q, 0, none⟩) m d) := by simp [go_sem, k2]
  have vf1 : ((w1.alloc (.cells #[.int .i64 v, .bool true] 80)).setCell ⟨N, 2, none⟩ (.slice (some ⟨q, 0, none⟩) m d)).frozen? ⟨N, 1, none⟩ = false := by simp [go_sem, kf1]
  have vf2 : ((w1.alloc (.cells #[.int .i64 v, .bool true] 80)).setCell ⟨N, 2, none⟩ (.slice (some ⟨q, 0, none⟩) m d)).frozen? ⟨N, 2, none⟩ = false := by simp [go_sem, kf2]
  have vt0 : ((w1.alloc (.cells #[.int .i64 v, .bool true] 80)).setCell ⟨N, 2, none⟩ (.slice (some ⟨q, 0, none⟩) m d)).cell? ⟨g, i * 2, none⟩ = some x := by simp [go_sem, kt0, hgN, hgN']
  have vt1 : ((w1.alloc (.cells #[.int .i64 v, .bool true] 80)).setCell ⟨N, 2, none⟩ (.slice (some ⟨q, 0, none⟩) m d)).cell? ⟨g, i * 2 + 1, none⟩ = some y := by simp [go_sem, kt1, hgN, hgN']
  have vz0 : ((w1.alloc (.cells #[.int .i64 v, .bool true] 80)).setCell ⟨N, 2, none⟩ (.slice (some ⟨q, 0, none⟩) m d)).frozen? ⟨g, i * 2, none⟩ = false := by simp [go_sem, kz0, hgN, hgN']
  have vz1 : ((w1.alloc (.cells #[.int .i64 v, .bool true] 80)).setCell ⟨N, 2, none⟩ (.slice (some ⟨q, 0, none⟩) m d)).frozen? ⟨g, i * 2 + 1, none⟩ = false := by simp [go_sem, kz1, hgN, hgN']
  have vp0 : ((w1.alloc (.cells #[.int .i64 v, .bool true] 80)).setCell ⟨N, 2, none⟩ (.slice (some ⟨q, 0, none⟩) m d)).cell? ⟨w1.heap.size, 0, none⟩ = some (.int .i64 v) := by simp [go_sem, p0, hpN, hpN']
  have vp1 : ((w1.alloc (.cells #[.int .i64 v, .bool true] 80)).setCell ⟨N, 2, none⟩ (.slice (some ⟨q, 0, none⟩) m d)).cell? ⟨w1.heap.size, 1, none⟩ = some (.bool true) := by simp [go_sem, p1, hpN, hpN']
  have V1 := Lib.hid (own_set P1.out (b := N) (o := 2) (by simp [Value.ownBlock]; exact hgN) (.slice (some ⟨q, 0, none⟩) m d))
  have V2 := Lib.hid (ownsRow_pop (by simp [hgs]) (own_set P2.out (b := N) (o := 2) (by simp [Value.ownBlock]; exact hqN) (.slice (some ⟨q, 0, none⟩) m d)))
  clear k0 k1 k2 kf1 kf2 kt0 kt1 kz0 kz1 ks0 p0 p1
  generalize (w1.alloc (.cells #[.int .i64 v, .bool true] 80)).setCell ⟨N, 2, none⟩ (.slice (some ⟨q, 0, none⟩) m d) = V at *
  go_region
  all_goals
    go_wp2
  have X1 := (V1.out.stored (i * 2) (.int .i64 v)).1.stored (i * 2 + 1) (.bool true)
  have hX : Chg (FA N (some ⟨g, 0, none⟩) (some ⟨q, 0, none⟩) d) w ((V.setCell ⟨g, i * 2, none⟩ (.int .i64 v)).setCell ⟨g, i * 2 + 1, none⟩ (.bool true)) := (hV.trans (Chg.set _ _ (.inr (.inl rfl))) (fun g hg => .inl hg)).trans (Chg.set _ _ (.inr (.inl rfl))) (fun g hg => .inl hg)
  have hXd := hX.trans (Chg.of_below (D := FA N (some ⟨g, 0, none⟩) (some ⟨q, 0, none⟩) d) (drew_bel' _)) (fun g hg => .inl hg)
  have PF : PA ((V.setCell ⟨g, i * 2, none⟩ (.int .i64 v)).setCell ⟨g, i * 2 + 1, none⟩ (.bool true)) lo N (some ⟨g, 0, none⟩) (some ⟨q, 0, none⟩) c d (vlS (tkS (bkS b l) (i + 1) true) (i + 1) v) := by
    refine ⟨⟨hbN, Nat.lt_of_lt_of_le hl1 hX.size⟩, ?_, ?_, ?_, fun j => ?_, ⟨_, X1.1, HPL.out⟩, ?_, dd1, dd2, dd3, .inr (Nat.lt_of_le_of_lt (Nat.zero_le _) hi)⟩
    · show _ = some (Value.int .i64 b.most); simp [go_sem, v0, hgN, hgN']
    · show _ = some (Value.slice _ b.top c); simp [go_sem, v1, hgN, hgN']
    · show _ = some (Value.slice _ l.length d); rw [← HM.out]; simp [go_sem, v2, hgN, hgN']
    · rw [World.frozen?_setCell, World.frozen?_setCell]; exact vfz.out j
    · right
      refine ⟨hdp, ?_⟩
      show World.ownsRow _ lo 3 1 (.slice _ l.length d) l.length _
      rw [← HM.out]
      exact own_set (own_set V2.out (by simp [Value.ownBlock]; exact hqg) _) (by simp [Value.ownBlock]; exact hqg) _
  refine bodyPost_ret (v := .tuple #[.int .i64 ((i : Int) + 1), .int .i64 0]) (by simp [results, Try.results14, go_sem]) rfl ⟨some ⟨g, 0, none⟩, some ⟨q, 0, none⟩, c, d, rfl, PF.later (drew_bel' _), hXd, fun g hg => .inl hg⟩
end Go.Proofs.Ytpihoegikojlaaa
