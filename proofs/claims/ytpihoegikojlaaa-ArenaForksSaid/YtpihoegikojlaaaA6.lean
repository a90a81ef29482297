/- Arenas of numbers: Take at a place that was given back. -/
import Derived.Test.YtpihoegikojlaaaA5
namespace Go.Proofs.Ytpihoegikojlaaa
set_option linter.unusedSimpArgs false
open Go.RowKit
set_option linter.unusedVariables false

theorem AI_drew {w : World} {base N n m : Nat} {M : Int} {pl gs : List Value} (h : AI w base N M n pl m gs) : AI w.drew base N M n pl m gs := by
  obtain ⟨A, c, G, d, h0, h1, h2, f1, f2, o1, o2, e1, e2, e3, hbN, hbw, m0, m1, m2, m3⟩ := h
  exact ⟨A, c, G, d, h0, h1, h2, f1, f2, o1.drew, o2.drew, e1, e2, e3, hbN, hbw, m0, m1, m2, m3⟩

set_option maxRecDepth 100000 in
set_option maxHeartbeats 2000000 in
theorem takeI_back (N base n m i : Nat) (M v : Int) (pl gs : List Value) (w : World) (h : AI w base N M n pl (m + 1) (gs ++ [.int .i64 ((i : Int) + 1)])) (hgs : gs.length = m) (hi : i < n) (hn : M - ((n : Int) - ((m + 1 : Nat) : Int)) ≠ 0) :
    Calls Try.prog 14 #[.pointer (some ⟨N, 0, none⟩), .int .i64 v] w fun e w' => e = .returned (.tuple #[.int .i64 ((i : Int) + 1), .int .i64 0]) ∧ AI w' base N M n ((pl.set (i * 2) (.int .i64 v)).set (i * 2 + 1) (.bool true)) m gs ∧ Below base w w' := by
  obtain ⟨A, c, G, d, h0, h1, h2, f1, f2, o1, o2, e1, e2, e3, hbN, hbw, m0, m1, m2, m3⟩ := h
  obtain ⟨g, c', hA, hbg, hgl⟩ := o1.form (by omega)
  obtain ⟨rfl, rfl⟩ : A = some ⟨g, 0, none⟩ ∧ c = c' := by injection hA with a b c; exact ⟨a, c⟩
  obtain ⟨q, d', hG, hbq, hql⟩ := o2.form (by omega)
  obtain ⟨rfl, rfl⟩ : G = some ⟨q, 0, none⟩ ∧ d = d' := by injection hG with a b c; exact ⟨a, c⟩
  have hpl := o1.1
  have hgN : g ≠ N := by simpa [Value.ownBlock] using e1
  have hqN : q ≠ N := by simpa [Value.ownBlock] using e2
  have hqg : q ≠ g := by simpa [Value.ownBlock] using e3 g (by simp [Value.ownBlock])
  have hgN' : N ≠ g := fun e => hgN e.symm
  have hqN' : N ≠ q := fun e => hqN e.symm
  have hqg' : g ≠ q := fun e => hqg e.symm
  obtain ⟨x, hx⟩ : ∃ x, pl[i * 2]? = some x := ⟨_, List.getElem?_eq_getElem (by omega)⟩
  obtain ⟨y, hy⟩ : ∃ y, pl[i * 2 + 1]? = some y := ⟨_, List.getElem?_eq_getElem (by omega)⟩
  have t0 : w.cell? ⟨g, i * 2, none⟩ = some x := by rw [o1.cellAt _ (by omega), hx]
  have t1 : w.cell? ⟨g, i * 2 + 1, none⟩ = some y := by rw [o1.cellAt _ (by omega), hy]
  have z0 := o1.frozenAt (i * 2)
  have z1 := o1.frozenAt (i * 2 + 1)
  have s0 : w.cell? ⟨q, m, none⟩ = some (.int .i64 ((i : Int) + 1)) := by rw [o2.cellAt _ (by omega)]; simp [← hgs]
  have hd : m + 1 ≤ d := by
    rcases o2.2 with ⟨h, _⟩ | ⟨g', cap', cur, h', _, _, hk, _⟩
    · cases h
    · cases h'; exact hk
  have hd1 : m ≤ d := by omega
  have hd2 : (m : Int) ≤ (d : Int) := by omega
  have hd3 : ¬ d = 0 := by omega
  have hd4 : ¬ 0 = d := by omega
  have C := Lib.hid (leftI_at N n (m + 1) c d M _ _ w h0 h1 h2 (by omega) (by omega) (by omega) (by omega))
  have hl1 := World.block_lt_of_cell? w _ h1
  have O1 := Lib.hid o1
  have O2 := Lib.hid o2
  have q0 : ¬ (M - ((n : Int) - ((m + 1 : Nat) : Int)) = 0) := hn
  have q1 : ((m + 1 : Nat) : Int) - 1 = (m : Int) := by omega
  have q2 : ¬ ((m : Int) < 0) := by omega
  have q3 : (i : Int) + 1 - 1 = (i : Int) := by omega
  clear o1 o2 e1 e2 e3 hA hG
  go_enter Try.func14, Try.ntmps14
  go_wp2_with fail
  refine C.out.mono ?_
  rintro e w1 ⟨rfl, hb⟩
  have hW : Below w.heap.size w (w1.alloc (.cells #[.int .i64 v, .bool true] 80)) := bel_alloc hb _
  have hNl : N < (w1.alloc (.cells #[.int .i64 v, .bool true] 80)).heap.size := Nat.lt_of_lt_of_le hl1 hW.size
  have k0 : (w1.alloc (.cells #[.int .i64 v, .bool true] 80)).cell? ⟨N, 0, none⟩ = some (.int .i64 M) := bel_later hW h0
  have k1 : (w1.alloc (.cells #[.int .i64 v, .bool true] 80)).cell? ⟨N, 1, none⟩ = some (.slice (some ⟨g, 0, none⟩) n c) := bel_later hW h1
  have k2 : (w1.alloc (.cells #[.int .i64 v, .bool true] 80)).cell? ⟨N, 2, none⟩ = some (.slice (some ⟨q, 0, none⟩) (m + 1) d) := bel_later hW h2
  have kf1 : (w1.alloc (.cells #[.int .i64 v, .bool true] 80)).frozen? ⟨N, 1, none⟩ = false := (bel_frozen hW hl1).trans f1
  have kf2 : (w1.alloc (.cells #[.int .i64 v, .bool true] 80)).frozen? ⟨N, 2, none⟩ = false := (bel_frozen hW hl1).trans f2
  have kt0 : (w1.alloc (.cells #[.int .i64 v, .bool true] 80)).cell? ⟨g, i * 2, none⟩ = some x := bel_later hW t0
  have kt1 : (w1.alloc (.cells #[.int .i64 v, .bool true] 80)).cell? ⟨g, i * 2 + 1, none⟩ = some y := bel_later hW t1
  have kz0 : (w1.alloc (.cells #[.int .i64 v, .bool true] 80)).frozen? ⟨g, i * 2, none⟩ = false := (bel_frozen hW hgl).trans z0
  have kz1 : (w1.alloc (.cells #[.int .i64 v, .bool true] 80)).frozen? ⟨g, i * 2 + 1, none⟩ = false := (bel_frozen hW hgl).trans z1
  have ks0 : (w1.alloc (.cells #[.int .i64 v, .bool true] 80)).cell? ⟨q, m, none⟩ = some (.int .i64 ((i : Int) + 1)) := bel_later hW s0
  have p0 : (w1.alloc (.cells #[.int .i64 v, .bool true] 80)).cell? ⟨w1.heap.size, 0, none⟩ = some (.int .i64 v) := by simp [go_sem]
  have p1 : (w1.alloc (.cells #[.int .i64 v, .bool true] 80)).cell? ⟨w1.heap.size, 1, none⟩ = some (.bool true) := by simp [go_sem]
  have P1 := Lib.hid (own_bel O1.out hW)
  have P2 := Lib.hid (own_bel O2.out hW)
  have hpN : w1.heap.size ≠ N := by have := hb.size; omega
  have hpg : w1.heap.size ≠ g := by have := hb.size; omega
  have hpN' : N ≠ w1.heap.size := fun e => hpN e.symm
  have hpg' : g ≠ w1.heap.size := fun e => hpg e.symm
  clear h0 h1 h2 f1 f2 t0 t1 z0 z1 s0
  go_wp2_with fail
  have hV : Below base w ((w1.alloc (.cells #[.int .i64 v, .bool true] 80)).setCell ⟨N, 2, none⟩ (.slice (some ⟨q, 0, none⟩) m d)) := (hW.mono hbw).setCell (p := ⟨N, 2, none⟩) hbN _
  have v0 : ((w1.alloc (.cells #[.int .i64 v, .bool true] 80)).setCell ⟨N, 2, none⟩ (.slice (some ⟨q, 0, none⟩) m d)).cell? ⟨N, 0, none⟩ = some (.int .i64 M) := by simp [go_sem, k0]
  have v1 : ((w1.alloc (.cells #[.int .i64 v, .bool true] 80)).setCell ⟨N, 2, none⟩ (.slice (some ⟨q, 0, none⟩) m d)).cell? ⟨N, 1, none⟩ = some (.slice (some ⟨g, 0, none⟩) n c) := by simp [go_sem, k1]
  have v2 : ((w1.alloc (.cells #[.int .i64 v, .bool true] 80)).setCell ⟨N, 2, none⟩ (.slice (some ⟨q, 0, none⟩) m d)).cell? ⟨N, 2, none⟩ = some (.slice (some ⟨q, 0, none⟩) m d) := by simp [go_sem, k2]
  have vf1 : ((w1.alloc (.cells #[.int .i64 v, .bool true] 80)).setCell ⟨N, 2, none⟩ (.slice (some ⟨q, 0, none⟩) m d)).frozen? ⟨N, 1, none⟩ = false := by simp [go_sem, kf1]
  have vf2 : ((w1.alloc (.cells #[.int .i64 v, .bool true] 80)).setCell ⟨N, 2, none⟩ (.slice (some ⟨q, 0, none⟩) m d)).frozen? ⟨N, 2, none⟩ = false := by simp [go_sem, kf2]
  have vt0 : ((w1.alloc (.cells #[.int .i64 v, .bool true] 80)).setCell ⟨N, 2, none⟩ (.slice (some ⟨q, 0, none⟩) m d)).cell? ⟨g, i * 2, none⟩ = some x := by simp [go_sem, kt0, hgN, hgN']
  have vt1 : ((w1.alloc (.cells #[.int .i64 v, .bool true] 80)).setCell ⟨N, 2, none⟩ (.slice (some ⟨q, 0, none⟩) m d)).cell? ⟨g, i * 2 + 1, none⟩ = some y := by simp [go_sem, kt1, hgN, hgN']
  have vz0 : ((w1.alloc (.cells #[.int .i64 v, .bool true] 80)).setCell ⟨N, 2, none⟩ (.slice (some ⟨q, 0, none⟩) m d)).frozen? ⟨g, i * 2, none⟩ = false := by simp [go_sem, kz0, hgN, hgN']
  have vz1 : ((w1.alloc (.cells #[.int .i64 v, .bool true] 80)).setCell ⟨N, 2, none⟩ (.slice (some ⟨q, 0, none⟩) m d)).frozen? ⟨g, i * 2 + 1, none⟩ = false := by simp [go_sem, kz1, hgN, hgN']
  have vp0 : ((w1.alloc (.cells #[.int .i64 v, .bool true] 80)).setCell ⟨N, 2, none⟩ (.slice (some ⟨q, 0, none⟩) m d)).cell? ⟨w1.heap.size, 0, none⟩ = some (.int .i64 v) := by simp [go_sem, p0, hpN, hpN']
  have vp1 : ((w1.alloc (.cells #[.int .i64 v, .bool true] 80)).setCell ⟨N, 2, none⟩ (.slice (some ⟨q, 0, none⟩) m d)).cell? ⟨w1.heap.size, 1, none⟩ = some (.bool true) := by simp [go_sem, p1, hpN, hpN']
  have V1 := Lib.hid (own_set P1.out (b := N) (o := 2) (by simp [Value.ownBlock]; exact hgN) (.slice (some ⟨q, 0, none⟩) m d))
  have V2 := Lib.hid (ownsRow_pop (by simp [hgs]) (own_set P2.out (b := N) (o := 2) (by simp [Value.ownBlock]; exact hqN) (.slice (some ⟨q, 0, none⟩) m d)))
  clear k0 k1 k2 kf1 kf2 kt0 kt1 kz0 kz1 ks0 p0 p1
  generalize (w1.alloc (.cells #[.int .i64 v, .bool true] 80)).setCell ⟨N, 2, none⟩ (.slice (some ⟨q, 0, none⟩) m d) = V at *
  go_region
  all_goals
    go_wp2
  have X1 := (V1.out.stored (i * 2) (.int .i64 v)).1.stored (i * 2 + 1) (.bool true)
  have hX : Below base w ((V.setCell ⟨g, i * 2, none⟩ (.int .i64 v)).setCell ⟨g, i * 2 + 1, none⟩ (.bool true)) := (hV.setCell (p := ⟨g, i * 2, none⟩) hbg _).setCell (p := ⟨g, i * 2 + 1, none⟩) hbg _
  refine bodyPost_ret (v := .tuple #[.int .i64 ((i : Int) + 1), .int .i64 0]) (by simp [results, Try.results14, go_sem]) rfl ⟨rfl, AI_drew ⟨some ⟨g, 0, none⟩, c, some ⟨q, 0, none⟩, d, ?_, ?_, ?_, ?_, ?_, X1.1, ?_, ?_, ?_, ?_, hbN, ?_, m0, m1, m2, by omega⟩, hX.drew⟩
  · simp [go_sem, v0, hgN, hgN']
  · simp [go_sem, v1, hgN, hgN']
  · simp [go_sem, v2, hgN, hgN']
  · simp [go_sem, vf1, hgN, hgN']
  · simp [go_sem, vf2, hgN, hgN']
  · exact own_set (own_set V2.out (by simp [Value.ownBlock]; exact hqg) _) (by simp [Value.ownBlock]; exact hqg) _
  · simp [Value.ownBlock]; exact hgN
  · simp [Value.ownBlock]; exact hqN
  · intro b eb
    simp [Value.ownBlock] at eb ⊢
    omega
  · exact Nat.le_trans hbw hX.size
end Go.Proofs.Ytpihoegikojlaaa
