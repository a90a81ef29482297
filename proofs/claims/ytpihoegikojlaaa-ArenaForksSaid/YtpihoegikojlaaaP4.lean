/- Give, and Set. -/
import Derived.Test.YtpihoegikojlaaaP2
namespace Go.Proofs.Ytpihoegikojlaaa
set_option linter.unusedSimpArgs false
open Go.RowKit Go.Maps
set_option linter.unusedVariables false
variable {F : Nat → Prop}

set_option maxRecDepth 100000 in
set_option maxHeartbeats 2000000 in
theorem pgive_no {w : World} {lo N : Nat} {A G : Option Addr} {c d : Nat} {b : AB} (i : Int) (h : PA w lo N A G c d b) (iv : IV b) (ht : thereD b i = false) :
    Calls Try.prog 21 #[.pointer (some ⟨N, 0, none⟩), .int .i64 i] w (WPost lo N A G d b (.int .i64 14) w) := by
  have C := Lib.hid (pat_out h iv ht)
  have H := Lib.hid h
  clear h iv ht
  go_enter Try.func21, Try.ntmps21
  go_wp2_with fail
  refine C.out.mono ?_
  rintro e w1 ⟨rfl, rfl⟩
  go_wp2
  go_ret
  exact ⟨A, G, c, d, rfl, H.out, Chg.refl _ _, fun g hg => .inl hg⟩
set_option maxRecDepth 100000 in
theorem pset_no {w : World} {lo N : Nat} {A G : Option Addr} {c d : Nat} {b : AB} (i v : Int) (h : PA w lo N A G c d b) (iv : IV b) (ht : thereD b i = false) :
    Calls Try.prog 29 #[.pointer (some ⟨N, 0, none⟩), .int .i64 i, .int .i64 v] w (WPost lo N A G d b (.int .i64 14) w) := by
  have C := Lib.hid (pat_out h iv ht)
  have H := Lib.hid h
  clear h iv ht
  go_enter Try.func29, Try.ntmps29
  go_wp2_with fail
  refine C.out.mono ?_
  rintro e w1 ⟨rfl, rfl⟩
  go_wp2
  go_ret
  exact ⟨A, G, c, d, rfl, H.out, Chg.refl _ _, fun g hg => .inl hg⟩
set_option maxRecDepth 100000 in
theorem pset_yes {w : World} {lo N : Nat} {A G : Option Addr} {c d : Nat} {b : AB} (i v : Int) (h : PA w lo N A G c d b) (iv : IV b) (ht : thereD b i = true) :
    Calls Try.prog 29 #[.pointer (some ⟨N, 0, none⟩), .int .i64 i, .int .i64 v] w (WPost lo N A G d (vlS b i.toNat v) (.int .i64 0) w) := by
  have C := Lib.hid (pat_in h iv ht)
  have H := Lib.hid h
  clear h iv ht
  go_enter Try.func29, Try.ntmps29
  go_wp2_with fail
  refine C.out.mono ?_
  rintro e w1 ⟨⟨g, k, rfl, hk, rfl, rfl⟩, rfl⟩
  obtain ⟨pl, o1, hPL⟩ := H.out.pl
  obtain ⟨g', hA', hbg, hgl, t0, t1⟩ := H.out.place hk
  cases hA'
  have z0 := o1.frozenAt (k * 2)
  have hgN : g ≠ N := by have := H.out.d1; simpa using this
  have hgN' : N ≠ g := fun e => hgN e.symm
  have O1 := Lib.hid (o1.stored (k * 2) (.int .i64 v)).1
  have HPL := Lib.hid (hPL.val o1.1 hk v)
  have e : ((k : Int) + 1).toNat = k + 1 := by omega
  rw [e]
  clear o1 hPL
  go_wp2
  go_ret
  refine ⟨some ⟨g, 0, none⟩, G, c, d, rfl, ⟨⟨H.out.hN.1, by simp; exact H.out.hN.2⟩, ?_, ?_, ?_, fun j => ?_, ⟨_, O1.out, HPL.out⟩, H.out.gs.kept grown_set ?_, H.out.d1, H.out.d2, H.out.d3, H.out.d4⟩, Chg.set _ _ (.inr (.inl rfl)), fun g hg => .inl hg⟩
  · have := H.out.c0; simp [go_sem, hgN, hgN']; exact this
  · have := H.out.c1; simp [go_sem, hgN, hgN']; exact this
  · have := H.out.c2; simp [go_sem, hgN, hgN']; exact this
  · rw [World.frozen?_setCell]; exact H.out.fz j
  · right; exact H.out.d3 g rfl
set_option maxRecDepth 100000 in
set_option maxHeartbeats 2000000 in
theorem pgive_yes {w : World} {lo N : Nat} {A G : Option Addr} {c d : Nat} {b : AB} (i : Int) (h : PA w lo N A G c d b) (iv : IV b) (hlo : lo ≤ w.heap.size) (ht : thereD b i = true) :
    Calls Try.prog 21 #[.pointer (some ⟨N, 0, none⟩), .int .i64 i] w (WPost lo N A G d (bkS (vlS (tkS b i.toNat false) i.toNat 0) (b.bk ++ [i])) (.int .i64 0) w) := by
  have C := Lib.hid (pat_in h iv ht)
  have H := Lib.hid h
  have hlen := iv.bk60
  obtain ⟨m, hm⟩ : ∃ m, m = b.bk.length := ⟨_, rfl⟩
  rw [← hm] at hlen
  have HM := Lib.hid hm
  clear h iv ht hm
  go_enter Try.func21, Try.ntmps21
  go_wp2_with fail
  refine C.out.mono ?_
  rintro e w1 ⟨⟨g, i, rfl, hk, rfl, rfl⟩, rfl⟩
  obtain ⟨pl, o1, hPL⟩ := H.out.pl
  obtain ⟨g', hA', hbg, hgl, t0, t1⟩ := H.out.place hk
  cases hA'
  have z0 := o1.frozenAt (i * 2)
  have z1 := o1.frozenAt (i * 2 + 1)
  have hgN : g ≠ N := by have := H.out.d1; simpa using this
  have hgN' : N ≠ g := fun e => hgN e.symm
  have O1 := Lib.hid ((o1.stored (i * 2) (.int .i64 0)).1.stored (i * 2 + 1) (.bool false)).1
  have HPL := Lib.hid (hPL.put o1.1 hk false 0)
  have e : ((i : Int) + 1).toNat = i + 1 := by omega
  rw [e]
  have h0 := H.out.c0
  have h1 := H.out.c1
  have h2 := H.out.c2
  rw [← HM.out] at h2
  have f1 := H.out.fz 1
  have f2 := H.out.fz 2
  have hl1 := H.out.hN.2
  have hNg : fpr G d ≠ some g := H.out.d3 g rfl
  have hGN : fpr G d ≠ some N := H.out.d2
  clear o1 hPL
  have k0 : ((w.setCell ⟨g, i * 2, none⟩ (.int .i64 0)).setCell ⟨g, i * 2 + 1, none⟩ (.bool false)).cell? ⟨N, 0, none⟩ = some (.int .i64 b.most) := by simp [go_sem, h0, hgN, hgN']
  have k1 : ((w.setCell ⟨g, i * 2, none⟩ (.int .i64 0)).setCell ⟨g, i * 2 + 1, none⟩ (.bool false)).cell? ⟨N, 1, none⟩ = some (.slice (some ⟨g, 0, none⟩) b.top c) := by simp [go_sem, h1, hgN, hgN']
  have k2 : ((w.setCell ⟨g, i * 2, none⟩ (.int .i64 0)).setCell ⟨g, i * 2 + 1, none⟩ (.bool false)).cell? ⟨N, 2, none⟩ = some (.slice G m d) := by simp [go_sem, h2, hgN, hgN']
  have kf2 : ((w.setCell ⟨g, i * 2, none⟩ (.int .i64 0)).setCell ⟨g, i * 2 + 1, none⟩ (.bool false)).frozen? ⟨N, 2, none⟩ = false := by simp [go_sem, f2, hgN, hgN']
  have kfz : Hid (∀ j, ((w.setCell ⟨g, i * 2, none⟩ (.int .i64 0)).setCell ⟨g, i * 2 + 1, none⟩ (.bool false)).frozen? ⟨N, j, none⟩ = false) := Lib.hid (fun j => by rw [World.frozen?_setCell, World.frozen?_setCell]; exact H.out.fz j)
  have hs : ((w.setCell ⟨g, i * 2, none⟩ (.int .i64 0)).setCell ⟨g, i * 2 + 1, none⟩ (.bool false)).heap.size = w.heap.size := by simp
  have hC : Chg (FA N (some ⟨g, 0, none⟩) G d) w ((w.setCell ⟨g, i * 2, none⟩ (.int .i64 0)).setCell ⟨g, i * 2 + 1, none⟩ (.bool false)) := (Chg.set _ _ (.inr (.inl rfl))).trans (Chg.set _ _ (.inr (.inl rfl))) (fun g hg => .inl hg)
  have HR := Lib.hid ((H.out.gs.kept (grown_set (N := g) (j := i * 2) (v := .int .i64 0)) (.inr hNg)).kept (grown_set (N := g) (j := i * 2 + 1) (v := .bool false)) (.inr hNg))
  have hW : Below ((w.setCell ⟨g, i * 2, none⟩ (.int .i64 0)).setCell ⟨g, i * 2 + 1, none⟩ (.bool false)).heap.size ((w.setCell ⟨g, i * 2, none⟩ (.int .i64 0)).setCell ⟨g, i * 2 + 1, none⟩ (.bool false)) (((w.setCell ⟨g, i * 2, none⟩ (.int .i64 0)).setCell ⟨g, i * 2 + 1, none⟩ (.bool false)).alloc (.cells #[.int .i64 ((i : Int) + 1)] 3)) := by go_grown
  have y2 : (((w.setCell ⟨g, i * 2, none⟩ (.int .i64 0)).setCell ⟨g, i * 2 + 1, none⟩ (.bool false)).alloc (.cells #[.int .i64 ((i : Int) + 1)] 3)).cell? ⟨N, 2, none⟩ = some (.slice G m d) := bel_later hW k2
  have hL : Hid (RdI (((w.setCell ⟨g, i * 2, none⟩ (.int .i64 0)).setCell ⟨g, i * 2 + 1, none⟩ (.bool false)).alloc (.cells #[.int .i64 ((i : Int) + 1)] 3)) (some ⟨w.heap.size, 0, none⟩) [(i : Int) + 1]) := Lib.hid (by have h := rdi_lit ((w.setCell ⟨g, i * 2, none⟩ (.int .i64 0)).setCell ⟨g, i * 2 + 1, none⟩ (.bool false)) 3 [(i : Int) + 1]; rw [hs] at h; exact h)
  have HC0 := Lib.hid hC
  have HHS := Lib.hid hs
  clear hC
  go_wp2_with (first
    | (at_builtin; refine wpList_put_row _ rfl (.tmp 20) (.tmp 22) rfl (base := lo) G m d b.bk (some ⟨w.heap.size, 0, none⟩) 1 1 [(i : Int) + 1] rfl rfl (HR.out.bel hW) HM.out.symm (by omega) (by have := hW.size; omega) rfl (by omega) hL.out ?_; intro G' d' w2 r1 r2 r3; have hNW : N < (((w.setCell ⟨g, i * 2, none⟩ (.int .i64 0)).setCell ⟨g, i * 2 + 1, none⟩ (.bool false)).alloc (.cells #[.int .i64 ((i : Int) + 1)] 3)).heap.size := (by have := hW.size; omega); have x0 := (r2.cell (bel_later hW k0) (fun e => hGN e.symm)); have x1 := (r2.cell (bel_later hW k1) (fun e => hGN e.symm)); have x2 := (r2.cell (bel_later hW k2) (fun e => hGN e.symm)); have xf : ∀ j, w2.frozen? ⟨N, j, none⟩ = false := (fun j => (World.frozen?_of_block (r2.block N hNW (fun e => hGN e.symm))).trans ((bel_frozen hW (by omega)).trans (kfz.out j))); have xf2 := xf 2; have XF := Lib.hid xf; have R1 := Lib.hid r1; have R2 := Lib.hid r2; have R3 := Lib.hid r3; clear r1 r2 r3 xf)
    | fail)
  go_ret
  have hb0 := hW.size
  have hG' : fpr G' d' = none ∨ fpr G' d' = fpr G d ∨ fpr G' d' = some (w.heap.size + 1) := by
    have h := R3.out
    rw [World.size_alloc, hs] at h; exact h
  have hC1 : Chg (FA N (some ⟨g, 0, none⟩) G d) w w2 := (HC0.out.trans (Chg.of_below (D := FA N (some ⟨g, 0, none⟩) G d) hW) (fun g hg => .inl hg)).trans (Chg.of_grown (D := FA N (some ⟨g, 0, none⟩) G d) R2.out (fun x hx => .inr (.inr hx))) (fun g hg => .inl hg)
  have hC2 := hC1.trans (Chg.set (D := FA N (some ⟨g, 0, none⟩) G d) (l := N) (o := 2) w2 (.slice G' (m + 1) d') (.inl rfl)) (fun g hg => .inl hg)
  have g2 : fpr G' d' ≠ some N := by
    rcases hG' with e | e | e
    · rw [e]; simp
    · rw [e]; exact hGN
    · rw [e]; simp; omega
  have g3 : fpr G' d' ≠ some g := by
    rcases hG' with e | e | e
    · rw [e]; simp
    · rw [e]; exact hNg
    · rw [e]; simp; omega
  have P2 := (own_bel O1.out hW).kept R2.out (.inr (by rw [ob_eq]; simp; exact fun e => hNg e.symm))
  have P3 := own_set P2 (b := N) (o := 2) (by rw [ob_eq]; simp; exact hgN) (.slice G' (m + 1) d')
  refine ⟨some ⟨g, 0, none⟩, G', c, d', rfl, ⟨⟨H.out.hN.1, by have := hC2.size; omega⟩, ?_, ?_, ?_, fun j => ?_, ⟨_, P3, HPL.out⟩, R1.out.kept grown_set (.inr g2), H.out.d1, g2, fun x hx => ?_, H.out.d4⟩, hC2, ?_⟩
  · show _ = some (Value.int .i64 b.most); simp [go_sem, x0]
  · show _ = some (Value.slice _ b.top c); simp [go_sem, x1]
  · show _ = some (Value.slice _ (b.bk ++ [(i : Int) + 1]).length _); rw [List.length_append, ← HM.out]; simp [go_sem, x2]
  · rw [World.frozen?_setCell]; exact XF.out j
  · simp at hx; subst hx; exact g3
  · rintro x (e | e | e)
    · exact .inl (.inl e)
    · exact .inl (.inr (.inl e))
    · rcases hG' with e2 | e2 | e2
      · rw [e2] at e; cases e
      · rw [e2] at e; exact .inl (.inr (.inr e))
      · rw [e2] at e; cases e; exact .inr (by omega)
end Go.Proofs.Ytpihoegikojlaaa
