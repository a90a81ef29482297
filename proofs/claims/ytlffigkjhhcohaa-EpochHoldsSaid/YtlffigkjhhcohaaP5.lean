/- The program's book: what waits. -/
import Derived.Test.YtlffigkjhhcohaaP4
namespace Go.Proofs.Ytlffigkjhhcohaa
set_option linter.unusedSimpArgs false
open Go.RowKit Go.Maps
set_option linter.unusedVariables false

theorem PB.mlt {w : World} {lo N M : Nat} {A1 A2 : Option Addr} {k1 k2 m : Nat} {ss now : Int} {S : Int → Option Int} {wl sl : List Int} (h : PB w lo N M A1 A2 k1 k2 m ss now S wl sl) : M < w.heap.size := by
  obtain ⟨D, hD, _⟩ := h.mp
  exact hD.lt
theorem cell_set_ne {w : World} {N i j : Nat} {v : Value} (h : i ≠ j) : (w.setCell ⟨N, i, none⟩ v).cell? ⟨N, j, none⟩ = w.cell? ⟨N, j, none⟩ := World.cell?_setCell_other _ _ _ _ (by simp [h])
/-- The epoch is written. -/
theorem PB.now {w : World} {lo N M : Nat} {A1 A2 : Option Addr} {k1 k2 m : Nat} {ss now : Int} {S : Int → Option Int} {wl sl : List Int} (h : PB w lo N M A1 A2 k1 k2 m ss now S wl sl) (n : Int) :
    PB (w.setCell ⟨N, 1, none⟩ (.int .i64 n)) lo N M A1 A2 k1 k2 m ss n S wl sl := by
  have hg := grown_set (w := w) (N := N) (j := 1) (v := .int .i64 n)
  obtain ⟨D, hD, hF⟩ := h.mp
  refine ⟨⟨h.hN.1, by simpa using h.hN.2⟩, h.hM, (cell_set_ne (by decide)).trans h.c0, World.cell?_setCell_same _ _ _ h.c1, (cell_set_ne (by decide)).trans h.c2, (cell_set_ne (by decide)).trans h.c3, (cell_set_ne (by decide)).trans h.c4, fun j => by rw [World.frozen?_setCell]; exact h.fz j, ⟨D, hD.kept hg (by simpa using h.hM.2), hF⟩, h.r1.kept hg (.inr h.d1.1), h.r2.kept hg (.inr h.d2.1), h.d1, h.d2, h.d⟩
/-- The row that waits is written. -/
theorem PB.set1 {w wm : World} {lo N M : Nat} {A1 A1' A2 : Option Addr} {k1 k1' k2 m : Nat} {ss now : Int} {S : Int → Option Int} {wl sl l' : List Int} (h : PB w lo N M A1 A2 k1 k2 m ss now S wl sl) (hg : w.grownBy wm (fpr A1 k1)) (hr : Row wm lo A1' l' k1')
    (hf : fpr A1' k1' = none ∨ fpr A1' k1' = fpr A1 k1 ∨ ∃ g, w.heap.size ≤ g ∧ fpr A1' k1' = some g) (n : Nat) (hn : n = l'.length) : PB (wm.setCell ⟨N, 3, none⟩ (.slice A1' n k1')) lo N M A1' A2 k1' k2 m ss now S l' sl := by
  subst hn
  have hc : ∀ j, wm.cell? ⟨N, j, none⟩ = w.cell? ⟨N, j, none⟩ := fun j => World.cell?_of_block (hg.block N h.hN.2 (fun e => h.d1.1 e.symm))
  have hs := grown_set (w := wm) (N := N) (j := 3) (v := .slice A1' l'.length k1')
  obtain ⟨D, hD, hF⟩ := h.mp
  have hml := h.mlt
  have hN := h.hN.2
  have d1' : fpr A1' k1' ≠ some N ∧ fpr A1' k1' ≠ some M := by
    rcases hf with hf | hf | ⟨g, h1, hf⟩
    · rw [hf]; exact ⟨by simp, by simp⟩
    · rw [hf]; exact h.d1
    · rw [hf]; simp; omega
  have hd : fpr A1' k1' = none ∨ fpr A1' k1' ≠ fpr A2 k2 := by
    rcases hf with hf | hf | ⟨g, h1, hf⟩
    · exact .inl hf
    · rw [hf]; exact h.d
    · right; rw [hf]; intro e; have := h.r2.fp_lt e.symm; omega
  have r2m : Row wm lo A2 sl k2 := h.r2.kept hg (by rcases h.d with d | d; · rw [d]; (cases fpr A2 k2 <;> simp)
                                                    · exact .inr (fun e => d e.symm))
  refine ⟨⟨h.hN.1, by have := hg.size; simp; omega⟩, h.hM, (cell_set_ne (by decide)).trans ((hc 0).trans h.c0), (cell_set_ne (by decide)).trans ((hc 1).trans h.c1), (cell_set_ne (by decide)).trans ((hc 2).trans h.c2), World.cell?_setCell_same _ _ _ ((hc 3).trans h.c3), (cell_set_ne (by decide)).trans ((hc 4).trans h.c4), fun j => ?_, ⟨D, (hD.kept hg (fun e => h.d1.2 e.symm)).kept hs (by simpa using h.hM.2), hF⟩, hr.kept hs (.inr d1'.1), r2m.kept hs (.inr h.d2.1), d1', h.d2, hd⟩
  rw [World.frozen?_setCell]
  exact (World.frozen?_of_block (hg.block N h.hN.2 (fun e => h.d1.1 e.symm))).trans (h.fz j)
/-- The row of the epochs is written. -/
theorem PB.set2 {w wm : World} {lo N M : Nat} {A1 A2 A2' : Option Addr} {k1 k2 k2' m : Nat} {ss now : Int} {S : Int → Option Int} {wl sl l' : List Int} (h : PB w lo N M A1 A2 k1 k2 m ss now S wl sl) (hg : w.grownBy wm (fpr A2 k2)) (hr : Row wm lo A2' l' k2')
    (hf : fpr A2' k2' = none ∨ fpr A2' k2' = fpr A2 k2 ∨ ∃ g, w.heap.size ≤ g ∧ fpr A2' k2' = some g) (n : Nat) (hn : n = l'.length) : PB (wm.setCell ⟨N, 4, none⟩ (.slice A2' n k2')) lo N M A1 A2' k1 k2' m ss now S wl l' := by
  subst hn
  have hc : ∀ j, wm.cell? ⟨N, j, none⟩ = w.cell? ⟨N, j, none⟩ := fun j => World.cell?_of_block (hg.block N h.hN.2 (fun e => h.d2.1 e.symm))
  have hs := grown_set (w := wm) (N := N) (j := 4) (v := .slice A2' l'.length k2')
  obtain ⟨D, hD, hF⟩ := h.mp
  have hml := h.mlt
  have hN := h.hN.2
  have d2' : fpr A2' k2' ≠ some N ∧ fpr A2' k2' ≠ some M := by
    rcases hf with hf | hf | ⟨g, h1, hf⟩
    · rw [hf]; exact ⟨by simp, by simp⟩
    · rw [hf]; exact h.d2
    · rw [hf]; simp; omega
  have hd : fpr A1 k1 = none ∨ fpr A1 k1 ≠ fpr A2' k2' := by
    rcases h.d with d | d
    · exact .inl d
    · rcases hf with hf | hf | ⟨g, h1, hf⟩
      · rw [hf]; cases fpr A1 k1 <;> simp
      · rw [hf]; exact .inr d
      · right; rw [hf]; intro e; have := h.r1.fp_lt e; omega
  have r1m : Row wm lo A1 wl k1 := h.r1.kept hg h.d
  refine ⟨⟨h.hN.1, by have := hg.size; simp; omega⟩, h.hM, (cell_set_ne (by decide)).trans ((hc 0).trans h.c0), (cell_set_ne (by decide)).trans ((hc 1).trans h.c1), (cell_set_ne (by decide)).trans ((hc 2).trans h.c2), (cell_set_ne (by decide)).trans ((hc 3).trans h.c3), World.cell?_setCell_same _ _ _ ((hc 4).trans h.c4), fun j => ?_, ⟨D, (hD.kept hg (fun e => h.d2.2 e.symm)).kept hs (by simpa using h.hM.2), hF⟩, r1m.kept hs (.inr h.d1.1), hr.kept hs (.inr d2'.1), h.d1, d2', hd⟩
  rw [World.frozen?_setCell]
  exact (World.frozen?_of_block (hg.block N h.hN.2 (fun e => h.d2.1 e.symm))).trans (h.fz j)
theorem al_grown (w : World) (o : Obj) : w.grownBy (w.alloc o) none := ⟨rfl, rfl, rfl, by simp, fun i hi _ => by show (w.heap.push o)[i]? = _; rw [Array.getElem?_push, if_neg (by omega)]⟩
theorem al_below (w : World) (o : Obj) : Below w.heap.size w (w.alloc o) := (Below.refl _ _).grown (al_grown w o) (Nat.le_refl _) (fun j hj => by cases hj)
theorem kcell {w wm : World} {N : Nat} {row : Option Nat} (hN : N < w.heap.size) (hg : w.grownBy wm row) (hr : row ≠ some N) (j : Nat) : wm.cell? ⟨N, j, none⟩ = w.cell? ⟨N, j, none⟩ := World.cell?_of_block (hg.block N hN (fun e => hr e.symm))
theorem kfroz {w wm : World} {N : Nat} {row : Option Nat} (hN : N < w.heap.size) (hg : w.grownBy wm row) (hr : row ≠ some N) (j : Nat) : wm.frozen? ⟨N, j, none⟩ = w.frozen? ⟨N, j, none⟩ := World.frozen?_of_block (hg.block N hN (fun e => hr e.symm))
theorem Chg.set {F : Nat → Prop} {w w' : World} (h : Chg F w w') {N j : Nat} {v : Value} (hN : F N) : Chg F w (w'.setCell ⟨N, j, none⟩ v) :=
  h.trans (Chg.of_grown grown_set (F := F) (fun g hg => by cases hg; exact hN)) (fun g hg => .inl hg)

set_option maxHeartbeats 2000000 in
theorem pretire_any {w : World} {lo N M : Nat} {A1 A2 : Option Addr} {k1 k2 m : Nat} {ss now : Int} {S : Int → Option Int} {wl sl : List Int} (x : Int) (hx : (Lit.int .i64 x).wf = true) (hn : 0 ≤ now ∧ now ≤ 1000000) (hl : wl.length ≤ 900000 ∧ sl.length ≤ 900000) (hlo : lo ≤ w.heap.size) (h : PB w lo N M A1 A2 k1 k2 m ss now S wl sl) :
    Calls Try.prog 14 #[.pointer (some ⟨N, 0, none⟩), .int .i64 x] w fun e w' => ∃ A1' A2' k1' k2', e = .returned (.int .i64 0) ∧ PB w' lo N M A1' A2' k1' k2' m ss (now + 1) S (wl ++ [x]) (sl ++ [now]) ∧ Chg (FB N M A1 A2 k1 k2) w w' ∧
      (fpr A1' k1' = none ∨ fpr A1' k1' = fpr A1 k1 ∨ ∃ g, w.heap.size ≤ g ∧ fpr A1' k1' = some g) ∧ (fpr A2' k2' = none ∨ fpr A2' k2' = fpr A2 k2 ∨ ∃ g, w.heap.size ≤ g ∧ fpr A2' k2' = some g) := by
  have HPB := Lib.hid h
  have c1 := h.c1
  have c3 := h.c3
  have c4 := h.c4
  have f3 := h.fz 3
  have f4 := h.fz 4
  have HA := Lib.hid (h.later (al_below w (.cells #[.int .i64 x] 3)))
  clear h
  go_enter Try.func14, Try.ntmps14
  go_wp2_with (first
    | (at_builtin; refine wpList_put_row _ rfl (.tmp 11) (.tmp 13) rfl (base := lo) A1 wl.length k1 wl (some ⟨w.heap.size, 0, none⟩) 1 1 [x] rfl rfl HA.out.r1 rfl (by omega) (by simp; omega) rfl (by omega) (rdi_lit w 3 [x]) ?_; intro A1' k1' w1 r1 g1 o1; have n3 := (kcell HA.out.hN.2 g1 HA.out.d1.1 3).trans HA.out.c3; have z3 := (kfroz HA.out.hN.2 g1 HA.out.d1.1 3).trans (HA.out.fz 3); have HR1 := Lib.hid r1; have HG1 := Lib.hid g1; have HO1 := Lib.hid o1; clear r1 g1 o1)
    | fail)
  have H3 := Lib.hid (HA.out.set1 HG1.out HR1.out (by rcases HO1.out with o | o | o; exact .inl o; exact .inr (.inl o); exact .inr (.inr ⟨_, Nat.le_refl _, o⟩)) (wl.length + 1) (by simp))
  have HC3 := Lib.hid (((Chg.of_below (F := FB N M A1 A2 k1 k2) (al_below w (.cells #[.int .i64 x] 3))).trans (Chg.of_grown HG1.out (F := FB N M A1 A2 k1 k2) (fun g hg => .inr (.inr (.inl hg)))) (fun g hg => .inl hg)).set (N := N) (j := 3) (v := .slice A1' (wl.length + 1) k1') (.inl rfl))
  have HS3 := Lib.hid (HC3.out.size)
  clear n3 z3 HG1 HR1 HA c1 c3 c4 f3 f4
  generalize w1.setCell ⟨N, 3, none⟩ (.slice A1' (wl.length + 1) k1') = X at *
  have c1 := H3.out.c1
  have c4 := H3.out.c4
  have c4' : (X.alloc (.cells #[.int .i64 now] 3)).cell? ⟨N, 4, none⟩ = some (.slice A2 sl.length k2) := bel_later (al_below X _) c4
  have c1' : (X.alloc (.cells #[.int .i64 now] 3)).cell? ⟨N, 1, none⟩ = some (.int .i64 now) := bel_later (al_below X _) c1
  have HX := Lib.hid (H3.out.later (bel_dw (al_below X (.cells #[.int .i64 now] 3))))
  have HQ := Lib.hid (rdi_lit X 3 [now] : RdI (X.alloc (.cells #[.int .i64 now] 3)).drew _ _)
  go_region_law (first
    | (refine step_put_row _ rfl (.tmp 21) (.tmp 26) rfl (base := lo) A2 sl.length k2 sl (some ⟨X.heap.size, 0, none⟩) 1 1 [now] (by simp [Act.eval, Act.put]) (by simp [Act.eval, Act.put]) HX.out.r2 rfl (by omega) (by have := HS3.out; simp; omega) rfl (by omega) HQ.out ?_; intro A2' k2' w2 r2 g2 o2; have n4 := (kcell HX.out.hN.2 g2 HX.out.d2.1 4).trans HX.out.c4; have z4 := (kfroz HX.out.hN.2 g2 HX.out.d2.1 4).trans (HX.out.fz 4); have HR2 := Lib.hid r2; have HG2 := Lib.hid g2; have HO2 := Lib.hid o2; clear r2 g2 o2))
  all_goals
    have H4 := Lib.hid (HX.out.set2 HG2.out HR2.out (by rcases HO2.out with o | o | o; exact .inl o; exact .inr (.inl o); exact .inr (.inr ⟨_, Nat.le_refl _, o⟩)) (sl.length + 1) (by simp))
    have HC4 := Lib.hid (((HC3.out.trans (Chg.of_below (F := FB N M A1 A2 k1 k2) (bel_dw (al_below X (.cells #[.int .i64 now] 3)))) (fun g hg => .inl hg)).trans (Chg.of_grown HG2.out (F := FB N M A1 A2 k1 k2) (fun g hg => .inr (.inr (.inr hg)))) (fun g hg => .inl hg)).set (N := N) (j := 4) (v := .slice A2' (sl.length + 1) k2') (.inl rfl))
    clear n4 z4 HG2 HR2 HX c1 c4 c1' c4' HQ
    generalize w2.setCell ⟨N, 4, none⟩ (.slice A2' (sl.length + 1) k2') = Y at *
    have c1 := H4.out.c1
    have z1 := H4.out.fz 1
    have HF4 := Lib.hid (HC4.out.set (N := N) (j := 1) (v := .int .i64 (now + 1)) (.inl rfl))
    have HP4 := Lib.hid (H4.out.now (now + 1))
    go_wp2
    go_ret
    refine ⟨A1', A2', k1', k2', rfl, HP4.out, HF4.out, ?_, ?_⟩
    · rcases HO1.out with o | o | o
      · exact .inl o
      · exact .inr (.inl o)
      · exact .inr (.inr ⟨_, by simp, o⟩)
    · rcases HO2.out with o | o | o
      · exact .inl o
      · exact .inr (.inl o)
      · exact .inr (.inr ⟨_, by have := HS3.out; simp; omega, o⟩)
end Go.Proofs.Ytlffigkjhhcohaa
