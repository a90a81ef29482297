/- The program's book: who enters, who leaves. -/
import Derived.Test.YtlffigkjhhcohaaP3
import Derived.StillTailTactics
namespace Go.Proofs.Ytlffigkjhhcohaa
set_option linter.unusedSimpArgs false
open Go.RowKit Go.Maps
set_option linter.unusedVariables false

/-- Nothing has turned but the blocks of F, and new ones. -/
structure Chg (F : Nat → Prop) (w w' : World) : Prop where
  os : w'.os = w.os
  tape : w'.tape = w.tape
  output : w'.output = w.output
  size : w.heap.size ≤ w'.heap.size
  block : ∀ g, g < w.heap.size → ¬ F g → w'.heap[g]? = w.heap[g]?
theorem Chg.of_below {F : Nat → Prop} {w w' : World} (h : Below w.heap.size w w') : Chg F w w' := ⟨h.os, h.tape, h.output, h.size, fun g hg _ => h.block g hg⟩
theorem Chg.of_grown {F : Nat → Prop} {w w' : World} {row : Option Nat} (h : w.grownBy w' row) (hr : ∀ g, row = some g → F g) : Chg F w w' := ⟨h.os, h.tape, h.output, h.size, fun g hg hF => h.block g hg (fun e => hF (hr g e.symm))⟩
theorem Chg.trans {F G : Nat → Prop} {w w1 w2 : World} (h : Chg F w w1) (k : Chg G w1 w2) (hG : ∀ g, G g → F g ∨ w.heap.size ≤ g) : Chg F w w2 :=
  ⟨k.os.trans h.os, k.tape.trans h.tape, k.output.trans h.output, Nat.le_trans h.size k.size, fun g hg hF => (k.block g (Nat.lt_of_lt_of_le hg h.size) (fun e => by rcases hG g e with x | x; exact hF x; omega)).trans (h.block g hg hF)⟩
theorem Chg.below {F : Nat → Prop} {w w' : World} {lo : Nat} (h : Chg F w w') (hF : ∀ g, F g → lo ≤ g) (hlo : lo ≤ w.heap.size) : Below lo w w' :=
  ⟨h.os, h.tape, h.output, h.size, fun g hg => h.block g (by omega) (fun e => by have := hF g e; omega)⟩
theorem bel_dw {B : Nat} {a w : World} (h : Below B a w) : Below B a w.drew := ⟨h.os, h.tape, h.output, h.size, h.block⟩
/-- The blocks of a book. -/
def FB (N M : Nat) (A1 A2 : Option Addr) (k1 k2 : Nat) (g : Nat) : Prop := g = N ∨ g = M ∨ fpr A1 k1 = some g ∨ fpr A2 k2 = some g
theorem rdi_chg {F : Nat → Prop} {w w' : World} {A : Option Addr} {l : List Int} (h : RdI w A l) (hc : Chg F w w') (hF : ∀ a, A = some a → ¬ F a.block) : RdI w' A l := by
  rcases h with h | ⟨b, off, e, hlt, hcell⟩
  · exact .inl h
  · refine .inr ⟨b, off, e, Nat.lt_of_lt_of_le hlt hc.size, fun j u hj => ?_⟩
    exact (World.cell?_of_block (hc.block b hlt (hF _ e))).trans (hcell j u hj)

def entS (S : Int → Option Int) (who now : Int) : Int → Option Int := fun y => if y = who then some now else S y
def leaS (S : Int → Option Int) (who : Int) : Int → Option Int := fun y => if y = who then none else S y
theorem PB.map {w w' : World} {lo N M : Nat} {A1 A2 : Option Addr} {k1 k2 m m' : Nat} {ss now : Int} {S S' : Int → Option Int} {wl sl : List Int} (h : PB w lo N M A1 A2 k1 k2 m ss now S wl sl) (hg : w.grownBy w' (some M))
    (hm : ∃ D, w'.ownsMap Try.prog 3 (plainElem Try.prog 3) M m' D ∧ MF D S') : PB w' lo N M A1 A2 k1 k2 m' ss now S' wl sl := by
  have hNM : some N ≠ some M := by have := h.hM.2; simp; omega
  have hc : ∀ j, w'.cell? ⟨N, j, none⟩ = w.cell? ⟨N, j, none⟩ := fun j => World.cell?_of_block (hg.block N h.hN.2 hNM)
  refine ⟨⟨h.hN.1, Nat.lt_of_lt_of_le h.hN.2 hg.size⟩, h.hM, (hc 0).trans h.c0, (hc 1).trans h.c1, (hc 2).trans h.c2, (hc 3).trans h.c3, (hc 4).trans h.c4, fun j => (World.frozen?_of_block (hg.block N h.hN.2 hNM)).trans (h.fz j), hm, h.r1.kept hg (.inr h.d1.2), h.r2.kept hg (.inr h.d2.2), h.d1, h.d2, h.d⟩
/-- What is answered, and the book behind it. -/
def PPost (w : World) (lo N M : Nat) (A1 A2 : Option Addr) (k1 k2 m : Nat) (ss now : Int) (S : Int → Option Int) (wl sl : List Int) (v : Int) (e : Ending) (w' : World) : Prop :=
  e = .returned (.int .i64 v) ∧ PB w' lo N M A1 A2 k1 k2 m ss now S wl sl ∧ Chg (FB N M A1 A2 k1 k2) w w'

set_option maxHeartbeats 1000000 in
theorem penter_no {w : World} {lo N M : Nat} {A1 A2 : Option Addr} {k1 k2 m : Nat} {ss now : Int} {S : Int → Option Int} {wl sl : List Int} (who v : Int) (hv : mayP ss S who false = v) (hv0 : ¬ v = 0) (hx : (Lit.int .i64 who).wf = true) (h : PB w lo N M A1 A2 k1 k2 m ss now S wl sl) :
    Calls Try.prog 12 #[.pointer (some ⟨N, 0, none⟩), .int .i64 who] w (PPost w lo N M A1 A2 k1 k2 m ss now S wl sl v) := by
  have C := Lib.hid (by have h := may_any who false hx h; rw [hv] at h; exact h)
  have HPB := Lib.hid h
  clear h hv hx
  go_enter Try.func12, Try.ntmps12
  go_wp2_with (go_at_call 29; refine C.out.mono ?_; rintro e w1 ⟨rfl, hb⟩)
  go_ret
  exact ⟨rfl, HPB.out.later hb, Chg.of_below hb⟩
set_option maxHeartbeats 1000000 in
theorem penter_yes {w : World} {lo N M : Nat} {A1 A2 : Option Addr} {k1 k2 m : Nat} {ss now : Int} {S : Int → Option Int} {wl sl : List Int} (who : Int) (hv : mayP ss S who false = 0) (hx : (Lit.int .i64 who).wf = true) (hn : (Lit.int .i64 now).wf = true) (hm : m ≤ 1000000) (h : PB w lo N M A1 A2 k1 k2 m ss now S wl sl) :
    Calls Try.prog 12 #[.pointer (some ⟨N, 0, none⟩), .int .i64 who] w (PPost w lo N M A1 A2 k1 k2 (m + 1) ss now (entS S who now) wl sl 0) := by
  have C := Lib.hid (by have h := may_any who false hx h; rw [hv] at h; exact h)
  have HPB := Lib.hid h
  have hkey := Lib.hid (keyOf_int_mk (P := Try.prog) Try.underlying3 hx)
  clear h hv hx
  go_enter Try.func12, Try.ntmps12
  go_wp2_with (go_at_call 29; refine C.out.mono ?_; rintro e w1 ⟨rfl, hb⟩; have H1 := Lib.hid (HPB.out.later hb); have c1 := H1.out.c1; have c2 := H1.out.c2)
  go_still_tail 9, (by kernel_rfl)
  change wpList _ _ _ _ _ w1.drew
  obtain ⟨D, hown0, hF⟩ := H1.out.mp
  have HF := Lib.hid hF
  have gd : w1.grownBy w1.drew none := ⟨rfl, rfl, rfl, Nat.le_refl _, fun _ _ _ => rfl⟩
  have hown : w1.drew.ownsMap Try.prog 3 (plainElem Try.prog 3) M m D := hown0.kept gd (by simp)
  have HD := Lib.hid (H1.out.later (w' := w1.drew) (bel_dw (Below.refl _ _)))
  have HB := Lib.hid (bel_dw hb)
  clear hF hown0 gd hb
  have c2' : w1.drew.cell? ⟨N, 2, none⟩ = some (.map (some M)) := c2
  have c1' : w1.drew.cell? ⟨N, 1, none⟩ = some (.int .i64 now) := c1
  go_wp2_with (first
    | (at_mapUpdate; refine wpList_mapUpdate_own _ rfl _ _ _ 56 rfl 3 3 law3 Try.underlying56 _ M m D rfl hown (by unfold maxLen; omega) _ _ _ rfl rfl hkey.out _ [] (plainElem_int Try.underlying3 hn) ?_; intro w2 hown2 hg2)
    | fail)
  go_ret
  refine ⟨rfl, HD.out.map hg2 ⟨_, hown2, ?_⟩, ?_⟩
  · exact (HF.out.put who now).congr (fun x => rfl)
  · exact (Chg.of_below HB.out).trans (Chg.of_grown hg2 (F := FB N M A1 A2 k1 k2) (fun g hg => by cases hg; exact .inr (.inl rfl))) (fun g hg => .inl hg)
set_option maxHeartbeats 1000000 in
theorem pleave_no {w : World} {lo N M : Nat} {A1 A2 : Option Addr} {k1 k2 m : Nat} {ss now : Int} {S : Int → Option Int} {wl sl : List Int} (who v : Int) (hv : mayP ss S who true = v) (hv0 : ¬ v = 0) (hx : (Lit.int .i64 who).wf = true) (h : PB w lo N M A1 A2 k1 k2 m ss now S wl sl) :
    Calls Try.prog 20 #[.pointer (some ⟨N, 0, none⟩), .int .i64 who] w (PPost w lo N M A1 A2 k1 k2 m ss now S wl sl v) := by
  have C := Lib.hid (by have h := may_any who true hx h; rw [hv] at h; exact h)
  have HPB := Lib.hid h
  clear h hv hx
  go_enter Try.func20, Try.ntmps20
  go_wp2_with (go_at_call 29; refine C.out.mono ?_; rintro e w1 ⟨rfl, hb⟩)
  go_ret
  exact ⟨rfl, HPB.out.later hb, Chg.of_below hb⟩
set_option maxHeartbeats 1000000 in
theorem pleave_yes {w : World} {lo N M : Nat} {A1 A2 : Option Addr} {k1 k2 m : Nat} {ss now : Int} {S : Int → Option Int} {wl sl : List Int} (who : Int) (hv : mayP ss S who true = 0) (hx : (Lit.int .i64 who).wf = true) (h : PB w lo N M A1 A2 k1 k2 m ss now S wl sl) :
    Calls Try.prog 20 #[.pointer (some ⟨N, 0, none⟩), .int .i64 who] w (PPost w lo N M A1 A2 k1 k2 m ss now (leaS S who) wl sl 0) := by
  have C := Lib.hid (by have h := may_any who true hx h; rw [hv] at h; exact h)
  have HPB := Lib.hid h
  have hkey := Lib.hid (keyOf_int_mk (P := Try.prog) Try.underlying3 hx)
  clear h hv hx
  go_enter Try.func20, Try.ntmps20
  go_wp2_with (first
    | (go_at_call 29; refine C.out.mono ?_; rintro e w1 ⟨rfl, hb⟩; have H1 := Lib.hid (HPB.out.later hb); have c2 := H1.out.c2; obtain ⟨D, hown, hF⟩ := H1.out.mp; have HF := Lib.hid hF; have HB := Lib.hid hb; clear hF hb)
    | (at_delete; refine wpList_delete_own _ rfl _ _ 56 3 rfl 3 law3 Try.underlying56 _ M m D rfl hown _ _ rfl hkey.out ?_; intro w2 hown2 ht2)
    | fail)
  go_ret
  have hg2 := ht2.grown
  refine ⟨rfl, H1.out.map hg2 ⟨_, hown2, ?_⟩, ?_⟩
  · exact (HF.out.del who).congr (fun x => rfl)
  · exact (Chg.of_below HB.out).trans (Chg.of_grown hg2 (F := FB N M A1 A2 k1 k2) (fun g hg => by cases hg; exact .inr (.inl rfl))) (fun g hg => .inl hg)
end Go.Proofs.Ytlffigkjhhcohaa
