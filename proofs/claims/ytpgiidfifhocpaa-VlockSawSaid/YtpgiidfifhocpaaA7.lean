/- The law VlockDoes answers true. -/
import Derived.Test.YtpgiidfifhocpaaA4
import Derived.Deep.RegionHeld3
namespace Go.Proofs.Ytpgiidfifhocpaa
set_option linter.unusedSimpArgs false
open Go.RowKit
set_option linter.unusedVariables false
attribute [local go_sem] iss

theorem at_code {P : Program} {c : Code} {Q : Exit → Act → World → Prop} {a : Act} {W : World} (h : ∀ W2, W2 = W → Code.wp P c Q a W2) : Code.wp P c Q a W := h W rfl

/-- A box of three cells in memory. -/
structure Box (W : World) (b : Nat) (x y z : Value) : Prop where
  c0 : W.cell? ⟨b, 0, none⟩ = some x
  c1 : W.cell? ⟨b, 1, none⟩ = some y
  c2 : W.cell? ⟨b, 2, none⟩ = some z
  f0 : W.frozen? ⟨b, 0, none⟩ = false
  f1 : W.frozen? ⟨b, 1, none⟩ = false
  f2 : W.frozen? ⟨b, 2, none⟩ = false
theorem Box.lt {W : World} {b : Nat} {x y z : Value} (h : Box W b x y z) : b < W.heap.size := World.block_lt_of_cell? W _ h.c0
theorem Box.keep {W w1 : World} {b : Nat} {x y z : Value} (h : Box W b x y z) (hb : Below W.heap.size W w1) : Box w1 b x y z := by
  obtain ⟨a0, a1, a2, a3, a4, a5⟩ := keep3 hb b x y z h.c0 h.c1 h.c2 h.f0 h.f1 h.f2
  exact ⟨a0, a1, a2, a3, a4, a5⟩
theorem Box.alloc {W : World} {b : Nat} {x y z : Value} (h : Box W b x y z) (o : Obj) : Box (W.alloc o) b x y z := h.keep ((Below.refl _ _).alloc (Nat.le_refl _) o)
theorem Box.drew {W : World} {b : Nat} {x y z : Value} (h : Box W b x y z) : Box W.drew b x y z := h.keep (Below.refl _ _).drew
theorem Box.new (W : World) (x y z : Value) : Box (W.alloc (.cells #[x, y, z] 23)) W.heap.size x y z := by
  constructor <;> simp [go_sem]
theorem Box.other {W : World} {b c : Nat} {x y z u v t : Value} (h : Box W b x y z) (hc : c ≠ b) : Box (((W.setCell ⟨c, 0, none⟩ u).setCell ⟨c, 1, none⟩ v).setCell ⟨c, 2, none⟩ t) b x y z := by
  obtain ⟨a0, a1, a2, a3, a4, a5⟩ := h
  constructor <;> simp [go_sem, hc, a0, a1, a2, a3, a4, a5]
theorem Box.store {W : World} {b : Nat} {x y z u v t : Value} (h : Box W b x y z) : Box (((W.setCell ⟨b, 0, none⟩ u).setCell ⟨b, 1, none⟩ v).setCell ⟨b, 2, none⟩ t) b u v t := by
  obtain ⟨a0, a1, a2, a3, a4, a5⟩ := h
  constructor <;> simp [go_sem, a0, a1, a2, a3, a4, a5]
theorem below_store {B : Nat} {w W : World} {b : Nat} {u v t : Value} (h : Below B w W) (hb : B ≤ b) : Below B w (((W.setCell ⟨b, 0, none⟩ u).setCell ⟨b, 1, none⟩ v).setCell ⟨b, 2, none⟩ t) :=
  ((h.setCell (p := ⟨b, 0, none⟩) hb _).setCell (p := ⟨b, 1, none⟩) hb _).setCell (p := ⟨b, 2, none⟩) hb _

abbrev ix (n : Int) : Value := .int .i64 n

theorem stepB {B : Nat} {W W1 w' : World} {p : Prop} (h : Below B W W1 ∧ p) (hb : Below W1.heap.size W1 w') (hB : B ≤ W.heap.size) : Below B W w' := h.1.trans (hb.mono (Nat.le_trans hB h.1.size))
theorem s5 {W W1 : World} {b1 b2 b3 b4 b5 : Nat} {x1 y1 z1 x2 y2 z2 x3 y3 z3 x4 y4 z4 x5 y5 z5 : Value} (h1 : Box W b1 x1 y1 z1) (h2 : Box W b2 x2 y2 z2) (h3 : Box W b3 x3 y3 z3) (h4 : Box W b4 x4 y4 z4) (h5 : Box W b5 x5 y5 z5) (h : Below W.heap.size W W1) :
    Below W.heap.size W W1 ∧ W1.cell? ⟨b1, 0, none⟩ = some x1 ∧ W1.cell? ⟨b1, 1, none⟩ = some y1 ∧ W1.cell? ⟨b1, 2, none⟩ = some z1 ∧ W1.cell? ⟨b2, 0, none⟩ = some x2 ∧ W1.cell? ⟨b2, 1, none⟩ = some y2 ∧ W1.cell? ⟨b2, 2, none⟩ = some z2 ∧
      W1.cell? ⟨b3, 0, none⟩ = some x3 ∧ W1.cell? ⟨b3, 1, none⟩ = some y3 ∧ W1.cell? ⟨b3, 2, none⟩ = some z3 ∧ W1.cell? ⟨b4, 0, none⟩ = some x4 ∧ W1.cell? ⟨b4, 1, none⟩ = some y4 ∧ W1.cell? ⟨b4, 2, none⟩ = some z4 ∧ W1.cell? ⟨b5, 0, none⟩ = some x5 ∧ W1.cell? ⟨b5, 1, none⟩ = some y5 ∧ W1.cell? ⟨b5, 2, none⟩ = some z5 :=
  have k1 := h1.keep h; have k2 := h2.keep h; have k3 := h3.keep h; have k4 := h4.keep h; have k5 := h5.keep h
  ⟨h, k1.c0, k1.c1, k1.c2, k2.c0, k2.c1, k2.c2, k3.c0, k3.c1, k3.c2, k4.c0, k4.c1, k4.c2, k5.c0, k5.c1, k5.c2⟩

set_option maxHeartbeats 4000000 in
theorem does_walk (v o : Int) (g : Bool) (who : Int) (w : World) (h0 : -9223372036854775808 ≤ v) :
    Calls Try.prog 3 #[.agg #[.int .i64 v, .int .i64 o, .bool g], .int .i64 who] w fun e w' => e = .returned (.bool true) ∧ Below w.heap.size w w' := by
  go_enter Try.func3, Try.ntmps3
  go_wp2_with fail
  refine at_world (fun W0 hW => ?_)
  have Bl : Box W0 w.heap.size (ix v) (ix o) (.bool g) := by rw [hW]; exact Box.new _ _ _ _
  have hB : Below w.heap.size w W0 := by rw [hW]; exact (Below.refl _ _).alloc (Nat.le_refl _) _
  clear hW
  refine (try_any v o g who _).mono ?_
  rintro e v1 ⟨rfl, hb⟩
  replace Bl := Bl.keep hb
  replace hB := hB.trans (hb.mono hB.size)
  clear hb
  have Ol := Bl
  obtain ⟨l0, l1, l2, l3, l4, l5⟩ := Ol
  have ltl := Bl.lt
  have nel : w.heap.size ≠ v1.heap.size := Nat.ne_of_lt ltl
  have lea0 : w.heap.size ≤ v1.heap.size := hB.size
  go_wp2_with fail
  refine at_world (fun W1 hW => ?_)
  replace Bl := Bl.alloc (.cells #[(ix (tryF v o g who).1), (ix (tryF v o g who).2.1), (.bool (tryF v o g who).2.2.1)] 23)
  have Ba := Box.new v1 (ix (tryF v o g who).1) (ix (tryF v o g who).2.1) (.bool (tryF v o g who).2.2.1)
  rw [← hW] at Bl
  rw [← hW] at Ba
  replace hB := hB.alloc hB.size (.cells #[(ix (tryF v o g who).1), (ix (tryF v o g who).2.1), (.bool (tryF v o g who).2.2.1)] 23)
  rw [← hW] at hB
  clear hW l0 l1 l2 l3 l4 l5
  have qla : w.heap.size ≠ v1.heap.size := nel
  clear ltl nel
  have lea : w.heap.size ≤ v1.heap.size := lea0
  clear lea0
  generalize v1.heap.size = na at *
  refine (rtry_any v o g who _).mono ?_
  rintro e v2 ⟨rfl, hb⟩
  replace Bl := Bl.keep hb
  replace Ba := Ba.keep hb
  replace hB := hB.trans (hb.mono hB.size)
  clear hb
  have Ol := Bl
  obtain ⟨l0, l1, l2, l3, l4, l5⟩ := Ol
  have Oa := Ba
  obtain ⟨a0, a1, a2, a3, a4, a5⟩ := Oa
  have ltl := Bl.lt
  have nel : w.heap.size ≠ v2.heap.size := Nat.ne_of_lt ltl
  have lta := Ba.lt
  have nea : na ≠ v2.heap.size := Nat.ne_of_lt lta
  have leb0 : w.heap.size ≤ v2.heap.size := hB.size
  go_wp2_with fail
  refine at_world (fun W2 hW => ?_)
  replace Bl := Bl.alloc (.cells #[(ix (tryF v o g who).1), (ix (tryF v o g who).2.1), (.bool (tryF v o g who).2.2.1)] 23)
  replace Ba := Ba.alloc (.cells #[(ix (tryF v o g who).1), (ix (tryF v o g who).2.1), (.bool (tryF v o g who).2.2.1)] 23)
  have Bb := Box.new v2 (ix (tryF v o g who).1) (ix (tryF v o g who).2.1) (.bool (tryF v o g who).2.2.1)
  rw [← hW] at Bl
  rw [← hW] at Ba
  rw [← hW] at Bb
  replace hB := hB.alloc hB.size (.cells #[(ix (tryF v o g who).1), (ix (tryF v o g who).2.1), (.bool (tryF v o g who).2.2.1)] 23)
  rw [← hW] at hB
  clear hW l0 l1 l2 l3 l4 l5 a0 a1 a2 a3 a4 a5
  have qlb : w.heap.size ≠ v2.heap.size := nel
  have qab : na ≠ v2.heap.size := nea
  clear ltl nel lta nea
  have leb : w.heap.size ≤ v2.heap.size := leb0
  clear leb0
  generalize v2.heap.size = nb at *
  refine (free_any v o g who _ h0).mono ?_
  rintro e v3 ⟨rfl, hb⟩
  replace Bl := Bl.keep hb
  replace Ba := Ba.keep hb
  replace Bb := Bb.keep hb
  replace hB := hB.trans (hb.mono hB.size)
  clear hb
  have Ol := Bl
  obtain ⟨l0, l1, l2, l3, l4, l5⟩ := Ol
  have Oa := Ba
  obtain ⟨a0, a1, a2, a3, a4, a5⟩ := Oa
  have Ob := Bb
  obtain ⟨b0, b1, b2, b3, b4, b5⟩ := Ob
  have ltl := Bl.lt
  have nel : w.heap.size ≠ v3.heap.size := Nat.ne_of_lt ltl
  have lta := Ba.lt
  have nea : na ≠ v3.heap.size := Nat.ne_of_lt lta
  have ltb := Bb.lt
  have neb : nb ≠ v3.heap.size := Nat.ne_of_lt ltb
  have lec0 : w.heap.size ≤ v3.heap.size := hB.size
  go_wp2_with fail
  refine at_world (fun W3 hW => ?_)
  replace Bl := Bl.alloc (.cells #[(ix (freeF v o g who).1), (ix (freeF v o g who).2.1), (.bool (freeF v o g who).2.2.1)] 23)
  replace Ba := Ba.alloc (.cells #[(ix (freeF v o g who).1), (ix (freeF v o g who).2.1), (.bool (freeF v o g who).2.2.1)] 23)
  replace Bb := Bb.alloc (.cells #[(ix (freeF v o g who).1), (ix (freeF v o g who).2.1), (.bool (freeF v o g who).2.2.1)] 23)
  have Bc := Box.new v3 (ix (freeF v o g who).1) (ix (freeF v o g who).2.1) (.bool (freeF v o g who).2.2.1)
  rw [← hW] at Bl
  rw [← hW] at Ba
  rw [← hW] at Bb
  rw [← hW] at Bc
  replace hB := hB.alloc hB.size (.cells #[(ix (freeF v o g who).1), (ix (freeF v o g who).2.1), (.bool (freeF v o g who).2.2.1)] 23)
  rw [← hW] at hB
  clear hW l0 l1 l2 l3 l4 l5 a0 a1 a2 a3 a4 a5 b0 b1 b2 b3 b4 b5
  have qlc : w.heap.size ≠ v3.heap.size := nel
  have qac : na ≠ v3.heap.size := nea
  have qbc : nb ≠ v3.heap.size := neb
  clear ltl nel lta nea ltb neb
  have lec : w.heap.size ≤ v3.heap.size := lec0
  clear lec0
  generalize v3.heap.size = nc at *
  refine (rfree_any v o g who _ h0).mono ?_
  rintro e v4 ⟨rfl, hb⟩
  replace Bl := Bl.keep hb
  replace Ba := Ba.keep hb
  replace Bb := Bb.keep hb
  replace Bc := Bc.keep hb
  replace hB := hB.trans (hb.mono hB.size)
  clear hb
  have Ol := Bl
  obtain ⟨l0, l1, l2, l3, l4, l5⟩ := Ol
  have Oa := Ba
  obtain ⟨a0, a1, a2, a3, a4, a5⟩ := Oa
  have Ob := Bb
  obtain ⟨b0, b1, b2, b3, b4, b5⟩ := Ob
  have Oc := Bc
  obtain ⟨c0, c1, c2, c3, c4, c5⟩ := Oc
  have ltl := Bl.lt
  have nel : w.heap.size ≠ v4.heap.size := Nat.ne_of_lt ltl
  have lta := Ba.lt
  have nea : na ≠ v4.heap.size := Nat.ne_of_lt lta
  have ltb := Bb.lt
  have neb : nb ≠ v4.heap.size := Nat.ne_of_lt ltb
  have ltc := Bc.lt
  have nec : nc ≠ v4.heap.size := Nat.ne_of_lt ltc
  have led0 : w.heap.size ≤ v4.heap.size := hB.size
  go_wp2_with fail
  refine at_code (fun W4 hW => ?_)
  replace Bl := Bl.alloc (.cells #[(ix (freeF v o g who).1), (ix (freeF v o g who).2.1), (.bool (freeF v o g who).2.2.1)] 23)
  replace Ba := Ba.alloc (.cells #[(ix (freeF v o g who).1), (ix (freeF v o g who).2.1), (.bool (freeF v o g who).2.2.1)] 23)
  replace Bb := Bb.alloc (.cells #[(ix (freeF v o g who).1), (ix (freeF v o g who).2.1), (.bool (freeF v o g who).2.2.1)] 23)
  replace Bc := Bc.alloc (.cells #[(ix (freeF v o g who).1), (ix (freeF v o g who).2.1), (.bool (freeF v o g who).2.2.1)] 23)
  have Bd := Box.new v4 (ix (freeF v o g who).1) (ix (freeF v o g who).2.1) (.bool (freeF v o g who).2.2.1)
  rw [← hW] at Bl
  rw [← hW] at Ba
  rw [← hW] at Bb
  rw [← hW] at Bc
  rw [← hW] at Bd
  replace hB := hB.alloc hB.size (.cells #[(ix (freeF v o g who).1), (ix (freeF v o g who).2.1), (.bool (freeF v o g who).2.2.1)] 23)
  rw [← hW] at hB
  clear hW l0 l1 l2 l3 l4 l5 a0 a1 a2 a3 a4 a5 b0 b1 b2 b3 b4 b5 c0 c1 c2 c3 c4 c5
  have qld : w.heap.size ≠ v4.heap.size := nel
  have qad : na ≠ v4.heap.size := nea
  have qbd : nb ≠ v4.heap.size := neb
  have qcd : nc ≠ v4.heap.size := nec
  clear ltl nel lta nea ltb neb ltc nec
  have led : w.heap.size ≤ v4.heap.size := led0
  clear led0
  generalize v4.heap.size = nd at *
  go_region_held3 (fun W => Below W4.heap.size W4 W ∧ W.cell? ⟨w.heap.size, 0, none⟩ = some (ix v) ∧ W.cell? ⟨w.heap.size, 1, none⟩ = some (ix o) ∧ W.cell? ⟨w.heap.size, 2, none⟩ = some (.bool g) ∧ W.cell? ⟨na, 0, none⟩ = some (ix (tryF v o g who).1) ∧ W.cell? ⟨na, 1, none⟩ = some (ix (tryF v o g who).2.1) ∧ W.cell? ⟨na, 2, none⟩ = some (.bool (tryF v o g who).2.2.1) ∧ W.cell? ⟨nb, 0, none⟩ = some (ix (tryF v o g who).1) ∧ W.cell? ⟨nb, 1, none⟩ = some (ix (tryF v o g who).2.1) ∧ W.cell? ⟨nb, 2, none⟩ = some (.bool (tryF v o g who).2.2.1) ∧ W.cell? ⟨nc, 0, none⟩ = some (ix (freeF v o g who).1) ∧ W.cell? ⟨nc, 1, none⟩ = some (ix (freeF v o g who).2.1) ∧ W.cell? ⟨nc, 2, none⟩ = some (.bool (freeF v o g who).2.2.1) ∧ W.cell? ⟨nd, 0, none⟩ = some (ix (freeF v o g who).1) ∧ W.cell? ⟨nd, 1, none⟩ = some (ix (freeF v o g who).2.1) ∧ W.cell? ⟨nd, 2, none⟩ = some (.bool (freeF v o g who).2.2.1)) (first | exact s5 Bl Ba Bb Bc Bd (Below.refl _ _).drew | exact s5 Bl Ba Bb Bc Bd (stepB (by assumption) (by assumption) (Nat.le_refl _)))
    (first | (go_at_call 12; refine (right_any _ _ _ _).mono ?_; rintro e w' ⟨rfl, hb⟩) | (go_at_call 13; refine (rright_any _ _ _ _).mono ?_; rintro e w' ⟨rfl, hb⟩))
  have hR := (by assumption : Below W4.heap.size W4 w' ∧ _).1
  replace Bl := Bl.keep hR
  replace Ba := Ba.keep hR
  replace Bb := Bb.keep hR
  replace Bc := Bc.keep hR
  replace Bd := Bd.keep hR
  replace hB := hB.trans (hR.mono hB.size)
  clear hR
  go_wp2_with fail
  refine (bump_any v o g who _ h0).mono ?_
  rintro e v5 ⟨rfl, hb⟩
  replace Bl := Bl.keep hb
  replace Ba := Ba.keep hb
  replace Bb := Bb.keep hb
  replace Bc := Bc.keep hb
  replace Bd := Bd.keep hb
  replace hB := hB.trans (hb.mono hB.size)
  clear hb
  have Ol := Bl
  obtain ⟨l0, l1, l2, l3, l4, l5⟩ := Ol
  have Oa := Ba
  obtain ⟨a0, a1, a2, a3, a4, a5⟩ := Oa
  have Ob := Bb
  obtain ⟨b0, b1, b2, b3, b4, b5⟩ := Ob
  have Oc := Bc
  obtain ⟨c0, c1, c2, c3, c4, c5⟩ := Oc
  have Od := Bd
  obtain ⟨d0, d1, d2, d3, d4, d5⟩ := Od
  have ltl := Bl.lt
  have nel : w.heap.size ≠ v5.heap.size := Nat.ne_of_lt ltl
  have lta := Ba.lt
  have nea : na ≠ v5.heap.size := Nat.ne_of_lt lta
  have ltb := Bb.lt
  have neb : nb ≠ v5.heap.size := Nat.ne_of_lt ltb
  have ltc := Bc.lt
  have nec : nc ≠ v5.heap.size := Nat.ne_of_lt ltc
  have ltd := Bd.lt
  have ned : nd ≠ v5.heap.size := Nat.ne_of_lt ltd
  go_wp2_with fail
  refine at_world (fun W5 hW => ?_)
  replace Bl := Bl.other (u := (ix (bumpF v o g who).1)) (v := (ix (bumpF v o g who).2.1)) (t := (.bool (bumpF v o g who).2.2.1)) qla.symm
  replace Ba := Ba.store (u := (ix (bumpF v o g who).1)) (v := (ix (bumpF v o g who).2.1)) (t := (.bool (bumpF v o g who).2.2.1))
  replace Bb := Bb.other (u := (ix (bumpF v o g who).1)) (v := (ix (bumpF v o g who).2.1)) (t := (.bool (bumpF v o g who).2.2.1)) qab
  replace Bc := Bc.other (u := (ix (bumpF v o g who).1)) (v := (ix (bumpF v o g who).2.1)) (t := (.bool (bumpF v o g who).2.2.1)) qac
  replace Bd := Bd.other (u := (ix (bumpF v o g who).1)) (v := (ix (bumpF v o g who).2.1)) (t := (.bool (bumpF v o g who).2.2.1)) qad
  rw [← hW] at Bl
  rw [← hW] at Ba
  rw [← hW] at Bb
  rw [← hW] at Bc
  rw [← hW] at Bd
  replace hB := below_store (u := (ix (bumpF v o g who).1)) (v := (ix (bumpF v o g who).2.1)) (t := (.bool (bumpF v o g who).2.2.1)) hB lea
  rw [← hW] at hB
  clear hW l0 l1 l2 l3 l4 l5 a0 a1 a2 a3 a4 a5 b0 b1 b2 b3 b4 b5 c0 c1 c2 c3 c4 c5 d0 d1 d2 d3 d4 d5
  clear ltl nel lta nea ltb neb ltc nec ltd ned
  refine (rbump_any v o g who _ h0).mono ?_
  rintro e v6 ⟨rfl, hb⟩
  replace Bl := Bl.keep hb
  replace Ba := Ba.keep hb
  replace Bb := Bb.keep hb
  replace Bc := Bc.keep hb
  replace Bd := Bd.keep hb
  replace hB := hB.trans (hb.mono hB.size)
  clear hb
  have Ol := Bl
  obtain ⟨l0, l1, l2, l3, l4, l5⟩ := Ol
  have Oa := Ba
  obtain ⟨a0, a1, a2, a3, a4, a5⟩ := Oa
  have Ob := Bb
  obtain ⟨b0, b1, b2, b3, b4, b5⟩ := Ob
  have Oc := Bc
  obtain ⟨c0, c1, c2, c3, c4, c5⟩ := Oc
  have Od := Bd
  obtain ⟨d0, d1, d2, d3, d4, d5⟩ := Od
  have ltl := Bl.lt
  have nel : w.heap.size ≠ v6.heap.size := Nat.ne_of_lt ltl
  have lta := Ba.lt
  have nea : na ≠ v6.heap.size := Nat.ne_of_lt lta
  have ltb := Bb.lt
  have neb : nb ≠ v6.heap.size := Nat.ne_of_lt ltb
  have ltc := Bc.lt
  have nec : nc ≠ v6.heap.size := Nat.ne_of_lt ltc
  have ltd := Bd.lt
  have ned : nd ≠ v6.heap.size := Nat.ne_of_lt ltd
  go_wp2_with fail
  refine at_world (fun W6 hW => ?_)
  replace Bl := Bl.other (u := (ix (bumpF v o g who).1)) (v := (ix (bumpF v o g who).2.1)) (t := (.bool (bumpF v o g who).2.2.1)) qlb.symm
  replace Ba := Ba.other (u := (ix (bumpF v o g who).1)) (v := (ix (bumpF v o g who).2.1)) (t := (.bool (bumpF v o g who).2.2.1)) qab.symm
  replace Bb := Bb.store (u := (ix (bumpF v o g who).1)) (v := (ix (bumpF v o g who).2.1)) (t := (.bool (bumpF v o g who).2.2.1))
  replace Bc := Bc.other (u := (ix (bumpF v o g who).1)) (v := (ix (bumpF v o g who).2.1)) (t := (.bool (bumpF v o g who).2.2.1)) qbc
  replace Bd := Bd.other (u := (ix (bumpF v o g who).1)) (v := (ix (bumpF v o g who).2.1)) (t := (.bool (bumpF v o g who).2.2.1)) qbd
  rw [← hW] at Bl
  rw [← hW] at Ba
  rw [← hW] at Bb
  rw [← hW] at Bc
  rw [← hW] at Bd
  replace hB := below_store (u := (ix (bumpF v o g who).1)) (v := (ix (bumpF v o g who).2.1)) (t := (.bool (bumpF v o g who).2.2.1)) hB leb
  rw [← hW] at hB
  clear hW l0 l1 l2 l3 l4 l5 a0 a1 a2 a3 a4 a5 b0 b1 b2 b3 b4 b5 c0 c1 c2 c3 c4 c5 d0 d1 d2 d3 d4 d5
  clear ltl nel lta nea ltb neb ltc nec ltd ned
  refine (retire_any v o g who _ h0).mono ?_
  rintro e v7 ⟨rfl, hb⟩
  replace Bl := Bl.keep hb
  replace Ba := Ba.keep hb
  replace Bb := Bb.keep hb
  replace Bc := Bc.keep hb
  replace Bd := Bd.keep hb
  replace hB := hB.trans (hb.mono hB.size)
  clear hb
  have Ol := Bl
  obtain ⟨l0, l1, l2, l3, l4, l5⟩ := Ol
  have Oa := Ba
  obtain ⟨a0, a1, a2, a3, a4, a5⟩ := Oa
  have Ob := Bb
  obtain ⟨b0, b1, b2, b3, b4, b5⟩ := Ob
  have Oc := Bc
  obtain ⟨c0, c1, c2, c3, c4, c5⟩ := Oc
  have Od := Bd
  obtain ⟨d0, d1, d2, d3, d4, d5⟩ := Od
  have ltl := Bl.lt
  have nel : w.heap.size ≠ v7.heap.size := Nat.ne_of_lt ltl
  have lta := Ba.lt
  have nea : na ≠ v7.heap.size := Nat.ne_of_lt lta
  have ltb := Bb.lt
  have neb : nb ≠ v7.heap.size := Nat.ne_of_lt ltb
  have ltc := Bc.lt
  have nec : nc ≠ v7.heap.size := Nat.ne_of_lt ltc
  have ltd := Bd.lt
  have ned : nd ≠ v7.heap.size := Nat.ne_of_lt ltd
  go_wp2_with fail
  refine at_world (fun W7 hW => ?_)
  replace Bl := Bl.other (u := (ix (retireF v o g who).1)) (v := (ix (retireF v o g who).2.1)) (t := (.bool (retireF v o g who).2.2.1)) qlc.symm
  replace Ba := Ba.other (u := (ix (retireF v o g who).1)) (v := (ix (retireF v o g who).2.1)) (t := (.bool (retireF v o g who).2.2.1)) qac.symm
  replace Bb := Bb.other (u := (ix (retireF v o g who).1)) (v := (ix (retireF v o g who).2.1)) (t := (.bool (retireF v o g who).2.2.1)) qbc.symm
  replace Bc := Bc.store (u := (ix (retireF v o g who).1)) (v := (ix (retireF v o g who).2.1)) (t := (.bool (retireF v o g who).2.2.1))
  replace Bd := Bd.other (u := (ix (retireF v o g who).1)) (v := (ix (retireF v o g who).2.1)) (t := (.bool (retireF v o g who).2.2.1)) qcd
  rw [← hW] at Bl
  rw [← hW] at Ba
  rw [← hW] at Bb
  rw [← hW] at Bc
  rw [← hW] at Bd
  replace hB := below_store (u := (ix (retireF v o g who).1)) (v := (ix (retireF v o g who).2.1)) (t := (.bool (retireF v o g who).2.2.1)) hB lec
  rw [← hW] at hB
  clear hW l0 l1 l2 l3 l4 l5 a0 a1 a2 a3 a4 a5 b0 b1 b2 b3 b4 b5 c0 c1 c2 c3 c4 c5 d0 d1 d2 d3 d4 d5
  clear ltl nel lta nea ltb neb ltc nec ltd ned
  refine (rretire_any v o g who _ h0).mono ?_
  rintro e v8 ⟨rfl, hb⟩
  replace Bl := Bl.keep hb
  replace Ba := Ba.keep hb
  replace Bb := Bb.keep hb
  replace Bc := Bc.keep hb
  replace Bd := Bd.keep hb
  replace hB := hB.trans (hb.mono hB.size)
  clear hb
  have Ol := Bl
  obtain ⟨l0, l1, l2, l3, l4, l5⟩ := Ol
  have Oa := Ba
  obtain ⟨a0, a1, a2, a3, a4, a5⟩ := Oa
  have Ob := Bb
  obtain ⟨b0, b1, b2, b3, b4, b5⟩ := Ob
  have Oc := Bc
  obtain ⟨c0, c1, c2, c3, c4, c5⟩ := Oc
  have Od := Bd
  obtain ⟨d0, d1, d2, d3, d4, d5⟩ := Od
  have ltl := Bl.lt
  have nel : w.heap.size ≠ v8.heap.size := Nat.ne_of_lt ltl
  have lta := Ba.lt
  have nea : na ≠ v8.heap.size := Nat.ne_of_lt lta
  have ltb := Bb.lt
  have neb : nb ≠ v8.heap.size := Nat.ne_of_lt ltb
  have ltc := Bc.lt
  have nec : nc ≠ v8.heap.size := Nat.ne_of_lt ltc
  have ltd := Bd.lt
  have ned : nd ≠ v8.heap.size := Nat.ne_of_lt ltd
  go_wp2_with fail
  refine at_world (fun W8 hW => ?_)
  replace Bl := Bl.other (u := (ix (retireF v o g who).1)) (v := (ix (retireF v o g who).2.1)) (t := (.bool (retireF v o g who).2.2.1)) qld.symm
  replace Ba := Ba.other (u := (ix (retireF v o g who).1)) (v := (ix (retireF v o g who).2.1)) (t := (.bool (retireF v o g who).2.2.1)) qad.symm
  replace Bb := Bb.other (u := (ix (retireF v o g who).1)) (v := (ix (retireF v o g who).2.1)) (t := (.bool (retireF v o g who).2.2.1)) qbd.symm
  replace Bc := Bc.other (u := (ix (retireF v o g who).1)) (v := (ix (retireF v o g who).2.1)) (t := (.bool (retireF v o g who).2.2.1)) qcd.symm
  replace Bd := Bd.store (u := (ix (retireF v o g who).1)) (v := (ix (retireF v o g who).2.1)) (t := (.bool (retireF v o g who).2.2.1))
  rw [← hW] at Bl
  rw [← hW] at Ba
  rw [← hW] at Bb
  rw [← hW] at Bc
  rw [← hW] at Bd
  replace hB := below_store (u := (ix (retireF v o g who).1)) (v := (ix (retireF v o g who).2.1)) (t := (.bool (retireF v o g who).2.2.1)) hB led
  rw [← hW] at hB
  clear hW l0 l1 l2 l3 l4 l5 a0 a1 a2 a3 a4 a5 b0 b1 b2 b3 b4 b5 c0 c1 c2 c3 c4 c5 d0 d1 d2 d3 d4 d5
  clear ltl nel lta nea ltb neb ltc nec ltd ned
  refine (renew_any v o g _ h0).mono ?_
  rintro e v9 ⟨rfl, hb⟩
  replace Bl := Bl.keep hb
  replace Ba := Ba.keep hb
  replace Bb := Bb.keep hb
  replace Bc := Bc.keep hb
  replace Bd := Bd.keep hb
  replace hB := hB.trans (hb.mono hB.size)
  clear hb
  have Ol := Bl
  obtain ⟨l0, l1, l2, l3, l4, l5⟩ := Ol
  have Oa := Ba
  obtain ⟨a0, a1, a2, a3, a4, a5⟩ := Oa
  have Ob := Bb
  obtain ⟨b0, b1, b2, b3, b4, b5⟩ := Ob
  have Oc := Bc
  obtain ⟨c0, c1, c2, c3, c4, c5⟩ := Oc
  have Od := Bd
  obtain ⟨d0, d1, d2, d3, d4, d5⟩ := Od
  have ltl := Bl.lt
  have nel : w.heap.size ≠ v9.heap.size := Nat.ne_of_lt ltl
  have lta := Ba.lt
  have nea : na ≠ v9.heap.size := Nat.ne_of_lt lta
  have ltb := Bb.lt
  have neb : nb ≠ v9.heap.size := Nat.ne_of_lt ltb
  have ltc := Bc.lt
  have nec : nc ≠ v9.heap.size := Nat.ne_of_lt ltc
  have ltd := Bd.lt
  have ned : nd ≠ v9.heap.size := Nat.ne_of_lt ltd
  have lex0 : w.heap.size ≤ v9.heap.size := hB.size
  go_wp2_with fail
  refine at_world (fun W9 hW => ?_)
  replace Bl := Bl.alloc (.cells #[(ix (renewF v o g).1), (ix (renewF v o g).2.1), (.bool (renewF v o g).2.2.1)] 23)
  replace Ba := Ba.alloc (.cells #[(ix (renewF v o g).1), (ix (renewF v o g).2.1), (.bool (renewF v o g).2.2.1)] 23)
  replace Bb := Bb.alloc (.cells #[(ix (renewF v o g).1), (ix (renewF v o g).2.1), (.bool (renewF v o g).2.2.1)] 23)
  replace Bc := Bc.alloc (.cells #[(ix (renewF v o g).1), (ix (renewF v o g).2.1), (.bool (renewF v o g).2.2.1)] 23)
  replace Bd := Bd.alloc (.cells #[(ix (renewF v o g).1), (ix (renewF v o g).2.1), (.bool (renewF v o g).2.2.1)] 23)
  have Bx := Box.new v9 (ix (renewF v o g).1) (ix (renewF v o g).2.1) (.bool (renewF v o g).2.2.1)
  rw [← hW] at Bl
  rw [← hW] at Ba
  rw [← hW] at Bb
  rw [← hW] at Bc
  rw [← hW] at Bd
  rw [← hW] at Bx
  replace hB := hB.alloc hB.size (.cells #[(ix (renewF v o g).1), (ix (renewF v o g).2.1), (.bool (renewF v o g).2.2.1)] 23)
  rw [← hW] at hB
  clear hW l0 l1 l2 l3 l4 l5 a0 a1 a2 a3 a4 a5 b0 b1 b2 b3 b4 b5 c0 c1 c2 c3 c4 c5 d0 d1 d2 d3 d4 d5
  have qlx : w.heap.size ≠ v9.heap.size := nel
  have qax : na ≠ v9.heap.size := nea
  have qbx : nb ≠ v9.heap.size := neb
  have qcx : nc ≠ v9.heap.size := nec
  have qdx : nd ≠ v9.heap.size := ned
  clear ltl nel lta nea ltb neb ltc nec ltd ned
  have lex : w.heap.size ≤ v9.heap.size := lex0
  clear lex0
  generalize v9.heap.size = nx at *
  refine (rrenew_any v o g _ h0).mono ?_
  rintro e v10 ⟨rfl, hb⟩
  replace Bl := Bl.keep hb
  replace Ba := Ba.keep hb
  replace Bb := Bb.keep hb
  replace Bc := Bc.keep hb
  replace Bd := Bd.keep hb
  replace Bx := Bx.keep hb
  replace hB := hB.trans (hb.mono hB.size)
  clear hb
  have Ol := Bl
  obtain ⟨l0, l1, l2, l3, l4, l5⟩ := Ol
  have Oa := Ba
  obtain ⟨a0, a1, a2, a3, a4, a5⟩ := Oa
  have Ob := Bb
  obtain ⟨b0, b1, b2, b3, b4, b5⟩ := Ob
  have Oc := Bc
  obtain ⟨c0, c1, c2, c3, c4, c5⟩ := Oc
  have Od := Bd
  obtain ⟨d0, d1, d2, d3, d4, d5⟩ := Od
  have Ox := Bx
  obtain ⟨x0, x1, x2, x3, x4, x5⟩ := Ox
  have ltl := Bl.lt
  have nel : w.heap.size ≠ v10.heap.size := Nat.ne_of_lt ltl
  have lta := Ba.lt
  have nea : na ≠ v10.heap.size := Nat.ne_of_lt lta
  have ltb := Bb.lt
  have neb : nb ≠ v10.heap.size := Nat.ne_of_lt ltb
  have ltc := Bc.lt
  have nec : nc ≠ v10.heap.size := Nat.ne_of_lt ltc
  have ltd := Bd.lt
  have ned : nd ≠ v10.heap.size := Nat.ne_of_lt ltd
  have ltx := Bx.lt
  have nex : nx ≠ v10.heap.size := Nat.ne_of_lt ltx
  have ley0 : w.heap.size ≤ v10.heap.size := hB.size
  go_wp2_with fail
  refine at_world (fun W10 hW => ?_)
  replace Bl := Bl.alloc (.cells #[(ix (renewF v o g).1), (ix (renewF v o g).2.1), (.bool (renewF v o g).2.2.1)] 23)
  replace Ba := Ba.alloc (.cells #[(ix (renewF v o g).1), (ix (renewF v o g).2.1), (.bool (renewF v o g).2.2.1)] 23)
  replace Bb := Bb.alloc (.cells #[(ix (renewF v o g).1), (ix (renewF v o g).2.1), (.bool (renewF v o g).2.2.1)] 23)
  replace Bc := Bc.alloc (.cells #[(ix (renewF v o g).1), (ix (renewF v o g).2.1), (.bool (renewF v o g).2.2.1)] 23)
  replace Bd := Bd.alloc (.cells #[(ix (renewF v o g).1), (ix (renewF v o g).2.1), (.bool (renewF v o g).2.2.1)] 23)
  replace Bx := Bx.alloc (.cells #[(ix (renewF v o g).1), (ix (renewF v o g).2.1), (.bool (renewF v o g).2.2.1)] 23)
  have By := Box.new v10 (ix (renewF v o g).1) (ix (renewF v o g).2.1) (.bool (renewF v o g).2.2.1)
  rw [← hW] at Bl
  rw [← hW] at Ba
  rw [← hW] at Bb
  rw [← hW] at Bc
  rw [← hW] at Bd
  rw [← hW] at Bx
  rw [← hW] at By
  replace hB := hB.alloc hB.size (.cells #[(ix (renewF v o g).1), (ix (renewF v o g).2.1), (.bool (renewF v o g).2.2.1)] 23)
  rw [← hW] at hB
  clear hW l0 l1 l2 l3 l4 l5 a0 a1 a2 a3 a4 a5 b0 b1 b2 b3 b4 b5 c0 c1 c2 c3 c4 c5 d0 d1 d2 d3 d4 d5 x0 x1 x2 x3 x4 x5
  have qly : w.heap.size ≠ v10.heap.size := nel
  have qay : na ≠ v10.heap.size := nea
  have qby : nb ≠ v10.heap.size := neb
  have qcy : nc ≠ v10.heap.size := nec
  have qdy : nd ≠ v10.heap.size := ned
  have qxy : nx ≠ v10.heap.size := nex
  clear ltl nel lta nea ltb neb ltc nec ltd ned ltx nex
  have ley : w.heap.size ≤ v10.heap.size := ley0
  clear ley0
  generalize v10.heap.size = ny at *
  refine (live_any _).mono ?_
  rintro e v11 ⟨rfl, hb⟩
  replace Bl := Bl.keep hb
  replace Ba := Ba.keep hb
  replace Bb := Bb.keep hb
  replace Bc := Bc.keep hb
  replace Bd := Bd.keep hb
  replace Bx := Bx.keep hb
  replace By := By.keep hb
  replace hB := hB.trans (hb.mono hB.size)
  clear hb
  have Ol := Bl
  obtain ⟨l0, l1, l2, l3, l4, l5⟩ := Ol
  have Oa := Ba
  obtain ⟨a0, a1, a2, a3, a4, a5⟩ := Oa
  have Ob := Bb
  obtain ⟨b0, b1, b2, b3, b4, b5⟩ := Ob
  have Oc := Bc
  obtain ⟨c0, c1, c2, c3, c4, c5⟩ := Oc
  have Od := Bd
  obtain ⟨d0, d1, d2, d3, d4, d5⟩ := Od
  have Ox := Bx
  obtain ⟨x0, x1, x2, x3, x4, x5⟩ := Ox
  have Oy := By
  obtain ⟨y0, y1, y2, y3, y4, y5⟩ := Oy
  have ltl := Bl.lt
  have nel : w.heap.size ≠ v11.heap.size := Nat.ne_of_lt ltl
  have lta := Ba.lt
  have nea : na ≠ v11.heap.size := Nat.ne_of_lt lta
  have ltb := Bb.lt
  have neb : nb ≠ v11.heap.size := Nat.ne_of_lt ltb
  have ltc := Bc.lt
  have nec : nc ≠ v11.heap.size := Nat.ne_of_lt ltc
  have ltd := Bd.lt
  have ned : nd ≠ v11.heap.size := Nat.ne_of_lt ltd
  have ltx := Bx.lt
  have nex : nx ≠ v11.heap.size := Nat.ne_of_lt ltx
  have lty := By.lt
  have ney : ny ≠ v11.heap.size := Nat.ne_of_lt lty
  go_wp2_with fail
  go_ret
  exact ⟨rfl, hB⟩
end Go.Proofs.Ytpgiidfifhocpaa
