/- The law KeyRanges answers true. -/
import Derived.Test.YtchbenfpfemgnaaA5
import Derived.Test.YtchbenfpfemgnaaA8
import Derived.Test.YtchbenfpfemgnaaA9
import Derived.Deep.RegionHeld3
namespace Go.Proofs.Ytchbenfpfemgnaa
set_option linter.unusedSimpArgs false
open Go.RowKit
set_option linter.unusedVariables false

/-- A box of two cells in memory. -/
structure Box (W : World) (b : Nat) (x y : Value) : Prop where
  c0 : W.cell? ⟨b, 0, none⟩ = some x
  c1 : W.cell? ⟨b, 1, none⟩ = some y
  f0 : W.frozen? ⟨b, 0, none⟩ = false
  f1 : W.frozen? ⟨b, 1, none⟩ = false
theorem Box.lt {W : World} {b : Nat} {x y : Value} (h : Box W b x y) : b < W.heap.size := World.block_lt_of_cell? W _ h.c0
theorem Box.keep {W w1 : World} {b : Nat} {x y : Value} (h : Box W b x y) (hb : Below W.heap.size W w1) : Box w1 b x y := by
  obtain ⟨a0, a1, a2, a3⟩ := keep2 hb b x y h.c0 h.c1 h.f0 h.f1
  exact ⟨a0, a1, a2, a3⟩
theorem Box.alloc {W : World} {b : Nat} {x y : Value} (h : Box W b x y) (o : Obj) : Box (W.alloc o) b x y := h.keep ((Below.refl _ _).alloc (Nat.le_refl _) o)
theorem Box.new (W : World) (x y : Value) : Box (W.alloc (.cells #[x, y] 28)) W.heap.size x y := by
  constructor <;> simp [go_sem]
theorem size_alloc (W : World) (o : Obj) : (W.alloc o).heap.size = W.heap.size + 1 := by simp

theorem within_eq (a0 a1 b0 b1 : ByteArray) : withinB a0 a1 b0 b1 = (sb a0 a1 && (sb b0 b1 && (!lt a0 b0 && !bef b1 a1))) := by
  unfold withinB
  cases h1 : sb a0 a1
  · have e : meetF a0 a1 b0 b1 = (emptyS, emptyS, false) := by unfold meetF; rw [if_neg (by simp [h1])]
    rw [e]; simp
  · cases h2 : sb b0 b1
    · have e : meetF a0 a1 b0 b1 = (emptyS, emptyS, false) := by unfold meetF; rw [if_neg (by simp [h2])]
      rw [e]; simp
    · rw [meetF_E a0 a1 b0 b1 h1 h2]
      have em : maxS a0 b0 = if lt a0 b0 = true then b0 else a0 := rfl
      have ef : firstS a1 b1 = if bef b1 a1 = true then b1 else a1 := rfl
      have hl : lt a0 b0 = true → (b0.toList == a0.toList) = false := fun h => (gt_facts a0 b0 h).2
      have hf : bef b1 a1 = true → (b1.toList == a1.toList) = false := by
        intro h
        rw [beq_eq_false_iff_ne]; intro e
        unfold bef emp lt at h; rw [e, bl_irr] at h
        cases k : a1.toList.isEmpty <;> simp [k] at h
      unfold meetE
      rw [em, ef]
      cases k1 : lt a0 b0 <;> cases k2 : bef b1 a1 <;> simp [h1, h2, k1, k2] at hl hf ⊢
      all_goals first | (intro h; exact absurd h hl) | (split <;> simp_all; done) | (simp_all; done)

def splitC (a0 a1 s : ByteArray) : Bool := sb a0 a1 && (lt a0 s && sb s a1)
theorem split_both (a0 a1 s : ByteArray) : ∃ x0 x1 y0 y1 ok, (∀ w, Calls Try.prog 17 #[.agg #[.string a0, .string a1], .string s] w fun e w' => e = .returned (sv x0 x1 y0 y1 ok) ∧ Below w.heap.size w w') ∧
    (∀ w, Calls Try.prog 18 #[.agg #[.string a0, .string a1], .string s] w fun e w' => e = .returned (sv x0 x1 y0 y1 ok) ∧ Below w.heap.size w w') := by
  by_cases h : sb a0 a1 = true ∧ lt a0 s = true ∧ sb s a1 = true
  · exact ⟨_, _, _, _, _, fun w => split_yes a0 a1 s w h.1 h.2.1 h.2.2, fun w => rsplit_yes a0 a1 s w h.1 h.2.1 h.2.2⟩
  · have k : sb a0 a1 = false ∨ lt a0 s = false ∨ sb s a1 = false := by
      cases h1 : sb a0 a1 <;> cases h2 : lt a0 s <;> cases h3 : sb s a1 <;> simp_all
    exact ⟨_, _, _, _, _, fun w => split_no a0 a1 s w k, fun w => rsplit_no a0 a1 s w k⟩

theorem stepB {B : Nat} {W W1 w' : World} {p : Prop} (h : Below B W W1 ∧ p) (hb : Below W1.heap.size W1 w') (hB : B ≤ W.heap.size) : Below B W w' := h.1.trans (hb.mono (Nat.le_trans hB h.1.size))
theorem s8 {W W1 : World} {b0 : Nat} {x0 y0 : Value} {b1 : Nat} {x1 y1 : Value} {b2 : Nat} {x2 y2 : Value} {b3 : Nat} {x3 y3 : Value} {b4 : Nat} {x4 y4 : Value} {b5 : Nat} {x5 y5 : Value} {b6 : Nat} {x6 y6 : Value} {b7 : Nat} {x7 y7 : Value} (h0 : Box W b0 x0 y0) (h1 : Box W b1 x1 y1) (h2 : Box W b2 x2 y2) (h3 : Box W b3 x3 y3) (h4 : Box W b4 x4 y4) (h5 : Box W b5 x5 y5) (h6 : Box W b6 x6 y6) (h7 : Box W b7 x7 y7) (h : Below W.heap.size W W1) :
    Below W.heap.size W W1 ∧ W1.cell? ⟨b0, 0, none⟩ = some x0 ∧ W1.cell? ⟨b0, 1, none⟩ = some y0 ∧ W1.cell? ⟨b1, 0, none⟩ = some x1 ∧ W1.cell? ⟨b1, 1, none⟩ = some y1 ∧ W1.cell? ⟨b2, 0, none⟩ = some x2 ∧ W1.cell? ⟨b2, 1, none⟩ = some y2 ∧ W1.cell? ⟨b3, 0, none⟩ = some x3 ∧ W1.cell? ⟨b3, 1, none⟩ = some y3 ∧ W1.cell? ⟨b4, 0, none⟩ = some x4 ∧ W1.cell? ⟨b4, 1, none⟩ = some y4 ∧ W1.cell? ⟨b5, 0, none⟩ = some x5 ∧ W1.cell? ⟨b5, 1, none⟩ = some y5 ∧ W1.cell? ⟨b6, 0, none⟩ = some x6 ∧ W1.cell? ⟨b6, 1, none⟩ = some y6 ∧ W1.cell? ⟨b7, 0, none⟩ = some x7 ∧ W1.cell? ⟨b7, 1, none⟩ = some y7 :=
  ⟨h, (h0.keep h).c0, (h0.keep h).c1, (h1.keep h).c0, (h1.keep h).c1, (h2.keep h).c0, (h2.keep h).c1, (h3.keep h).c0, (h3.keep h).c1, (h4.keep h).c0, (h4.keep h).c1, (h5.keep h).c0, (h5.keep h).c1, (h6.keep h).c0, (h6.keep h).c1, (h7.keep h).c0, (h7.keep h).c1⟩

set_option maxHeartbeats 6000000 in
theorem ranges_walk (a0 a1 b0 b1 s : ByteArray) (w : World) (hs : s.size ≤ 140737488351232) :
    Calls Try.prog 4 #[.agg #[.string a0, .string a1], .agg #[.string b0, .string b1], .string s] w fun e w' => e = .returned (.bool true) ∧ Below w.heap.size w w' := by
  obtain ⟨x0, x1, y0, y1, sok, CS, CR⟩ := split_both a0 a1 s
  have CS' := Lib.hid CS
  have CR' := Lib.hid CR
  clear CS CR
  obtain ⟨m0, m1, mok, hm⟩ : ∃ m0 m1 ok, meetF a0 a1 b0 b1 = (m0, m1, ok) := ⟨_, _, _, rfl⟩
  have CM := meet_any a0 a1 b0 b1
  have CN := rmeet_any a0 a1 b0 b1
  rw [hm] at CM CN
  clear hm
  have CM' := Lib.hid CM
  have CN' := Lib.hid CN
  clear CM CN
  have CW := rwithin_any a0 a1 b0 b1
  rw [← within_eq] at CW
  have CW' := Lib.hid CW
  clear CW
  go_enter Try.func4, Try.ntmps4
  go_wp2_with fail
  refine at_world (fun W0 hW => ?_)
  have Ba : Box W0 w.heap.size (.string a0) (.string a1) := by rw [hW]; exact (Box.new _ _ _).alloc _
  have Bb : Box W0 (w.heap.size + 1) (.string b0) (.string b1) := by rw [hW, ← size_alloc w (.cells #[.string a0, .string a1] 28)]; exact Box.new _ _ _
  have hB : Below w.heap.size w W0 := by rw [hW]; exact ((Below.refl _ _).alloc (Nat.le_refl _) _).alloc (by simp) _
  clear hW
  refine (CM'.out _).mono ?_
  rintro e v1 ⟨rfl, hb⟩
  replace Ba := Ba.keep hb
  replace Bb := Bb.keep hb
  replace hB := hB.trans (hb.mono hB.size)
  clear hb
  have Oa := Ba
  obtain ⟨za0, za1, za2, za3⟩ := Oa
  have Ob := Bb
  obtain ⟨zb0, zb1, zb2, zb3⟩ := Ob
  have lta := Ba.lt
  have nea : w.heap.size ≠ v1.heap.size := Nat.ne_of_lt lta
  have ltb := Bb.lt
  have neb : (w.heap.size + 1) ≠ v1.heap.size := Nat.ne_of_lt ltb
  have lem0 : w.heap.size ≤ v1.heap.size := hB.size
  go_wp2_with fail
  refine at_world (fun W1 hW => ?_)
  replace Ba := Ba.alloc (.cells #[(.string m0), (.string m1)] 28)
  replace Bb := Bb.alloc (.cells #[(.string m0), (.string m1)] 28)
  have Bm := Box.new (v1) (.string m0) (.string m1)
  replace hB := hB.alloc hB.size (.cells #[(.string m0), (.string m1)] 28)
  rw [← hW] at Ba
  rw [← hW] at Bb
  rw [← hW] at Bm
  rw [← hW] at hB
  clear hW
  clear za0 za1 za2 za3 zb0 zb1 zb2 zb3
  have qam : w.heap.size ≠ v1.heap.size := by have := lta; omega
  have qbm : (w.heap.size + 1) ≠ v1.heap.size := by have := ltb; omega
  have lem : w.heap.size ≤ v1.heap.size := by have := lem0; omega
  clear lta nea ltb neb
  clear lem0
  generalize v1.heap.size = nm at *
  refine (CN'.out _).mono ?_
  rintro e v2 ⟨rfl, hb⟩
  replace Ba := Ba.keep hb
  replace Bb := Bb.keep hb
  replace Bm := Bm.keep hb
  replace hB := hB.trans (hb.mono hB.size)
  clear hb
  have Oa := Ba
  obtain ⟨za0, za1, za2, za3⟩ := Oa
  have Ob := Bb
  obtain ⟨zb0, zb1, zb2, zb3⟩ := Ob
  have Om := Bm
  obtain ⟨zm0, zm1, zm2, zm3⟩ := Om
  have lta := Ba.lt
  have nea : w.heap.size ≠ v2.heap.size := Nat.ne_of_lt lta
  have ltb := Bb.lt
  have neb : (w.heap.size + 1) ≠ v2.heap.size := Nat.ne_of_lt ltb
  have ltm := Bm.lt
  have nem : nm ≠ v2.heap.size := Nat.ne_of_lt ltm
  have len0 : w.heap.size ≤ v2.heap.size := hB.size
  go_wp2_with fail
  refine at_world (fun W2 hW => ?_)
  replace Ba := Ba.alloc (.cells #[(.string m0), (.string m1)] 28)
  replace Bb := Bb.alloc (.cells #[(.string m0), (.string m1)] 28)
  replace Bm := Bm.alloc (.cells #[(.string m0), (.string m1)] 28)
  have Bn := Box.new (v2) (.string m0) (.string m1)
  replace hB := hB.alloc hB.size (.cells #[(.string m0), (.string m1)] 28)
  rw [← hW] at Ba
  rw [← hW] at Bb
  rw [← hW] at Bm
  rw [← hW] at Bn
  rw [← hW] at hB
  clear hW
  clear za0 za1 za2 za3 zb0 zb1 zb2 zb3 zm0 zm1 zm2 zm3
  have qan : w.heap.size ≠ v2.heap.size := by have := lta; omega
  have qbn : (w.heap.size + 1) ≠ v2.heap.size := by have := ltb; omega
  have qmn : nm ≠ v2.heap.size := by have := ltm; omega
  have len : w.heap.size ≤ v2.heap.size := by have := len0; omega
  clear lta nea ltb neb ltm nem
  clear len0
  generalize v2.heap.size = nn at *
  refine (CS'.out _).mono ?_
  rintro e v3 ⟨rfl, hb⟩
  replace Ba := Ba.keep hb
  replace Bb := Bb.keep hb
  replace Bm := Bm.keep hb
  replace Bn := Bn.keep hb
  replace hB := hB.trans (hb.mono hB.size)
  clear hb
  have Oa := Ba
  obtain ⟨za0, za1, za2, za3⟩ := Oa
  have Ob := Bb
  obtain ⟨zb0, zb1, zb2, zb3⟩ := Ob
  have Om := Bm
  obtain ⟨zm0, zm1, zm2, zm3⟩ := Om
  have On := Bn
  obtain ⟨zn0, zn1, zn2, zn3⟩ := On
  have lta := Ba.lt
  have nea : w.heap.size ≠ v3.heap.size := Nat.ne_of_lt lta
  have ltb := Bb.lt
  have neb : (w.heap.size + 1) ≠ v3.heap.size := Nat.ne_of_lt ltb
  have ltm := Bm.lt
  have nem : nm ≠ v3.heap.size := Nat.ne_of_lt ltm
  have ltn := Bn.lt
  have nen : nn ≠ v3.heap.size := Nat.ne_of_lt ltn
  have lex0 : w.heap.size ≤ v3.heap.size := hB.size
  go_wp2_with fail
  refine at_world (fun W3 hW => ?_)
  replace Ba := Ba.alloc (.cells #[(.string x0), (.string x1)] 28)
  replace Bb := Bb.alloc (.cells #[(.string x0), (.string x1)] 28)
  replace Bm := Bm.alloc (.cells #[(.string x0), (.string x1)] 28)
  replace Bn := Bn.alloc (.cells #[(.string x0), (.string x1)] 28)
  have Bx := Box.new (v3) (.string x0) (.string x1)
  replace hB := hB.alloc hB.size (.cells #[(.string x0), (.string x1)] 28)
  replace Ba := Ba.alloc (.cells #[(.string y0), (.string y1)] 28)
  replace Bb := Bb.alloc (.cells #[(.string y0), (.string y1)] 28)
  replace Bm := Bm.alloc (.cells #[(.string y0), (.string y1)] 28)
  replace Bn := Bn.alloc (.cells #[(.string y0), (.string y1)] 28)
  replace Bx := Bx.alloc (.cells #[(.string y0), (.string y1)] 28)
  have By := Box.new ((v3).alloc (.cells #[(.string x0), (.string x1)] 28)) (.string y0) (.string y1)
  replace hB := hB.alloc hB.size (.cells #[(.string y0), (.string y1)] 28)
  rw [← hW] at Ba
  rw [← hW] at Bb
  rw [← hW] at Bm
  rw [← hW] at Bn
  rw [← hW] at Bx
  rw [← hW] at By
  rw [← hW] at hB
  clear hW
  clear za0 za1 za2 za3 zb0 zb1 zb2 zb3 zm0 zm1 zm2 zm3 zn0 zn1 zn2 zn3
  simp only [size_alloc] at By
  have qax : w.heap.size ≠ v3.heap.size := by have := lta; omega
  have qbx : (w.heap.size + 1) ≠ v3.heap.size := by have := ltb; omega
  have qmx : nm ≠ v3.heap.size := by have := ltm; omega
  have qnx : nn ≠ v3.heap.size := by have := ltn; omega
  have lex : w.heap.size ≤ v3.heap.size := by have := lex0; omega
  have qay : w.heap.size ≠ v3.heap.size + 1 := by have := lta; omega
  have qby : (w.heap.size + 1) ≠ v3.heap.size + 1 := by have := ltb; omega
  have qmy : nm ≠ v3.heap.size + 1 := by have := ltm; omega
  have qny : nn ≠ v3.heap.size + 1 := by have := ltn; omega
  have qxy : v3.heap.size ≠ v3.heap.size + 1 := by omega
  have ley : w.heap.size ≤ v3.heap.size + 1 := by have := lex0; omega
  clear lta nea ltb neb ltm nem ltn nen
  clear lex0
  generalize v3.heap.size + 1 = ny at *
  generalize v3.heap.size = nx at *
  refine (CR'.out _).mono ?_
  rintro e v4 ⟨rfl, hb⟩
  replace Ba := Ba.keep hb
  replace Bb := Bb.keep hb
  replace Bm := Bm.keep hb
  replace Bn := Bn.keep hb
  replace Bx := Bx.keep hb
  replace By := By.keep hb
  replace hB := hB.trans (hb.mono hB.size)
  clear hb
  have Oa := Ba
  obtain ⟨za0, za1, za2, za3⟩ := Oa
  have Ob := Bb
  obtain ⟨zb0, zb1, zb2, zb3⟩ := Ob
  have Om := Bm
  obtain ⟨zm0, zm1, zm2, zm3⟩ := Om
  have On := Bn
  obtain ⟨zn0, zn1, zn2, zn3⟩ := On
  have Ox := Bx
  obtain ⟨zx0, zx1, zx2, zx3⟩ := Ox
  have Oy := By
  obtain ⟨zy0, zy1, zy2, zy3⟩ := Oy
  have lta := Ba.lt
  have nea : w.heap.size ≠ v4.heap.size := Nat.ne_of_lt lta
  have ltb := Bb.lt
  have neb : (w.heap.size + 1) ≠ v4.heap.size := Nat.ne_of_lt ltb
  have ltm := Bm.lt
  have nem : nm ≠ v4.heap.size := Nat.ne_of_lt ltm
  have ltn := Bn.lt
  have nen : nn ≠ v4.heap.size := Nat.ne_of_lt ltn
  have ltx := Bx.lt
  have nex : nx ≠ v4.heap.size := Nat.ne_of_lt ltx
  have lty := By.lt
  have ney : ny ≠ v4.heap.size := Nat.ne_of_lt lty
  have leu0 : w.heap.size ≤ v4.heap.size := hB.size
  go_wp2_with fail
  refine at_code (fun W4 hW => ?_)
  replace Ba := Ba.alloc (.cells #[(.string x0), (.string x1)] 28)
  replace Bb := Bb.alloc (.cells #[(.string x0), (.string x1)] 28)
  replace Bm := Bm.alloc (.cells #[(.string x0), (.string x1)] 28)
  replace Bn := Bn.alloc (.cells #[(.string x0), (.string x1)] 28)
  replace Bx := Bx.alloc (.cells #[(.string x0), (.string x1)] 28)
  replace By := By.alloc (.cells #[(.string x0), (.string x1)] 28)
  have Bu := Box.new (v4) (.string x0) (.string x1)
  replace hB := hB.alloc hB.size (.cells #[(.string x0), (.string x1)] 28)
  replace Ba := Ba.alloc (.cells #[(.string y0), (.string y1)] 28)
  replace Bb := Bb.alloc (.cells #[(.string y0), (.string y1)] 28)
  replace Bm := Bm.alloc (.cells #[(.string y0), (.string y1)] 28)
  replace Bn := Bn.alloc (.cells #[(.string y0), (.string y1)] 28)
  replace Bx := Bx.alloc (.cells #[(.string y0), (.string y1)] 28)
  replace By := By.alloc (.cells #[(.string y0), (.string y1)] 28)
  replace Bu := Bu.alloc (.cells #[(.string y0), (.string y1)] 28)
  have Bj := Box.new ((v4).alloc (.cells #[(.string x0), (.string x1)] 28)) (.string y0) (.string y1)
  replace hB := hB.alloc hB.size (.cells #[(.string y0), (.string y1)] 28)
  rw [← hW] at Ba
  rw [← hW] at Bb
  rw [← hW] at Bm
  rw [← hW] at Bn
  rw [← hW] at Bx
  rw [← hW] at By
  rw [← hW] at Bu
  rw [← hW] at Bj
  rw [← hW] at hB
  clear hW
  clear za0 za1 za2 za3 zb0 zb1 zb2 zb3 zm0 zm1 zm2 zm3 zn0 zn1 zn2 zn3 zx0 zx1 zx2 zx3 zy0 zy1 zy2 zy3
  simp only [size_alloc] at Bj
  have qau : w.heap.size ≠ v4.heap.size := by have := lta; omega
  have qbu : (w.heap.size + 1) ≠ v4.heap.size := by have := ltb; omega
  have qmu : nm ≠ v4.heap.size := by have := ltm; omega
  have qnu : nn ≠ v4.heap.size := by have := ltn; omega
  have qxu : nx ≠ v4.heap.size := by have := ltx; omega
  have qyu : ny ≠ v4.heap.size := by have := lty; omega
  have leu : w.heap.size ≤ v4.heap.size := by have := leu0; omega
  have qaj : w.heap.size ≠ v4.heap.size + 1 := by have := lta; omega
  have qbj : (w.heap.size + 1) ≠ v4.heap.size + 1 := by have := ltb; omega
  have qmj : nm ≠ v4.heap.size + 1 := by have := ltm; omega
  have qnj : nn ≠ v4.heap.size + 1 := by have := ltn; omega
  have qxj : nx ≠ v4.heap.size + 1 := by have := ltx; omega
  have qyj : ny ≠ v4.heap.size + 1 := by have := lty; omega
  have quj : v4.heap.size ≠ v4.heap.size + 1 := by omega
  have lej : w.heap.size ≤ v4.heap.size + 1 := by have := leu0; omega
  clear lta nea ltb neb ltm nem ltn nen ltx nex lty ney
  clear leu0
  generalize v4.heap.size + 1 = nj at *
  generalize v4.heap.size = nu at *
  have hsF : ¬ 9223372036854775807 < s.size + 1 := by omega
  go_region_held3 (fun W => Below W4.heap.size W4 W ∧ W.cell? ⟨w.heap.size, 0, none⟩ = some (.string a0) ∧ W.cell? ⟨w.heap.size, 1, none⟩ = some (.string a1) ∧ W.cell? ⟨(w.heap.size + 1), 0, none⟩ = some (.string b0) ∧ W.cell? ⟨(w.heap.size + 1), 1, none⟩ = some (.string b1) ∧ W.cell? ⟨nm, 0, none⟩ = some (.string m0) ∧ W.cell? ⟨nm, 1, none⟩ = some (.string m1) ∧ W.cell? ⟨nn, 0, none⟩ = some (.string m0) ∧ W.cell? ⟨nn, 1, none⟩ = some (.string m1) ∧ W.cell? ⟨nx, 0, none⟩ = some (.string x0) ∧ W.cell? ⟨nx, 1, none⟩ = some (.string x1) ∧ W.cell? ⟨ny, 0, none⟩ = some (.string y0) ∧ W.cell? ⟨ny, 1, none⟩ = some (.string y1) ∧ W.cell? ⟨nu, 0, none⟩ = some (.string x0) ∧ W.cell? ⟨nu, 1, none⟩ = some (.string x1) ∧ W.cell? ⟨nj, 0, none⟩ = some (.string y0) ∧ W.cell? ⟨nj, 1, none⟩ = some (.string y1)) (first | exact s8 Ba Bb Bm Bn Bx By Bu Bj (Below.refl _ _).drew | exact s8 Ba Bb Bm Bn Bx By Bu Bj (stepB (by assumption) (by assumption) (Nat.le_refl _)))
    (first | (go_at_call 10; refine (live_any _).mono ?_; rintro e w' ⟨rfl, hb⟩) | (go_at_call 19; refine (rightRange_any _ _ _).mono ?_; rintro e w' ⟨rfl, hb⟩) | (go_at_call 20; refine (rright_any _ _ _).mono ?_; rintro e w' ⟨rfl, hb⟩) | (go_at_call 21; refine (holds_any _ _ _ _).mono ?_; rintro e w' ⟨rfl, hb⟩) | (go_at_call 22; refine (rholds_any _ _ _ _).mono ?_; rintro e w' ⟨rfl, hb⟩) | (go_at_call 23; refine (within_any _ _ _ _ _).mono ?_; rintro e w' ⟨rfl, hb⟩) | (go_at_call 24; refine (CW'.out _).mono ?_; rintro e w' ⟨rfl, hb⟩) | (go_at_call 25; refine (point_any _ _ (by omega)).mono ?_; rintro e w' ⟨rfl, hb⟩))
  have hR := (by assumption : Below W4.heap.size W4 w' ∧ _).1
  replace hB := hB.trans (hR.mono hB.size)
  clear hR
  go_wp2_with fail
  go_ret
  exact ⟨rfl, hB⟩
end Go.Proofs.Ytchbenfpfemgnaa
