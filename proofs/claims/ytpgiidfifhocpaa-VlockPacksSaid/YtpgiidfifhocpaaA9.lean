/- The law VlockPacks answers true. -/
import Derived.Test.YtpgiidfifhocpaaA7
import Derived.Test.YtpgiidfifhocpaaA8
namespace Go.Proofs.Ytpgiidfifhocpaa
set_option linter.unusedSimpArgs false
open Go.RowKit
set_option linter.unusedVariables false
attribute [local go_sem] iss

theorem unpack_pack (v o : Int) (g : Bool) (h : rightB v o g = true) : unpackF (packN v o g) = (v, o, g, 0) := by
  obtain ⟨b1, b2, b3, b4, b5⟩ := right_facts v o g h
  have e : packN v o g = v * 256 + o + (if g then 128 else 0) := by simp [packN, h]
  cases g
  · have e1 : packN v o false / 256 = v := by rw [e]; simp; omega
    have e2 : packN v o false % 128 = o := by rw [e]; simp; omega
    have e3 : goneB (packN v o false) = false := by unfold goneB; rw [e]; simp; omega
    unfold unpackF; rw [e1, e2, e3, h]; rfl
  · have ho := b5 rfl
    subst ho
    have e1 : packN v 0 true / 256 = v := by rw [e]; simp; omega
    have e2 : packN v 0 true % 128 = 0 := by rw [e]; simp; omega
    have e3 : goneB (packN v 0 true) = true := by unfold goneB; rw [e]; simp; omega
    unfold unpackF; rw [e1, e2, e3, h]; rfl
theorem pack_unpack (u : Int) (h1 : 0 ≤ u) (h2 : u < 18446744073709551616) (h : (unpackF u).2.2.2 = 0) : packN (unpackF u).1 (unpackF u).2.1 (unpackF u).2.2.1 = u ∧ packE (unpackF u).1 (unpackF u).2.1 (unpackF u).2.2.1 = 0 := by
  cases r : rightB (u / 256) (u % 128) (goneB u)
  · have e : unpackF u = (0, 0, false, 3) := by simp [unpackF, r]
    rw [e] at h; cases h
  · have e : unpackF u = (u / 256, u % 128, goneB u, 0) := by simp [unpackF, r]
    rw [e]
    simp only [packN, packE, r, if_true]
    refine ⟨?_, trivial⟩
    unfold goneB
    by_cases k : u / 128 % 2 = 1
    · simp [k]; omega
    · simp [k]; omega
theorem unpack_cases (u : Int) : unpackF u = (0, 0, false, 3) ∨ (unpackF u).2.2.2 = 0 := by
  cases r : rightB (u / 256) (u % 128) (goneB u)
  · left; simp [unpackF, r]
  · right; simp [unpackF, r]
theorem packN_bounds (v o : Int) (g : Bool) : 0 ≤ packN v o g ∧ packN v o g < 18446744073709551616 := by
  cases h : rightB v o g
  · have e : packN v o g = 0 := by simp [packN, h]
    rw [e]; omega
  · obtain ⟨b1, b2, b3, b4, b5⟩ := right_facts v o g h
    have e : packN v o g = v * 256 + o + (if g then 128 else 0) := by simp [packN, h]
    rw [e]; cases g <;> simp <;> omega
theorem packE_right (v o : Int) (g : Bool) : (packE v o g = 0 ∧ rightB v o g = true) ∨ (packE v o g = 2 ∧ rightB v o g = false) := by
  cases h : rightB v o g <;> simp [packE, h]

set_option maxHeartbeats 4000000 in
theorem packs_walk (v o : Int) (g : Bool) (u : Int) (w : World) (u1 : 0 ≤ u) (u2 : u < 18446744073709551616) :
    Calls Try.prog 5 #[.agg #[.int .i64 v, .int .i64 o, .bool g], .int .u64 u] w fun e w' => e = .returned (.bool true) ∧ Below w.heap.size w w' := by
  obtain ⟨n1, n2⟩ := packN_bounds v o g
  go_enter Try.func5, Try.ntmps5
  go_wp2_with fail
  refine at_world (fun W0 hW => ?_)
  have Bl : Box W0 w.heap.size (ix v) (ix o) (.bool g) := by rw [hW]; exact Box.new _ _ _ _
  have hB : Below w.heap.size w W0 := by rw [hW]; exact (Below.refl _ _).alloc (Nat.le_refl _) _
  clear hW
  refine (pack_any v o g _).mono ?_
  rintro e v1 ⟨rfl, hb⟩
  replace Bl := Bl.keep hb
  replace hB := hB.trans (hb.mono hB.size)
  clear hb
  have Ol := Bl
  obtain ⟨l0, l1, l2, l3, l4, l5⟩ := Ol
  have ltl := Bl.lt
  have nel : w.heap.size ≠ v1.heap.size := Nat.ne_of_lt ltl
  go_wp2_with fail
  clear l0 l1 l2 l3 l4 l5
  clear ltl nel
  refine (rpack_any v o g _).mono ?_
  rintro e v2 ⟨rfl, hb⟩
  replace Bl := Bl.keep hb
  replace hB := hB.trans (hb.mono hB.size)
  clear hb
  have Ol := Bl
  obtain ⟨l0, l1, l2, l3, l4, l5⟩ := Ol
  have ltl := Bl.lt
  have nel : w.heap.size ≠ v2.heap.size := Nat.ne_of_lt ltl
  go_wp2_with fail
  clear l0 l1 l2 l3 l4 l5
  clear ltl nel
  refine (unpack_any u _ u1 u2).mono ?_
  rintro e v3 ⟨rfl, hb⟩
  replace Bl := Bl.keep hb
  replace hB := hB.trans (hb.mono hB.size)
  clear hb
  have Ol := Bl
  obtain ⟨l0, l1, l2, l3, l4, l5⟩ := Ol
  have ltl := Bl.lt
  have nel : w.heap.size ≠ v3.heap.size := Nat.ne_of_lt ltl
  have lea0 : w.heap.size ≤ v3.heap.size := hB.size
  go_wp2_with fail
  refine at_world (fun W3 hW => ?_)
  replace Bl := Bl.alloc (.cells #[(ix (unpackF u).1), (ix (unpackF u).2.1), (.bool (unpackF u).2.2.1)] 23)
  have Ba := Box.new v3 (ix (unpackF u).1) (ix (unpackF u).2.1) (.bool (unpackF u).2.2.1)
  rw [← hW] at Bl
  rw [← hW] at Ba
  replace hB := hB.alloc hB.size (.cells #[(ix (unpackF u).1), (ix (unpackF u).2.1), (.bool (unpackF u).2.2.1)] 23)
  rw [← hW] at hB
  clear hW l0 l1 l2 l3 l4 l5
  have qla : w.heap.size ≠ v3.heap.size := nel
  clear ltl nel
  have lea : w.heap.size ≤ v3.heap.size := lea0
  clear lea0
  generalize v3.heap.size = na at *
  refine (runpack_any u _ u1 u2).mono ?_
  rintro e v4 ⟨rfl, hb⟩
  replace Bl := Bl.keep hb
  replace Ba := Ba.keep hb
  replace hB := hB.trans (hb.mono hB.size)
  clear hb
  have Ol := Bl
  obtain ⟨l0, l1, l2, l3, l4, l5⟩ := Ol
  have Oa := Ba
  obtain ⟨a0, a1, a2, a3, a4, a5⟩ := Oa
  have ltl := Bl.lt
  have nel : w.heap.size ≠ v4.heap.size := Nat.ne_of_lt ltl
  have lta := Ba.lt
  have nea : na ≠ v4.heap.size := Nat.ne_of_lt lta
  have leb0 : w.heap.size ≤ v4.heap.size := hB.size
  go_wp2_with fail
  refine at_world (fun W4 hW => ?_)
  replace Bl := Bl.alloc (.cells #[(ix (unpackF u).1), (ix (unpackF u).2.1), (.bool (unpackF u).2.2.1)] 23)
  replace Ba := Ba.alloc (.cells #[(ix (unpackF u).1), (ix (unpackF u).2.1), (.bool (unpackF u).2.2.1)] 23)
  have Bb := Box.new v4 (ix (unpackF u).1) (ix (unpackF u).2.1) (.bool (unpackF u).2.2.1)
  rw [← hW] at Bl
  rw [← hW] at Ba
  rw [← hW] at Bb
  replace hB := hB.alloc hB.size (.cells #[(ix (unpackF u).1), (ix (unpackF u).2.1), (.bool (unpackF u).2.2.1)] 23)
  rw [← hW] at hB
  clear hW l0 l1 l2 l3 l4 l5 a0 a1 a2 a3 a4 a5
  have qlb : w.heap.size ≠ v4.heap.size := nel
  have qab : na ≠ v4.heap.size := nea
  clear ltl nel lta nea
  have leb : w.heap.size ≤ v4.heap.size := leb0
  clear leb0
  generalize v4.heap.size = nb at *
  refine (unpack_any (packN v o g) _ n1 n2).mono ?_
  rintro e v5 ⟨rfl, hb⟩
  replace Bl := Bl.keep hb
  replace Ba := Ba.keep hb
  replace Bb := Bb.keep hb
  replace hB := hB.trans (hb.mono hB.size)
  clear hb
  have Ol := Bl
  obtain ⟨l0, l1, l2, l3, l4, l5⟩ := Ol
  have Oa := Ba
  obtain ⟨a0, a1, a2, a3, a4, a5⟩ := Oa
  have Ob := Bb
  obtain ⟨b0, b1, b2, b3, b4, b5⟩ := Ob
  have ltl := Bl.lt
  have nel : w.heap.size ≠ v5.heap.size := Nat.ne_of_lt ltl
  have lta := Ba.lt
  have nea : na ≠ v5.heap.size := Nat.ne_of_lt lta
  have ltb := Bb.lt
  have neb : nb ≠ v5.heap.size := Nat.ne_of_lt ltb
  have lek0 : w.heap.size ≤ v5.heap.size := hB.size
  go_wp2_with fail
  refine at_world (fun W5 hW => ?_)
  replace Bl := Bl.alloc (.cells #[(ix (unpackF (packN v o g)).1), (ix (unpackF (packN v o g)).2.1), (.bool (unpackF (packN v o g)).2.2.1)] 23)
  replace Ba := Ba.alloc (.cells #[(ix (unpackF (packN v o g)).1), (ix (unpackF (packN v o g)).2.1), (.bool (unpackF (packN v o g)).2.2.1)] 23)
  replace Bb := Bb.alloc (.cells #[(ix (unpackF (packN v o g)).1), (ix (unpackF (packN v o g)).2.1), (.bool (unpackF (packN v o g)).2.2.1)] 23)
  have Bk := Box.new v5 (ix (unpackF (packN v o g)).1) (ix (unpackF (packN v o g)).2.1) (.bool (unpackF (packN v o g)).2.2.1)
  rw [← hW] at Bl
  rw [← hW] at Ba
  rw [← hW] at Bb
  rw [← hW] at Bk
  replace hB := hB.alloc hB.size (.cells #[(ix (unpackF (packN v o g)).1), (ix (unpackF (packN v o g)).2.1), (.bool (unpackF (packN v o g)).2.2.1)] 23)
  rw [← hW] at hB
  clear hW l0 l1 l2 l3 l4 l5 a0 a1 a2 a3 a4 a5 b0 b1 b2 b3 b4 b5
  have qlk : w.heap.size ≠ v5.heap.size := nel
  have qak : na ≠ v5.heap.size := nea
  have qbk : nb ≠ v5.heap.size := neb
  clear ltl nel lta nea ltb neb
  have lek : w.heap.size ≤ v5.heap.size := lek0
  clear lek0
  generalize v5.heap.size = nk at *
  refine (pack_any _ _ _ _).mono ?_
  rintro e v6 ⟨rfl, hb⟩
  replace Bl := Bl.keep hb
  replace Ba := Ba.keep hb
  replace Bb := Bb.keep hb
  replace Bk := Bk.keep hb
  replace hB := hB.trans (hb.mono hB.size)
  clear hb
  have Ol := Bl
  obtain ⟨l0, l1, l2, l3, l4, l5⟩ := Ol
  have Oa := Ba
  obtain ⟨a0, a1, a2, a3, a4, a5⟩ := Oa
  have Ob := Bb
  obtain ⟨b0, b1, b2, b3, b4, b5⟩ := Ob
  have Ok := Bk
  obtain ⟨k0, k1, k2, k3, k4, k5⟩ := Ok
  have ltl := Bl.lt
  have nel : w.heap.size ≠ v6.heap.size := Nat.ne_of_lt ltl
  have lta := Ba.lt
  have nea : na ≠ v6.heap.size := Nat.ne_of_lt lta
  have ltb := Bb.lt
  have neb : nb ≠ v6.heap.size := Nat.ne_of_lt ltb
  have ltk := Bk.lt
  have nek : nk ≠ v6.heap.size := Nat.ne_of_lt ltk
  go_wp2_with fail
  clear l0 l1 l2 l3 l4 l5 a0 a1 a2 a3 a4 a5 b0 b1 b2 b3 b4 b5 k0 k1 k2 k3 k4 k5
  clear ltl nel lta nea ltb neb ltk nek
  refine (live_any _).mono ?_
  rintro e v7 ⟨rfl, hb⟩
  replace Bl := Bl.keep hb
  replace Ba := Ba.keep hb
  replace Bb := Bb.keep hb
  replace Bk := Bk.keep hb
  replace hB := hB.trans (hb.mono hB.size)
  clear hb
  have Ol := Bl
  obtain ⟨l0, l1, l2, l3, l4, l5⟩ := Ol
  have Oa := Ba
  obtain ⟨a0, a1, a2, a3, a4, a5⟩ := Oa
  have Ob := Bb
  obtain ⟨b0, b1, b2, b3, b4, b5⟩ := Ob
  have Ok := Bk
  obtain ⟨k0, k1, k2, k3, k4, k5⟩ := Ok
  have ltl := Bl.lt
  have nel : w.heap.size ≠ v7.heap.size := Nat.ne_of_lt ltl
  have lta := Ba.lt
  have nea : na ≠ v7.heap.size := Nat.ne_of_lt lta
  have ltb := Bb.lt
  have neb : nb ≠ v7.heap.size := Nat.ne_of_lt ltb
  have ltk := Bk.lt
  have nek : nk ≠ v7.heap.size := Nat.ne_of_lt ltk
  have hp : (packE v o g = 0 ∧ unpackF (packN v o g) = (v, o, g, 0)) ∨ packE v o g = 2 := by
    rcases packE_right v o g with ⟨x, y⟩ | ⟨x, y⟩
    · exact .inl ⟨x, unpack_pack v o g y⟩
    · exact .inr x
  have hu : unpackF u = (0, 0, false, 3) ∨ ((unpackF u).2.2.2 = 0 ∧ packN (unpackF u).1 (unpackF u).2.1 (unpackF u).2.2.1 = u ∧ packE (unpackF u).1 (unpackF u).2.1 (unpackF u).2.2.1 = 0) := by
    rcases unpack_cases u with x | x
    · exact .inl x
    · exact .inr ⟨x, pack_unpack u u1 u2 x⟩
  rcases hp with ⟨p1, p2⟩ | p1
  all_goals
    rcases hu with x1 | ⟨x1, x2, x3⟩
    all_goals
      go_wp2_with fail
      go_ret
      exact ⟨by simp, hB⟩
end Go.Proofs.Ytpgiidfifhocpaa
