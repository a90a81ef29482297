/- Both scripts are the same. -/
import Derived.Test.YtnchpfmpjpnciaaC4
namespace Go.Proofs.Ytnchpfmpjpnciaa
set_option linter.unusedSimpArgs false
open Go.RowKit Go.Maps Go.Shelf
set_option linter.unusedVariables false
theorem op_cells {w : World} {D : Nat → Prop} {A : Option Addr} {lr : List Value} {S : Int} {m k : Nat} (h : RdB w D A lr) (ho : OC w D S m lr) (hk : k < m) :
    ∃ g B c, A = some ⟨g, 0, none⟩ ∧ g < w.heap.size ∧ w.cell? ⟨g, k * 5, none⟩ = some (.int .u8 (oK (ost S k))) ∧ w.cell? ⟨g, k * 5 + 1, none⟩ = some (.string (oY (ost S k))) ∧ w.cell? ⟨g, k * 5 + 2, none⟩ = some (.string ⟨#[]⟩) ∧ w.cell? ⟨g, k * 5 + 3, none⟩ = some (.int .i64 (oN (ost S k))) ∧ w.cell? ⟨g, k * 5 + 4, none⟩ = some (.slice B (oL (ost S k)) c) ∧ RdB w D B (oR (ost S k)) := by
  obtain ⟨B, c, h1, h2⟩ := ho.at_ hk
  rcases h with h | ⟨g, h3, _, h5, h6⟩
  · have := ho.len; rw [h] at this; simp at this; omega
  · exact ⟨g, B, c, h3, h5, h6 _ _ (h1 0 (by omega)), h6 _ _ (h1 1 (by omega)), h6 _ _ (h1 2 (by omega)), h6 _ _ (h1 3 (by omega)), h6 _ _ (h1 4 (by omega)), h2⟩
theorem ses_cell {w : World} {D : Nat → Prop} {A : Option Addr} {lo : List Value} {S : Int} {m n i : Nat} (h : RdB w D A lo) (hs : SC w D m S n lo) (hi : i < n) :
    ∃ g B c lr, A = some ⟨g, 0, none⟩ ∧ g < w.heap.size ∧ w.cell? ⟨g, i, none⟩ = some (.slice B m c) ∧ RdB w D B lr ∧ OC w D (sst S m i) m lr := by
  obtain ⟨B, c, lr, h1, h2, h3⟩ := hs.at_ hi
  rcases h with h | ⟨g, h4, _, h5, h6⟩
  · have := hs.len; rw [h] at this; simp at this; omega
  · exact ⟨g, B, c, lr, h4, h5, h6 _ _ h1, h2, h3⟩
theorem pick_cell {w : World} {D : Nat → Prop} {P : Option Addr} {S s : Int} {n k : Nat} (h : RdB w D P (prow S s n)) (hk : k < n) :
    ∃ g, P = some ⟨g, 0, none⟩ ∧ g < w.heap.size ∧ w.cell? ⟨g, k, none⟩ = some (.int .i64 (bl (pst S s k) s + 1)) := by
  rcases h with h | ⟨g, h4, _, h5, h6⟩
  · have := prow_length S s n; rw [h] at this; simp at this; omega
  · exact ⟨g, h4, h5, h6 _ _ (prow_at S s hk)⟩
/-- A script's rows. -/
def Scr (w : World) (D : Nat → Prop) (S0 : Int) (m n : Nat) (s : Int) (np : Nat) (A P : Option Addr) : Prop := ∃ lo, RdB w D A lo ∧ SC w D m S0 n lo ∧ RdB w D P (prow (sst S0 m n) s np)
theorem Scr.later {w w' : World} {D : Nat → Prop} {S0 : Int} {m n : Nat} {s : Int} {np : Nat} {A P : Option Addr} (h : Scr w D S0 m n s np A P) (hb : Below w.heap.size w w') : Scr w' D S0 m n s np A P := by
  obtain ⟨lo, h1, h2, h3⟩ := h
  have hc := Chg.of_below (D := fun _ => False) hb
  exact ⟨lo, h1.chg hc (fun _ _ h => h) (fun _ h => h), h2.chg hc (fun _ _ h => h) (fun _ h => h), h3.chg hc (fun _ _ h => h) (fun _ h => h)⟩

set_option maxHeartbeats 8000000 in
set_option maxRecDepth 4000 in
theorem scr_same (c2 c3 c4 c5 c6 c7 c8 : Int) (w : World) {D D' : Nat → Prop} {S0 s : Int} {m n np : Nat} {A P A' P' : Option Addr} (c cp c' cp' : Nat) (hnp : np ≤ 10000) (hn : n ≤ 64) (hm : m ≤ 100) (h : Scr w D S0 m n s np A P) (h' : Scr w D' S0 m n s np A' P') :
    Calls Try.prog 20 #[.agg #[.int .i64 4, .int .i64 16, .int .i64 c2, .int .i64 c3, .int .i64 c4, .int .i64 c5, .int .i64 c6, .int .i64 c7, .int .i64 c8, .slice A n c, .slice P np cp], .agg #[.int .i64 4, .int .i64 16, .int .i64 c2, .int .i64 c3, .int .i64 c4, .int .i64 c5, .int .i64 c6, .int .i64 c7, .int .i64 c8, .slice A' n c', .slice P' np cp']] w fun e w' => e = .returned (.bool true) ∧ Below w.heap.size w w' := by
  have HBV : Hid (Below w.heap.size w ((w.alloc (.cells #[.int .i64 4, .int .i64 16, .int .i64 c2, .int .i64 c3, .int .i64 c4, .int .i64 c5, .int .i64 c6, .int .i64 c7, .int .i64 c8, .slice A n c, .slice P np cp] 53)).alloc (.cells #[.int .i64 4, .int .i64 16, .int .i64 c2, .int .i64 c3, .int .i64 c4, .int .i64 c5, .int .i64 c6, .int .i64 c7, .int .i64 c8, .slice A' n c', .slice P' np cp'] 53))) := Lib.hid (by go_grown)
  have RA : Hid (((w.alloc (.cells #[.int .i64 4, .int .i64 16, .int .i64 c2, .int .i64 c3, .int .i64 c4, .int .i64 c5, .int .i64 c6, .int .i64 c7, .int .i64 c8, .slice A n c, .slice P np cp] 53)).alloc (.cells #[.int .i64 4, .int .i64 16, .int .i64 c2, .int .i64 c3, .int .i64 c4, .int .i64 c5, .int .i64 c6, .int .i64 c7, .int .i64 c8, .slice A' n c', .slice P' np cp'] 53)).heap[w.heap.size]? = some (.cells #[.int .i64 4, .int .i64 16, .int .i64 c2, .int .i64 c3, .int .i64 c4, .int .i64 c5, .int .i64 c6, .int .i64 c7, .int .i64 c8, .slice A n c, .slice P np cp] 53 (0, 0))) := Lib.hid (keep_bel (alb _ _) (heap_alloc_new w _))
  have RB : Hid (((w.alloc (.cells #[.int .i64 4, .int .i64 16, .int .i64 c2, .int .i64 c3, .int .i64 c4, .int .i64 c5, .int .i64 c6, .int .i64 c7, .int .i64 c8, .slice A n c, .slice P np cp] 53)).alloc (.cells #[.int .i64 4, .int .i64 16, .int .i64 c2, .int .i64 c3, .int .i64 c4, .int .i64 c5, .int .i64 c6, .int .i64 c7, .int .i64 c8, .slice A' n c', .slice P' np cp'] 53)).heap[w.heap.size + 1]? = some (.cells #[.int .i64 4, .int .i64 16, .int .i64 c2, .int .i64 c3, .int .i64 c4, .int .i64 c5, .int .i64 c6, .int .i64 c7, .int .i64 c8, .slice A' n c', .slice P' np cp'] 53 (0, 0))) := Lib.hid (by have h := heap_alloc_new (w.alloc (.cells #[.int .i64 4, .int .i64 16, .int .i64 c2, .int .i64 c3, .int .i64 c4, .int .i64 c5, .int .i64 c6, .int .i64 c7, .int .i64 c8, .slice A n c, .slice P np cp] 53)) (.cells #[.int .i64 4, .int .i64 16, .int .i64 c2, .int .i64 c3, .int .i64 c4, .int .i64 c5, .int .i64 c6, .int .i64 c7, .int .i64 c8, .slice A' n c', .slice P' np cp'] 53); rw [World.size_alloc] at h; exact h)
  have HA := Lib.hid (h.later HBV.out)
  have HA' := Lib.hid (h'.later HBV.out)
  have HB0 : Hid (Below ((w.alloc (.cells #[.int .i64 4, .int .i64 16, .int .i64 c2, .int .i64 c3, .int .i64 c4, .int .i64 c5, .int .i64 c6, .int .i64 c7, .int .i64 c8, .slice A n c, .slice P np cp] 53)).alloc (.cells #[.int .i64 4, .int .i64 16, .int .i64 c2, .int .i64 c3, .int .i64 c4, .int .i64 c5, .int .i64 c6, .int .i64 c7, .int .i64 c8, .slice A' n c', .slice P' np cp'] 53)).heap.size ((w.alloc (.cells #[.int .i64 4, .int .i64 16, .int .i64 c2, .int .i64 c3, .int .i64 c4, .int .i64 c5, .int .i64 c6, .int .i64 c7, .int .i64 c8, .slice A n c, .slice P np cp] 53)).alloc (.cells #[.int .i64 4, .int .i64 16, .int .i64 c2, .int .i64 c3, .int .i64 c4, .int .i64 c5, .int .i64 c6, .int .i64 c7, .int .i64 c8, .slice A' n c', .slice P' np cp'] 53)) ((w.alloc (.cells #[.int .i64 4, .int .i64 16, .int .i64 c2, .int .i64 c3, .int .i64 c4, .int .i64 c5, .int .i64 c6, .int .i64 c7, .int .i64 c8, .slice A n c, .slice P np cp] 53)).alloc (.cells #[.int .i64 4, .int .i64 16, .int .i64 c2, .int .i64 c3, .int .i64 c4, .int .i64 c5, .int .i64 c6, .int .i64 c7, .int .i64 c8, .slice A' n c', .slice P' np cp'] 53))) := Lib.hid (Below.refl _ _)
  clear h h'
  go_enter Try.func20, Try.ntmps20
  go_wp2
  go_loopw [5] (fun iv wr => ∃ k : Nat, k ≤ np ∧ iv = .int .i64 k ∧ Below ((w.alloc (.cells #[.int .i64 4, .int .i64 16, .int .i64 c2, .int .i64 c3, .int .i64 c4, .int .i64 c5, .int .i64 c6, .int .i64 c7, .int .i64 c8, .slice A n c, .slice P np cp] 53)).alloc (.cells #[.int .i64 4, .int .i64 16, .int .i64 c2, .int .i64 c3, .int .i64 c4, .int .i64 c5, .int .i64 c6, .int .i64 c7, .int .i64 c8, .slice A' n c', .slice P' np cp'] 53)).heap.size ((w.alloc (.cells #[.int .i64 4, .int .i64 16, .int .i64 c2, .int .i64 c3, .int .i64 c4, .int .i64 c5, .int .i64 c6, .int .i64 c7, .int .i64 c8, .slice A n c, .slice P np cp] 53)).alloc (.cells #[.int .i64 4, .int .i64 16, .int .i64 c2, .int .i64 c3, .int .i64 c4, .int .i64 c5, .int .i64 c6, .int .i64 c7, .int .i64 c8, .slice A' n c', .slice P' np cp'] 53)) wr) (fun i _ => np - (intOf i).toNat)
  case atStart => exact ⟨0, by omega, rfl, HB0.out⟩
  case round =>
    obtain ⟨k, hk, rfl, hb1⟩ := hrel
    have HB1 := Lib.hid hb1
    clear hb1
    by_cases h8 : k < np
    · have hk1 : (k : Int) < (np : Int) := by omega
      have hk0 : (0 : Int) ≤ (k : Int) := by omega
      have Ra := keep_bel (HB1.out) RA.out
      have Rb := keep_bel (HB1.out) RB.out
      have a9 : wr.cell? ⟨w.heap.size, 9, none⟩ = some (.slice A n c) := (cell_of_row _ _ 9 _ 53 (0, 0) Ra).trans rfl
      have a10 : wr.cell? ⟨w.heap.size, 10, none⟩ = some (.slice P np cp) := (cell_of_row _ _ 10 _ 53 (0, 0) Ra).trans rfl
      have b9 : wr.cell? ⟨w.heap.size + 1, 9, none⟩ = some (.slice A' n c') := (cell_of_row _ _ 9 _ 53 (0, 0) Rb).trans rfl
      have b10 : wr.cell? ⟨w.heap.size + 1, 10, none⟩ = some (.slice P' np cp') := (cell_of_row _ _ 10 _ 53 (0, 0) Rb).trans rfl
      clear Ra Rb
      have A10 := bel_later (drew_bel wr) a10
      have B10 := bel_later (drew_bel wr) b10
      obtain ⟨lo, _, _, hp⟩ := HA.out.later (HB1.out.drew)
      obtain ⟨lo', _, _, hp'⟩ := HA'.out.later (HB1.out.drew)
      obtain ⟨gp, rfl, hgp, p0⟩ := pick_cell hp h8
      obtain ⟨gp', rfl, hgp', p0'⟩ := pick_cell hp' h8
      generalize bl (pst (sst S0 m n) s k) s + 1 = x at *
      clear hp hp'
      go_wp2_with fail
      go_region
      all_goals
        go_wp2_with fail
        exact ⟨⟨k + 1, by omega, by simp, HB1.out.drew⟩, by simp [intOf]; omega⟩
    · have hk1 : ¬ (k : Int) < (np : Int) := by omega
      have Ra := keep_bel (HB1.out) RA.out
      have Rb := keep_bel (HB1.out) RB.out
      have a9 : wr.cell? ⟨w.heap.size, 9, none⟩ = some (.slice A n c) := (cell_of_row _ _ 9 _ 53 (0, 0) Ra).trans rfl
      have a10 : wr.cell? ⟨w.heap.size, 10, none⟩ = some (.slice P np cp) := (cell_of_row _ _ 10 _ 53 (0, 0) Ra).trans rfl
      have b9 : wr.cell? ⟨w.heap.size + 1, 9, none⟩ = some (.slice A' n c') := (cell_of_row _ _ 9 _ 53 (0, 0) Rb).trans rfl
      have b10 : wr.cell? ⟨w.heap.size + 1, 10, none⟩ = some (.slice P' np cp') := (cell_of_row _ _ 10 _ 53 (0, 0) Rb).trans rfl
      clear Ra Rb
      clear hk h8
      go_wp2_with fail
      clear a9 a10 b9 b10 hk1
      go_loopw [6, 7, 8, 9] (fun iv _ _ _ wr => ∃ i : Nat, i ≤ n ∧ iv = .int .i64 i ∧ Below ((w.alloc (.cells #[.int .i64 4, .int .i64 16, .int .i64 c2, .int .i64 c3, .int .i64 c4, .int .i64 c5, .int .i64 c6, .int .i64 c7, .int .i64 c8, .slice A n c, .slice P np cp] 53)).alloc (.cells #[.int .i64 4, .int .i64 16, .int .i64 c2, .int .i64 c3, .int .i64 c4, .int .i64 c5, .int .i64 c6, .int .i64 c7, .int .i64 c8, .slice A' n c', .slice P' np cp'] 53)).heap.size ((w.alloc (.cells #[.int .i64 4, .int .i64 16, .int .i64 c2, .int .i64 c3, .int .i64 c4, .int .i64 c5, .int .i64 c6, .int .i64 c7, .int .i64 c8, .slice A n c, .slice P np cp] 53)).alloc (.cells #[.int .i64 4, .int .i64 16, .int .i64 c2, .int .i64 c3, .int .i64 c4, .int .i64 c5, .int .i64 c6, .int .i64 c7, .int .i64 c8, .slice A' n c', .slice P' np cp'] 53)) wr) (fun i _ _ _ _ => n - (intOf i).toNat)
      case atStart => exact ⟨0, by omega, rfl, HB1.out⟩
      case round =>
        clear HB1
        obtain ⟨i, hi, rfl, hb2⟩ := hrel
        have HB2 := Lib.hid hb2
        clear hb2
        by_cases h9 : i < n
        · have hi1 : (i : Int) < (n : Int) := by omega
          have hi0 : (0 : Int) ≤ (i : Int) := by omega
          have Ra := keep_bel (HB2.out) RA.out
          have Rb := keep_bel (HB2.out) RB.out
          have a9 : wr.cell? ⟨w.heap.size, 9, none⟩ = some (.slice A n c) := (cell_of_row _ _ 9 _ 53 (0, 0) Ra).trans rfl
          have a10 : wr.cell? ⟨w.heap.size, 10, none⟩ = some (.slice P np cp) := (cell_of_row _ _ 10 _ 53 (0, 0) Ra).trans rfl
          have b9 : wr.cell? ⟨w.heap.size + 1, 9, none⟩ = some (.slice A' n c') := (cell_of_row _ _ 9 _ 53 (0, 0) Rb).trans rfl
          have b10 : wr.cell? ⟨w.heap.size + 1, 10, none⟩ = some (.slice P' np cp') := (cell_of_row _ _ 10 _ 53 (0, 0) Rb).trans rfl
          clear Ra Rb
          have A9 := bel_later (drew_bel wr) a9
          have B9 := bel_later (drew_bel wr) b9
          obtain ⟨lo, hlo, hsc, _⟩ := HA.out.later (HB2.out.drew)
          obtain ⟨lo', hlo', hsc', _⟩ := HA'.out.later (HB2.out.drew)
          obtain ⟨ga, Q, cq, lr, rfl, hga, q0, hq, hoc⟩ := ses_cell hlo hsc h9
          obtain ⟨ga', Q', cq', lr', rfl, hga', q0', hq', hoc'⟩ := ses_cell hlo' hsc' h9
          have HQ := Lib.hid hq
          have HQ' := Lib.hid hq'
          have HO := Lib.hid hoc
          have HO' := Lib.hid hoc'
          have Q0 := Lib.hid q0
          have Q0' := Lib.hid q0'
          have HD2 := Lib.hid (HB2.out.drew)
          clear hlo hsc hlo' hsc' hq hq' hoc hoc'
          go_wp2_with fail
          go_region
          all_goals
            go_wp2_with fail
            clear a9 a10 b9 b10 A9 B9 q0 q0' HB2
            generalize wr.drew = W1 at *
            go_loopw [7, 8, 9] (fun iv _ _ wr2 => ∃ k : Nat, k ≤ m ∧ iv = .int .i64 k ∧ Below W1.heap.size W1 wr2) (fun i _ _ _ => m - (intOf i).toNat)
            case atStart => exact ⟨0, by omega, rfl, Below.refl _ _⟩
            case round =>
              obtain ⟨k, hk, rfl, hb3⟩ := hrel
              have HB3 := Lib.hid hb3
              have HBW := Lib.hid (HD2.out.trans (hb3.mono HD2.out.size))
              clear hb3
              have Ra := keep_bel (HBW.out) RA.out
              have Rb := keep_bel (HBW.out) RB.out
              have a9 : wr.cell? ⟨w.heap.size, 9, none⟩ = some (.slice (some ⟨ga, 0, none⟩) n c) := (cell_of_row _ _ 9 _ 53 (0, 0) Ra).trans rfl
              have a10 : wr.cell? ⟨w.heap.size, 10, none⟩ = some (.slice P np cp) := (cell_of_row _ _ 10 _ 53 (0, 0) Ra).trans rfl
              have b9 : wr.cell? ⟨w.heap.size + 1, 9, none⟩ = some (.slice (some ⟨ga', 0, none⟩) n c') := (cell_of_row _ _ 9 _ 53 (0, 0) Rb).trans rfl
              have b10 : wr.cell? ⟨w.heap.size + 1, 10, none⟩ = some (.slice P' np cp') := (cell_of_row _ _ 10 _ 53 (0, 0) Rb).trans rfl
              clear Ra Rb
              have r0 := bel_later HB3.out Q0.out
              have r0' := bel_later HB3.out Q0'.out
              by_cases h10 : k < m
              · have hk1 : (k : Int) < (m : Int) := by omega
                have hk0 : (0 : Int) ≤ (k : Int) := by omega
                obtain ⟨gq, B1, cb, rfl, hgq, x0, x1, x2, x3, x4, hb1⟩ := op_cells HQ.out HO.out h10
                obtain ⟨gq', B2, cb', rfl, hgq', y0, y1, y2, y3, y4, hb2⟩ := op_cells HQ'.out HO'.out h10
                have hL : oL (ost (sst S0 m i) k) ≤ 3 := opL_le _ _
                have eR : oR (ost (sst S0 m i) k) = mrow (bs (bs (ost (sst S0 m i) k) 8) 3) (oL (ost (sst S0 m i) k)) := rfl
                rw [eR] at hb1 hb2
                clear eR
                generalize bs (bs (ost (sst S0 m i) k) 8) 3 = M at *
                generalize oL (ost (sst S0 m i) k) = xL at *
                generalize oK (ost (sst S0 m i) k) = xK at *
                generalize oY (ost (sst S0 m i) k) = xY at *
                generalize oN (ost (sst S0 m i) k) = xN at *
                have z0 := bel_later HB3.out x0
                have z1 := bel_later HB3.out x1
                have z2 := bel_later HB3.out x2
                have z3 := bel_later HB3.out x3
                have z4 := bel_later HB3.out x4
                have AL1 := Lib.hid (alb wr (.cells #[.int .u8 xK, .string xY, .string ⟨#[]⟩, .int .i64 xN, .slice B1 xL cb] 42))
                have v0 := bel_later AL1.out (bel_later HB3.out y0)
                have v1 := bel_later AL1.out (bel_later HB3.out y1)
                have v2 := bel_later AL1.out (bel_later HB3.out y2)
                have v3 := bel_later AL1.out (bel_later HB3.out y3)
                have v4 := bel_later AL1.out (bel_later HB3.out y4)
                have b9' := bel_later AL1.out b9
                have r1' := bel_later AL1.out r0'
                have AL2 := Lib.hid (AL1.out.trans ((alb (wr.alloc (.cells #[.int .u8 xK, .string xY, .string ⟨#[]⟩, .int .i64 xN, .slice B1 xL cb] 42)) (.cells #[.int .u8 xK, .string xY, .string ⟨#[]⟩, .int .i64 xN, .slice B2 xL cb'] 42)).mono (by simp)))
                have SM := Lib.hid (same_any (c := cb) (c' := cb') (hb1.to.chg (Chg.of_below (D := fun _ => False) (HB3.out.trans (AL2.out.mono HB3.out.size))) (fun _ h => h.elim)) (hb2.to.chg (Chg.of_below (D := fun _ => False) (HB3.out.trans (AL2.out.mono HB3.out.size))) (fun _ h => h.elim)) hL)
                clear x0 x1 x2 x3 x4 y0 y1 y2 y3 y4 hb1 hb2
                go_wp2_with (first
                  | (go_at_call 16; ((with_reducible refine SM.out.mono ?_); rintro e w5 ⟨rfl, b5⟩; have HB5 := Lib.hid (HB3.out.trans ((AL2.out.trans (b5.mono AL2.out.size)).mono HB3.out.size)); clear b5))
                  | fail)
                exact ⟨⟨k + 1, by omega, by simp, HB5.out⟩, by simp [intOf]; omega⟩
              · have hk1 : ¬ (k : Int) < (m : Int) := by omega
                clear hk h10
                go_wp2_with fail
                exact ⟨⟨i + 1, by omega, by simp, HBW.out⟩, by simp [intOf]; omega⟩
        · have hi1 : ¬ (i : Int) < (n : Int) := by omega
          have Ra := keep_bel (HB2.out) RA.out
          have Rb := keep_bel (HB2.out) RB.out
          have a9 : wr.cell? ⟨w.heap.size, 9, none⟩ = some (.slice A n c) := (cell_of_row _ _ 9 _ 53 (0, 0) Ra).trans rfl
          have a10 : wr.cell? ⟨w.heap.size, 10, none⟩ = some (.slice P np cp) := (cell_of_row _ _ 10 _ 53 (0, 0) Ra).trans rfl
          have b9 : wr.cell? ⟨w.heap.size + 1, 9, none⟩ = some (.slice A' n c') := (cell_of_row _ _ 9 _ 53 (0, 0) Rb).trans rfl
          have b10 : wr.cell? ⟨w.heap.size + 1, 10, none⟩ = some (.slice P' np cp') := (cell_of_row _ _ 10 _ 53 (0, 0) Rb).trans rfl
          clear Ra Rb
          clear hi h9
          go_wp2_with fail
          go_ret
          exact ⟨rfl, HBV.out.trans (HB2.out.mono HBV.out.size)⟩
end Go.Proofs.Ytnchpfmpjpnciaa
