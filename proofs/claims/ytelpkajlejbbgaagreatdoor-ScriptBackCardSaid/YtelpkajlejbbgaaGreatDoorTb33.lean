/- Texts of the proof, one behind the other. -/
import Derived.Test.YtelpkajlejbbgaaGreatDoorTb32
import Derived.Test.YtelpkajlejbbgaaGreatDoorTb29
set_option linter.unusedVariables false
set_option linter.unusedSimpArgs false
namespace Go.Proofs.YtelpkajlejbbgaaGreatDoor
open Go.RowKit Go.Maps
set_option maxHeartbeats 1500000 in
set_option maxRecDepth 100000 in
theorem rsame_walk (a0 a1 a2 a3 a4 a5 a6 a7 a8 : Int) (A Bp A' Bp' : Option Addr) (n c m d c' d' : Nat) (hs hs' : List Hd) (rows : List (List OpV)) (picks : List Int) (w : World) (hn : rows.length = n) (hm : picks.length = m) (hf : n ≤ 6 ∧ m ≤ 300 ∧ ∀ r ∈ rows, r.length ≤ 12 ∧ ∀ o ∈ r, o.ms.length ≤ 8)
    (hA : EH.Rd w A hs) (hR : RowsR w (fun _ => False) hs rows) (hP : EI.Rd w Bp picks) (hA' : EH.Rd w A' hs') (hR' : RowsR w (fun _ => False) hs' rows) (hP' : EI.Rd w Bp' picks) :
    Calls Tryz.prog 15 #[scA a0 a1 a2 a3 a4 a5 a6 a7 a8 A n c Bp m d, scA a0 a1 a2 a3 a4 a5 a6 a7 a8 A' n c' Bp' m d'] w fun e w' => e = .returned (.bool true) ∧ Below w.heap.size w w' := by
  unfold scA
  obtain ⟨W0, hW0⟩ : ∃ W0, W0 = (w.alloc (.cells #[.int .i64 a0, .int .i64 a1, .int .i64 a2, .int .i64 a3, .int .i64 a4, .int .i64 a5, .int .i64 a6, .int .i64 a7, .int .i64 a8, .slice A n c, .slice Bp m d] 27)).alloc (.cells #[.int .i64 a0, .int .i64 a1, .int .i64 a2, .int .i64 a3, .int .i64 a4, .int .i64 a5, .int .i64 a6, .int .i64 a7, .int .i64 a8, .slice A' n c', .slice Bp' m d'] 27) := ⟨_, rfl⟩
  have B0 := Lib.hid (show Below w.heap.size w W0 by rw [hW0]; exact bel_alloc (alb w _) _)
  have Z0 := Lib.hid (show W0.heap[w.heap.size]? = some (.cells #[.int .i64 a0, .int .i64 a1, .int .i64 a2, .int .i64 a3, .int .i64 a4, .int .i64 a5, .int .i64 a6, .int .i64 a7, .int .i64 a8, .slice A n c, .slice Bp m d] 27) by rw [hW0]; exact keep_bel (alb _ _) (heap_alloc_new w _))
  have Z1 := Lib.hid (show W0.heap[w.heap.size + 1]? = some (.cells #[.int .i64 a0, .int .i64 a1, .int .i64 a2, .int .i64 a3, .int .i64 a4, .int .i64 a5, .int .i64 a6, .int .i64 a7, .int .i64 a8, .slice A' n c', .slice Bp' m d'] 27) by rw [hW0]; simpa using heap_alloc_new (w.alloc (.cells #[.int .i64 a0, .int .i64 a1, .int .i64 a2, .int .i64 a3, .int .i64 a4, .int .i64 a5, .int .i64 a6, .int .i64 a7, .int .i64 a8, .slice A n c, .slice Bp m d] 27)) (.cells #[.int .i64 a0, .int .i64 a1, .int .i64 a2, .int .i64 a3, .int .i64 a4, .int .i64 a5, .int .i64 a6, .int .i64 a7, .int .i64 a8, .slice A' n c', .slice Bp' m d'] 27))
  have HN := Lib.hid (And.intro hn (And.intro hm hf))
  have HA := Lib.hid (And.intro hA hA')
  have HR := Lib.hid (And.intro hR hR')
  have HP := Lib.hid (And.intro hP hP')
  clear hn hm hf hA hR hP hA' hR' hP'
  obtain ⟨c0, c1, c2, c3, c4, c5, c6, c7, c8, c9, c10⟩ := cells11 Z0.out
  obtain ⟨d0, d1, d2, d3, d4, d5, d6, d7, d8, d9, d10⟩ := cells11 Z1.out
  go_enter Tryz.func15, Tryz.ntmps15
  go_upto_region 1 with fail
  rw [← hW0]
  clear hW0
  go_upto_region 4 with fail
  clear c0 c1 c2 c3 c4 c5 c6 c7 c8 c9 c10 d0 d1 d2 d3 d4 d5 d6 d7 d8 d9 d10
  go_loopw [5] (fun iv wr => ∃ k : Nat, k ≤ m ∧ iv = .int .i64 k ∧ Below W0.heap.size W0 wr) (fun iv _ => m - (intOf iv).toNat)
  case atStart => exact ⟨0, by omega, rfl, Below.refl _ _⟩
  case round =>
    obtain ⟨k, hk, rfl, hb⟩ := hrel
    have HB0 := Lib.hid hb
    have HB := Lib.hid (bel_trans B0.out hb)
    clear hb
    have hNN := HN.out
    obtain ⟨c0, c1, c2, c3, c4, c5, c6, c7, c8, c9, c10⟩ := cells11 (keep_bel HB0.out Z0.out)
    obtain ⟨d0, d1, d2, d3, d4, d5, d6, d7, d8, d9, d10⟩ := cells11 (keep_bel HB0.out Z1.out)
    by_cases h8 : k < m
    · have hk1 : (k : Int) < (m : Int) := by omega
      have hk0 : (0 : Int) ≤ (k : Int) := by omega
      have WK : IntKind.i64.wrap ((k : Int) + 1) = (k : Int) + 1 := IntWalk.i64_in _ (by omega)
      obtain ⟨x, hx⟩ : ∃ x, picks[k]? = some x := ⟨_, List.getElem?_eq_getElem (by omega)⟩
      obtain ⟨b2, off, hb2, hlt, g0⟩ := ei_at (HP.out.1.later HB.out) hx
      obtain ⟨b3, off3, hb3, hlt3, g1⟩ := ei_at (HP.out.2.later HB.out) hx
      subst hb2 hb3
      clear hx hNN hlt hlt3
      go_wp2_with fail
      go_quiet (fail)
      go_wp2
      exact ⟨⟨k + 1, by omega, by simp, bel_drewN HB0.out _⟩, by simp [intOf]; omega⟩
    · have hk1 : ¬ (k : Int) < (m : Int) := by omega
      clear hNN
      go_upto_region 9 with fail
      clear c0 c1 c2 c3 c4 c5 c6 c7 c8 c9 c10 d0 d1 d2 d3 d4 d5 d6 d7 d8 d9 d10
      go_loopw [6] (fun iv wr => ∃ i : Nat, i ≤ n ∧ iv = .int .i64 i ∧ Below W0.heap.size W0 wr) (fun iv _ => n - (intOf iv).toNat)
      case atStart => exact ⟨0, by omega, rfl, HB0.out⟩
      case round =>
        obtain ⟨i, hi, rfl, hb⟩ := hrel
        have HC0 := Lib.hid hb
        have HC := Lib.hid (bel_trans B0.out hb)
        clear hb
        have hNN := HN.out
        obtain ⟨c0, c1, c2, c3, c4, c5, c6, c7, c8, c9, c10⟩ := cells11 (keep_bel HC0.out Z0.out)
        obtain ⟨d0, d1, d2, d3, d4, d5, d6, d7, d8, d9, d10⟩ := cells11 (keep_bel HC0.out Z1.out)
        by_cases h7 : i < n
        · have hi1 : (i : Int) < (n : Int) := by omega
          have hi0 : (0 : Int) ≤ (i : Int) := by omega
          have WI : IntKind.i64.wrap ((i : Int) + 1) = (i : Int) + 1 := IntWalk.i64_in _ (by omega)
          obtain ⟨r, hr⟩ : ∃ r, rows[i]? = some r := ⟨_, List.getElem?_eq_getElem (by omega)⟩
          obtain ⟨h, hh⟩ : ∃ h, hs[i]? = some h := ⟨_, List.getElem?_eq_getElem (by rw [HR.out.1.1]; omega)⟩
          obtain ⟨h', hh'⟩ : ∃ h, hs'[i]? = some h := ⟨_, List.getElem?_eq_getElem (by rw [HR.out.2.1]; omega)⟩
          obtain ⟨xs, hx1, hx2, hx3⟩ := HR.out.1.2 i h r hh hr
          obtain ⟨ys, hy1, hy2, hy3⟩ := HR.out.2.2 i h' r hh' hr
          have hlr := hNN.2.2.2.2 r (List.mem_of_getElem? hr)
          have hxy : ys.length = xs.length := by rw [hx3.1, hy3.1]
          obtain ⟨hA2, hn2, hc2⟩ := h
          obtain ⟨hA3, hn3, hc3⟩ := h'
          simp only at hx1 hx2 hy1 hy2
          rw [hxy] at hy1
          subst hx1 hy1
          have HHH := Lib.hid (And.intro hh hh')
          have HXR := Lib.hid (And.intro hx2 hy2)
          have HXO := Lib.hid (And.intro hx3 hy3)
          have HLR := Lib.hid hlr
          have HXY := Lib.hid hxy
          have HX12 := Lib.hid (show xs.length ≤ 12 by have := hx3.1; omega)
          obtain ⟨b2, off, hb2, hlt, hc⟩ := (HA.out.1.later HC.out).get hh
          obtain ⟨b3, off3, hb3, hlt3, hd⟩ := (HA.out.2.later HC.out).get hh'
          subst hb2 hb3
          have g9 : wr.cell? ⟨b2, off + i, none⟩ = some (.slice hA2 xs.length hc2) := by simpa [EH] using hc 0 _ rfl
          have g8 : wr.cell? ⟨b3, off3 + i, none⟩ = some (.slice hA3 xs.length hc3) := by simpa [EH] using hd 0 _ rfl
          clear hr hh hh' hx2 hx3 hy2 hy3 hNN hc hd hlt hlt3 hlr hxy
          go_wp2_with fail
          go_quiet (fail)
          go_upto_region 14 with fail
          clear c0 c1 c2 c3 c4 c5 c6 c7 c8 c9 c10 d0 d1 d2 d3 d4 d5 d6 d7 d8 d9 d10 g8 g9
          go_loopw [7] (fun iv wr => ∃ j : Nat, j ≤ xs.length ∧ iv = .int .i64 j ∧ Below W0.heap.size W0 wr) (fun iv _ => xs.length - (intOf iv).toNat)
          case atStart => exact ⟨0, by omega, rfl, bel_drewN HC0.out _⟩
          case round =>
            obtain ⟨j, hj, rfl, hb⟩ := hrel
            have HD0 := Lib.hid hb
            have HD := Lib.hid (bel_trans B0.out hb)
            clear hb
            have hle := HX12.out
            obtain ⟨c0, c1, c2, c3, c4, c5, c6, c7, c8, c9, c10⟩ := cells11 (keep_bel HD0.out Z0.out)
            obtain ⟨d0, d1, d2, d3, d4, d5, d6, d7, d8, d9, d10⟩ := cells11 (keep_bel HD0.out Z1.out)
            have G9 : Hid (∀ V, Below w.heap.size w V → V.cell? ⟨b2, off + i, none⟩ = some (.slice hA2 xs.length hc2) ∧ V.cell? ⟨b3, off3 + i, none⟩ = some (.slice hA3 xs.length hc3)) := Lib.hid (fun V hV => by
              obtain ⟨b2', off', hb2, hlt, hc⟩ := (HA.out.1.later hV).get HHH.out.1
              obtain ⟨b3', off3', hb3, hlt3, hd⟩ := (HA.out.2.later hV).get HHH.out.2
              cases hb2
              cases hb3
              exact ⟨by simpa [EH] using hc 0 _ rfl, by simpa [EH] using hd 0 _ rfl⟩)
            obtain ⟨g9, g8⟩ := G9.out wr HD.out
            by_cases h9 : j < xs.length
            · have hj1 : (j : Int) < (xs.length : Int) := by omega
              have hj0 : (0 : Int) ≤ (j : Int) := by omega
              have WJ : IntKind.i64.wrap ((j : Int) + 1) = (j : Int) + 1 := IntWalk.i64_in _ (by omega)
              have hrl := HXO.out.1.1
              obtain ⟨o, ho⟩ : ∃ o, r[j]? = some o := ⟨_, List.getElem?_eq_getElem (by omega)⟩
              obtain ⟨x, hx⟩ : ∃ x, xs[j]? = some x := ⟨_, List.getElem?_eq_getElem h9⟩
              obtain ⟨y, hy⟩ : ∃ x, ys[j]? = some x := ⟨_, List.getElem?_eq_getElem (by have := HXY.out; omega)⟩
              have hm8 := HLR.out.2 o (List.mem_of_getElem? ho)
              obtain ⟨b5, off5, hb5, hlt5, hc5⟩ := (HXR.out.1.rd.later HD.out).get hx
              have HY5 := Lib.hid (fun V (hV : Below w.heap.size w V) => (HXR.out.2.rd.later hV).get hy)
              subst hb5
              obtain ⟨e1, e2, e3, e4, e5, e6⟩ := HXO.out.1.2 j x o hx ho
              obtain ⟨q1, q2, q3, q4, q5, q6⟩ := HXO.out.2.2 j y o hy ho
              obtain ⟨xk, xkey, xtoo, xn, xA, xl, xc⟩ := x
              obtain ⟨yk, ykey, ytoo, yn, yA, yl, yc⟩ := y
              simp only at e1 e2 e3 e4 e5 e6 q1 q2 q3 q4 q5 q6
              subst e1 e2 e3 e4 e5 q1 q2 q3 q4 q5
              have g0 : wr.cell? ⟨b5, off5 + j * 5, none⟩ = some (.int .u8 o.k) := hc5 0 _ rfl
              have g1 : wr.cell? ⟨b5, off5 + j * 5 + 1, none⟩ = some (.string o.key) := hc5 1 _ rfl
              have g2 : wr.cell? ⟨b5, off5 + j * 5 + 2, none⟩ = some (.string o.too) := hc5 2 _ rfl
              have g3 : wr.cell? ⟨b5, off5 + j * 5 + 3, none⟩ = some (.int .i64 o.n) := hc5 3 _ rfl
              have g4 : wr.cell? ⟨b5, off5 + j * 5 + 4, none⟩ = some (.slice xA o.ms.length xc) := hc5 4 _ rfl
              have HSM := Lib.hid (fun V (hV : Below w.heap.size w V) => msame_eq xA yA o.ms.length xc yc o.ms V rfl (by omega) (e6.rd.later hV) (q6.rd.later hV))
              obtain ⟨ok, okey, otoo, on, oms⟩ := o
              simp only at g0 g1 g2 g3 g4 HY5 HSM
              generalize oms.length = om at *
              clear hx hy ho hc5 e6 q6 hle hlt5 hm8 hrl
              go_upto_region 17 with fail
              obtain ⟨W4, hW4⟩ : ∃ W4, W4 = wr.alloc (.cells #[.int .u8 ok, .string okey, .string otoo, .int .i64 on, .slice xA om xc] 47) := ⟨_, rfl⟩
              have B4 := Lib.hid (show Below W0.heap.size W0 W4 by rw [hW4]; exact bel_alloc HD0.out _)
              have HB4 := Lib.hid (bel_trans B0.out B4.out)
              have Z4 := Lib.hid (show W4.heap[wr.heap.size]? = some (.cells #[.int .u8 ok, .string okey, .string otoo, .int .i64 on, .slice xA om xc] 47) by rw [hW4]; exact heap_alloc_new wr _)
              rw [← hW4]
              clear hW4 g0 g1 g2 g3 g4 g9 g8 c0 c1 c2 c3 c4 c5 c6 c7 c8 c9 c10 d0 d1 d2 d3 d4 d5 d6 d7 d8 d9 d10
              obtain ⟨c0, c1, c2, c3, c4, c5, c6, c7, c8, c9, c10⟩ := cells11 (keep_bel B4.out Z0.out)
              obtain ⟨d0, d1, d2, d3, d4, d5, d6, d7, d8, d9, d10⟩ := cells11 (keep_bel B4.out Z1.out)
              obtain ⟨g9, g8⟩ := G9.out W4 HB4.out
              obtain ⟨b6, off6, hb6, hlt6, hc6⟩ := HY5.out W4 HB4.out
              subst hb6
              have g0 : W4.cell? ⟨b6, off6 + j * 5, none⟩ = some (.int .u8 ok) := hc6 0 _ rfl
              have g1 : W4.cell? ⟨b6, off6 + j * 5 + 1, none⟩ = some (.string okey) := hc6 1 _ rfl
              have g2 : W4.cell? ⟨b6, off6 + j * 5 + 2, none⟩ = some (.string otoo) := hc6 2 _ rfl
              have g3 : W4.cell? ⟨b6, off6 + j * 5 + 3, none⟩ = some (.int .i64 on) := hc6 3 _ rfl
              have g4 : W4.cell? ⟨b6, off6 + j * 5 + 4, none⟩ = some (.slice yA om yc) := hc6 4 _ rfl
              clear hc6 hlt6
              go_upto_region 18 with fail
              obtain ⟨W5, hW5⟩ : ∃ W5, W5 = W4.alloc (.cells #[.int .u8 ok, .string okey, .string otoo, .int .i64 on, .slice yA om yc] 47) := ⟨_, rfl⟩
              have B5 := Lib.hid (show Below W0.heap.size W0 W5 by rw [hW5]; exact bel_alloc B4.out _)
              have HB5 := Lib.hid (bel_trans B0.out B5.out)
              have Z5 := Lib.hid (show W5.heap[wr.heap.size]? = some (.cells #[.int .u8 ok, .string okey, .string otoo, .int .i64 on, .slice xA om xc] 47) by rw [hW5]; exact keep_bel (alb _ _) Z4.out)
              have Y5 := Lib.hid (show W5.heap[W4.heap.size]? = some (.cells #[.int .u8 ok, .string okey, .string otoo, .int .i64 on, .slice yA om yc] 47) by rw [hW5]; exact heap_alloc_new W4 _)
              rw [← hW5]
              clear hW5 g0 g1 g2 g3 g4 g9 g8 c0 c1 c2 c3 c4 c5 c6 c7 c8 c9 c10 d0 d1 d2 d3 d4 d5 d6 d7 d8 d9 d10
              obtain ⟨c0, c1, c2, c3, c4⟩ := cells5 Z5.out
              obtain ⟨d0, d1, d2, d3, d4⟩ := cells5 Y5.out
              go_wp2_with (first
                | (go_at_call 37; ((with_reducible refine (HSM.out _ HB5.out).mono ?_); rintro e w8 ⟨rfl, b8⟩; have B8 := Lib.hid (B5.out.trans (b8.mono B5.out.size)); clear b8))
                | fail)
              exact ⟨⟨j + 1, by omega, by simp, B8.out⟩, by simp [intOf]; omega⟩
            · have hke : j = xs.length := by omega
              have hj1 : ¬ (j : Int) < (xs.length : Int) := by omega
              clear hle
              go_wp2
              exact ⟨⟨i + 1, by omega, by simp, HD0.out⟩, by simp [intOf]; omega⟩
        · have hi1 : ¬ (i : Int) < (n : Int) := by omega
          clear hNN
          go_wp2
          exact bodyPost_ret (v := .bool true) (by simp [results, Tryz.results15, go_sem]) rfl ⟨rfl, HC.out⟩
theorem rsame_eq {x : ScV} {v u : Value} {w : World} (hv : ScR w x v) (hu : ScR w x u) (hf : FewP x) : Calls Tryz.prog 15 #[v, u] w fun e w' => e = .returned (.bool true) ∧ Below w.heap.size w w' := by
  obtain ⟨a0, a1, a2, a3, a4, a5, a6, a7, a8, A, c, B, d, hs, hcf, rfl, hA, hR, hP⟩ := hv.h
  obtain ⟨b0, b1, b2, b3, b4, b5, b6, b7, b8, A', c', B', d', hs', hcf', rfl, hA', hR', hP'⟩ := hu.h
  rw [hcf] at hcf'
  simp only [List.cons.injEq, and_true] at hcf'
  obtain ⟨rfl, rfl, rfl, rfl, rfl, rfl, rfl, rfl, rfl⟩ := hcf'
  exact rsame_walk a0 a1 a2 a3 a4 a5 a6 a7 a8 A B A' B' _ c _ d c' d' hs hs' x.rows x.picks w rfl rfl ⟨hf.rl, hf.pl, fun r hr => ⟨hf.ol r hr, fun o ho => (hf.op r hr o ho).m⟩⟩ hA hR hP hA' hR' hP'
end Go.Proofs.YtelpkajlejbbgaaGreatDoor
namespace Go.Proofs.YtelpkajlejbbgaaGreatDoor
open Go.RowKit Go.Maps
theorem list_nil {a : ByteArray} (h : a.toList = []) : a = ⟨#[]⟩ := ba_inj (by rw [← ByteArray.toList_eq, h])
theorem emp_nil {a : ByteArray} (h : emp a = true) : a = ⟨#[]⟩ := list_nil (by unfold emp at h; exact List.isEmpty_iff.1 h)
theorem isB_of (a x : ByteArray) (ws : List ByteArray) (m : Nat) : isB (a :: ws) x m = (decide (a = x) && decide (ws.length = m)) := by
  unfold isB
  simp
theorem isB_len {a x : ByteArray} {ws : List ByteArray} {m : Nat} (h : ws.length ≠ m) : isB (a :: ws) x m = false := by rw [isB_of]; simp [h]
theorem isB_ne {a x : ByteArray} {ws : List ByteArray} {m : Nat} (h : decide (a = x) = false) : isB (a :: ws) x m = false := by rw [isB_of, h]; rfl
theorem isB_yes (a : ByteArray) (ws : List ByteArray) (m : Nat) (h : ws.length = m) : isB (a :: ws) a m = true := by rw [isB_of]; simp [h]
/-- A word that holds neither blank nor end of line. -/
def Cl (x : ByteArray) : Prop := (32 : UInt8) ∉ x.data.toList ∧ (10 : UInt8) ∉ x.data.toList
theorem cl_tok (t : ByteArray) : Cl (tokB t) := ⟨by unfold tokB; rw [ba_list]; exact tok_no _ _ (.inl rfl), by unfold tokB; rw [ba_list]; exact tok_no _ _ (.inr rfl)⟩
theorem cl_itoa (v : Int) : Cl (itoaB v) := ⟨by unfold itoaB; rw [ba_list]; exact itoa_no _ _ (by decide), by unfold itoaB; rw [ba_list]; exact itoa_no _ _ (by decide)⟩
theorem cl_utoa (u : Nat) : Cl (utoaB u) := by
  constructor
  · unfold utoaB; rw [ba_list]; intro h; have := (dd_digit u _ h).1; exact absurd this (by decide)
  · unfold utoaB; rw [ba_list]; intro h; have := (dd_digit u _ h).1; exact absurd this (by decide)
theorem cl_words : Cl wPut ∧ Cl wDel ∧ Cl wAdd ∧ Cl wClr ∧ Cl wGet ∧ Cl wLook ∧ Cl wOpen ∧ Cl wNext ∧ Cl wClose ∧ Cl wSend ∧ Cl wSess ∧ Cl wPicks ∧ Cl wSizes := by
  refine ⟨⟨?_, ?_⟩, ⟨?_, ?_⟩, ⟨?_, ?_⟩, ⟨?_, ?_⟩, ⟨?_, ?_⟩, ⟨?_, ?_⟩, ⟨?_, ?_⟩, ⟨?_, ?_⟩, ⟨?_, ?_⟩, ⟨?_, ?_⟩, ⟨?_, ?_⟩, ⟨?_, ?_⟩, ⟨?_, ?_⟩⟩ <;> decide +kernel
theorem next_lineL (ws : List ByteArray) (r : List UInt8) (h0 : ws ≠ []) (h1 : ∀ x ∈ ws, Cl x) : nextF ⟨(lineL ws ++ r).toArray⟩ = some (ws, ⟨r.toArray⟩) := by
  have h := next_line ws ⟨r.toArray⟩ h0 h1
  rw [ba_list] at h
  have e : lineL ws ++ r = Lib.join (ws.map (·.data.toList)) [32] ++ 10 :: r := by unfold lineL; simp
  rw [e]
  exact h
theorem msg_fwd {m : M} (h : MFm m) (o : MOk m) : msgW (mWords m) = some m ∧ mWords m ≠ [] ∧ ∀ x ∈ mWords m, Cl x := by
  obtain ⟨c1, c2, c3, c4, _⟩ := cl_words
  obtain ⟨k, q, key, too, val, dl⟩ := m
  obtain ⟨hk, _, _, _, d0, d1⟩ := o
  obtain ⟨hq, hm⟩ := h
  simp only at hk d0 d1 hq hm
  subst hq
  unfold mF at hm
  rcases hk with rfl | rfl | rfl | rfl
  · rw [if_pos rfl] at hm
    by_cases h1 : too.toList = []
    · rw [if_neg (by simpa using h1)] at hm
      by_cases h2 : dl = 0
      · obtain rfl := list_nil h1
        subst h2
        refine ⟨?_, by simp [mWords], ?_⟩
        · show msgW [wPut, tokB key, tokB val] = _
          unfold msgW
          rw [if_pos (by exact isB_yes _ _ _ rfl)]
          show ((txtB (tokB key)).bind fun k => (txtB (tokB val)).map _) = _
          rw [txt_tok, txt_tok]
          rfl
        · intro x hx
          simp [mWords] at hx
          rcases hx with rfl | rfl | rfl
          · exact c1
          · exact cl_tok _
          · exact cl_tok _
      · rw [if_pos h2] at hm; exact absurd rfl hm
    · rw [if_pos h1] at hm; exact absurd rfl hm
  · rw [if_neg (by decide), if_pos rfl] at hm
    by_cases h1 : too.toList = []
    · rw [if_neg (by simpa using h1)] at hm
      by_cases h3 : val.toList = []
      · rw [if_neg (by simpa using h3)] at hm
        by_cases h2 : dl = 0
        · obtain rfl := list_nil h1
          obtain rfl := list_nil h3
          subst h2
          refine ⟨?_, by simp [mWords], ?_⟩
          · show msgW [wDel, tokB key] = _
            unfold msgW
            rw [if_neg (by rw [isB_len (by simp)]; decide), if_pos (by exact isB_yes _ _ _ rfl)]
            show (txtB (tokB key)).map _ = _
            rw [txt_tok]
            rfl
          · intro x hx
            simp [mWords] at hx
            rcases hx with rfl | rfl
            · exact c2
            · exact cl_tok _
        · rw [if_pos h2] at hm; exact absurd rfl hm
      · rw [if_pos h3] at hm; exact absurd rfl hm
    · rw [if_pos h1] at hm; exact absurd rfl hm
  · rw [if_neg (by decide), if_neg (by decide), if_pos rfl] at hm
    by_cases h1 : too.toList = []
    · rw [if_neg (by simpa using h1)] at hm
      by_cases h3 : val.toList = []
      · obtain rfl := list_nil h1
        obtain rfl := list_nil h3
        obtain ⟨d, rfl⟩ : ∃ d : Nat, dl = d := ⟨dl.toNat, by omega⟩
        refine ⟨?_, by simp [mWords], ?_⟩
        · show msgW [wAdd, tokB key, utoaB (d : Int).toNat] = _
          rw [Int.toNat_natCast]
          unfold msgW
          rw [if_neg (by rw [isB_ne (by decide +kernel)]; decide), if_neg (by rw [isB_len (by simp)]; decide), if_pos (by exact isB_yes _ _ _ rfl)]
          show ((delB (utoaB d)).bind fun d => (txtB (tokB key)).map _) = _
          rw [txt_tok, del_utoa (by omega)]
          rfl
        · intro x hx
          simp [mWords] at hx
          rcases hx with rfl | rfl | rfl
          · exact c3
          · exact cl_tok _
          · exact cl_utoa _
      · rw [if_pos h3] at hm; exact absurd rfl hm
    · rw [if_pos h1] at hm; exact absurd rfl hm
  · rw [if_neg (by decide), if_neg (by decide), if_neg (by decide), if_pos rfl] at hm
    by_cases h3 : val.toList = []
    · rw [if_neg (by simpa using h3)] at hm
      by_cases h2 : dl = 0
      · obtain rfl := list_nil h3
        subst h2
        refine ⟨?_, by simp [mWords], ?_⟩
        · show msgW [wClr, tokB key, tokB too] = _
          unfold msgW
          rw [if_neg (by rw [isB_ne (by decide +kernel)]; decide), if_neg (by rw [isB_len (by simp)]; decide), if_neg (by rw [isB_ne (by decide +kernel)]; decide), if_pos (by exact isB_yes _ _ _ rfl)]
          show ((txtB (tokB key)).bind fun k => (txtB (tokB too)).map _) = _
          rw [txt_tok, txt_tok]
          rfl
        · intro x hx
          simp [mWords] at hx
          rcases hx with rfl | rfl | rfl
          · exact c4
          · exact cl_tok _
          · exact cl_tok _
      · rw [if_pos h2] at hm; exact absurd rfl hm
    · rw [if_pos h3] at hm; exact absurd rfl hm
theorem batch_fwd : ∀ (ms : List M) (u : List UInt8) (ln : Int) (acc : List M), (∀ m ∈ ms, MFm m ∧ MOk m) → batchF ms.length ⟨(msL ms ++ u).toArray⟩ ln acc = .ok (acc ++ ms, ⟨u.toArray⟩, ln + ms.length)
  | [], u, ln, acc, h => by
    show batchF 0 ⟨([] ++ u).toArray⟩ ln acc = _
    unfold batchF
    simp
  | m :: ms, u, ln, acc, h => by
    obtain ⟨g1, g2, g3⟩ := msg_fwd (h m (by simp)).1 (h m (by simp)).2
    have e : msL (m :: ms) ++ u = lineL (mWords m) ++ (msL ms ++ u) := by
      show (lineL (mWords m) ++ msL ms) ++ u = _
      rw [List.append_assoc]
    rw [e]
    show batchF (ms.length + 1) _ ln acc = _
    unfold batchF
    rw [next_lineL _ _ g2 g3]
    simp only [g1]
    rw [batch_fwd ms u (ln + 1) (acc ++ [m]) (fun y hy => h y (List.mem_cons_of_mem _ hy))]
    simp
    omega
/-- An operation that may be printed, as it is read. -/
theorem op_fwd {o : OpV} (h : OFm o) (k : OOk o) (hl : o.ms.length ≤ 2048) (u : List UInt8) (ln : Int) : ∃ ws rest l2, nextF ⟨(opL o ++ u).toArray⟩ = some (ws, rest) ∧ opF ws rest ln = .ok (o, ⟨u.toArray⟩, l2) ∧ wdA ws 0 ≠ wPicks ∧ wdA ws 0 ≠ wSess := by
  obtain ⟨_, _, _, _, c5, c6, c7, c8, c9, c10, _⟩ := cl_words
  obtain ⟨hn, hp, hms⟩ := h
  obtain ⟨hk, _, _, _, _, hok⟩ := k
  obtain ⟨k, key, too, n, ms⟩ := o
  simp only at hn hp hms hk hok hl
  unfold opureB at hp
  rcases hk with rfl | rfl | rfl | rfl | rfl | rfl
  · simp at hp
    obtain ⟨⟨h1, rfl⟩, rfl⟩ := hp
    obtain rfl := emp_nil h1
    refine ⟨[wGet, tokB key], ⟨u.toArray⟩, ln, next_lineL _ _ (by simp) ?_, ?_, (by show wGet ≠ wPicks; decide +kernel), (by show wGet ≠ wSess; decide +kernel)⟩
    · intro x hx
      simp at hx
      rcases hx with rfl | rfl
      · exact c5
      · exact cl_tok _
    · unfold opF
      rw [if_neg (by rw [isB_ne (by decide +kernel)]; decide)]
      have e : opW [wGet, tokB key] = some ⟨1, key, ⟨#[]⟩, 0, []⟩ := by
        unfold opW
        rw [if_pos (by exact isB_yes _ _ _ rfl)]
        show (txtB (tokB key)).map _ = _
        rw [txt_tok]
        rfl
      rw [e]
  · simp at hp
    obtain ⟨⟨h1, h2⟩, rfl⟩ := hp
    obtain rfl := emp_nil h1
    obtain rfl := emp_nil h2
    refine ⟨[wSend, itoaB ms.length], ⟨(msL ms ++ u).toArray⟩, ln + ms.length, ?_, ?_, (by show wSend ≠ wPicks; decide +kernel), (by show wSend ≠ wSess; decide +kernel)⟩
    · show nextF ⟨((lineL [wSend, itoaB ms.length] ++ msL ms) ++ u).toArray⟩ = _
      rw [List.append_assoc]
      refine next_lineL _ _ (by simp) ?_
      intro x hx
      simp at hx
      rcases hx with rfl | rfl
      · exact c10
      · exact cl_itoa _
    · unfold opF
      rw [if_pos (by exact isB_yes _ _ _ rfl)]
      have e : batchR (wdA [wSend, itoaB (ms.length : Int)] 1) ⟨(msL ms ++ u).toArray⟩ ln = .ok (ms, ⟨u.toArray⟩, ln + ms.length) := by
        unfold batchR
        show (match numB (itoaB (ms.length : Int)) with
          | none => _
          | some n => _) = _
        rw [num_itoa (by unfold inR; simp; omega)]
        simp only
        rw [if_neg (by omega), if_neg (by omega), Int.toNat_natCast, batch_fwd ms u ln [] (fun m hm => ⟨hms m hm, hok m hm⟩)]
        rfl
      rw [e]
  · simp at hp
    subst hp
    refine ⟨[wLook, tokB key, tokB too, itoaB n], ⟨u.toArray⟩, ln, next_lineL _ _ (by simp) ?_, ?_, (by show wLook ≠ wPicks; decide +kernel), (by show wLook ≠ wSess; decide +kernel)⟩
    · intro x hx
      simp at hx
      rcases hx with rfl | rfl | rfl | rfl
      · exact c6
      · exact cl_tok _
      · exact cl_tok _
      · exact cl_itoa _
    · unfold opF
      rw [if_neg (by rw [isB_len (by simp)]; decide)]
      have e : opW [wLook, tokB key, tokB too, itoaB n] = some ⟨3, key, too, n, []⟩ := by
        unfold opW
        rw [if_neg (by rw [isB_len (by simp)]; decide), if_pos (by exact isB_yes _ _ _ rfl)]
        show ((txtB (tokB key)).bind fun k => (txtB (tokB too)).bind fun t => (numB (itoaB n)).map _) = _
        rw [txt_tok, txt_tok, num_itoa hn]
        rfl
      rw [e]
  · simp at hp
    obtain ⟨rfl, rfl⟩ := hp
    refine ⟨[wOpen, tokB key, tokB too], ⟨u.toArray⟩, ln, next_lineL _ _ (by simp) ?_, ?_, (by show wOpen ≠ wPicks; decide +kernel), (by show wOpen ≠ wSess; decide +kernel)⟩
    · intro x hx
      simp at hx
      rcases hx with rfl | rfl | rfl
      · exact c7
      · exact cl_tok _
      · exact cl_tok _
    · unfold opF
      rw [if_neg (by rw [isB_len (by simp)]; decide)]
      have e : opW [wOpen, tokB key, tokB too] = some ⟨4, key, too, 0, []⟩ := by
        unfold opW
        rw [if_neg (by rw [isB_len (by simp)]; decide), if_neg (by rw [isB_len (by simp)]; decide), if_pos (by exact isB_yes _ _ _ rfl)]
        show ((txtB (tokB key)).bind fun k => (txtB (tokB too)).map _) = _
        rw [txt_tok, txt_tok]
        rfl
      rw [e]
  · simp at hp
    obtain ⟨⟨h1, h2⟩, rfl⟩ := hp
    obtain rfl := emp_nil h1
    obtain rfl := emp_nil h2
    refine ⟨[wNext, itoaB n], ⟨u.toArray⟩, ln, next_lineL _ _ (by simp) ?_, ?_, (by show wNext ≠ wPicks; decide +kernel), (by show wNext ≠ wSess; decide +kernel)⟩
    · intro x hx
      simp at hx
      rcases hx with rfl | rfl
      · exact c8
      · exact cl_itoa _
    · unfold opF
      rw [if_neg (by rw [isB_ne (by decide +kernel)]; decide)]
      have e : opW [wNext, itoaB n] = some ⟨5, ⟨#[]⟩, ⟨#[]⟩, n, []⟩ := by
        unfold opW
        rw [if_neg (by rw [isB_ne (by decide +kernel)]; decide), if_neg (by rw [isB_len (by simp)]; decide), if_neg (by rw [isB_len (by simp)]; decide), if_pos (by exact isB_yes _ _ _ rfl)]
        show (numB (itoaB n)).map _ = _
        rw [num_itoa hn]
        rfl
      rw [e]
  · simp at hp
    obtain ⟨⟨h1, h2⟩, rfl⟩ := hp
    obtain rfl := emp_nil h1
    obtain rfl := emp_nil h2
    refine ⟨[wClose, itoaB n], ⟨u.toArray⟩, ln, next_lineL _ _ (by simp) ?_, ?_, (by show wClose ≠ wPicks; decide +kernel), (by show wClose ≠ wSess; decide +kernel)⟩
    · intro x hx
      simp at hx
      rcases hx with rfl | rfl
      · exact c9
      · exact cl_itoa _
    · unfold opF
      rw [if_neg (by rw [isB_ne (by decide +kernel)]; decide)]
      have e : opW [wClose, itoaB n] = some ⟨6, ⟨#[]⟩, ⟨#[]⟩, n, []⟩ := by
        unfold opW
        rw [if_neg (by rw [isB_ne (by decide +kernel)]; decide), if_neg (by rw [isB_len (by simp)]; decide), if_neg (by rw [isB_len (by simp)]; decide), if_neg (by rw [isB_ne (by decide +kernel)]; decide), if_pos (by exact isB_yes _ _ _ rfl)]
        show (numB (itoaB n)).map _ = _
        rw [num_itoa hn]
        rfl
      rw [e]
theorem ops_fwd : ∀ (os : List OpV) (f : Nat) (u : List UInt8) (ln : Int) (pre : List (List OpV)) (cur : List OpV), (∀ o ∈ os, OFm o ∧ OOk o ∧ o.ms.length ≤ 2048) → (opsL os ++ u).length < f → ∃ f2 l2, u.length < f2 ∧ rowsG f ⟨(opsL os ++ u).toArray⟩ ln (pre ++ [cur]) = rowsG f2 ⟨u.toArray⟩ l2 (pre ++ [cur ++ os])
  | [], f, u, ln, pre, cur, h, hf => ⟨f, ln, hf, by rw [List.append_nil]; rfl⟩
  | o :: os, f, u, ln, pre, cur, h, hf => by
    obtain ⟨g1, g2, g3⟩ := h o (by simp)
    have e : opsL (o :: os) ++ u = opL o ++ (opsL os ++ u) := by
      show (opL o ++ opsL os) ++ u = _
      rw [List.append_assoc]
    rw [e] at hf ⊢
    cases f with
    | zero => omega
    | succ f =>
      have hne := List.length_pos_iff.2 (op_ne o)
      obtain ⟨ws, rest, l2, q1, q2, q3, q4⟩ := op_fwd g1 g2 g3 (opsL os ++ u) (ln + 1)
      obtain ⟨f2, l3, r1, r2⟩ := ops_fwd os f u l2 pre (cur ++ [o]) (fun y hy => h y (List.mem_cons_of_mem _ hy)) (by rw [List.length_append] at hf; omega)
      refine ⟨f2, l3, r1, ?_⟩
      rw [rowsG, q1]
      simp only
      rw [if_neg q3, if_neg (fun hc => q4 hc.1), if_neg (by simp), q2]
      simp only
      rw [addLast_eq, r2]
      simp
theorem rows_fwd : ∀ (rows : List (List OpV)) (f : Nat) (u : List UInt8) (ln : Int) (acc : List (List OpV)), RGd rows → (rowsL rows ++ u).length < f → ∃ f2 l2, u.length < f2 ∧ rowsG f ⟨(rowsL rows ++ u).toArray⟩ ln acc = rowsG f2 ⟨u.toArray⟩ l2 (acc ++ rows)
  | [], f, u, ln, acc, h, hf => ⟨f, ln, hf, by rw [List.append_nil]; rfl⟩
  | r :: rows, f, u, ln, acc, h, hf => by
    obtain ⟨_, _, _, _, _, _, _, _, _, _, c11, _⟩ := cl_words
    have e : rowsL (r :: rows) ++ u = lineL [wSess] ++ (opsL r ++ (rowsL rows ++ u)) := by
      show ((lineL [wSess] ++ opsL r) ++ rowsL rows) ++ u = _
      simp only [List.append_assoc]
    rw [e] at hf ⊢
    cases f with
    | zero => omega
    | succ f =>
      have hne := List.length_pos_iff.2 (line_ne [wSess])
      have hf2 : (opsL r ++ (rowsL rows ++ u)).length < f := by rw [List.length_append] at hf; omega
      obtain ⟨f2, l2, p1, p2⟩ := ops_fwd r f (rowsL rows ++ u) (ln + 1) acc [] (h r (by simp)) hf2
      obtain ⟨f3, l3, r1, r2⟩ := rows_fwd rows f2 u l2 (acc ++ [[] ++ r]) (fun y hy => h y (List.mem_cons_of_mem _ hy)) p1
      refine ⟨f3, l3, r1, ?_⟩
      rw [rowsG, next_lineL [wSess] _ (by simp) (by intro x hx; simp at hx; subst hx; exact c11)]
      simp only
      rw [if_neg (by decide +kernel), if_pos (by decide +kernel), p2, r2]
      simp
theorem nums_fwd : ∀ (l : List Int), (∀ v ∈ l, inR v = true) → numsB (l.map itoaB) = some l
  | [], h => rfl
  | v :: l, h => by
    show ((numB (itoaB v)).bind fun v => (numsB (l.map itoaB)).map (v :: ·)) = _
    rw [num_itoa (h v (by simp)), nums_fwd l (fun y hy => h y (List.mem_cons_of_mem _ hy))]
    rfl
/-- What is printed is parsed as it was. -/
theorem parse_fwd {x : ScV} (h : SFm x) (ho : ∀ r ∈ x.rows, ∀ o ∈ r, OOk o) (h9 : x.cf.length = 9) : parseF ⟨(prL x).toArray⟩ = .ok x := by
  obtain ⟨_, _, _, _, _, _, _, _, _, _, _, c12, c13⟩ := cl_words
  obtain ⟨cf, rows, picks⟩ := x
  simp only at h9 ho
  have hs : sizesF ⟨(prL ⟨cf, rows, picks⟩).toArray⟩ 0 = .ok (cf, ⟨(rowsL rows ++ lineL (wPicks :: picks.map itoaB)).toArray⟩, 0 + 1) := by
    have e : prL ⟨cf, rows, picks⟩ = lineL (wSizes :: cf.map itoaB) ++ (rowsL rows ++ lineL (wPicks :: picks.map itoaB)) := by
      show (lineL (wSizes :: cf.map itoaB) ++ rowsL rows) ++ lineL (wPicks :: picks.map itoaB) = _
      rw [List.append_assoc]
    unfold sizesF
    rw [e, next_lineL (wSizes :: cf.map itoaB) _ (by simp) (by
      intro x hx
      rcases List.mem_cons.1 hx with rfl | hx
      · exact c13
      · obtain ⟨v, _, rfl⟩ := List.mem_map.1 hx
        exact cl_itoa v)]
    simp only
    rw [if_pos (isB_yes _ _ _ (by rw [List.length_map, h9]))]
    show (match numsB (cf.map itoaB) with
      | none => _
      | some l => _) = _
    rw [nums_fwd cf h.cf]
  unfold parseF
  rw [hs]
  simp only
  obtain ⟨f2, l2, p1, p2⟩ := rows_fwd rows ((⟨(rowsL rows ++ lineL (wPicks :: picks.map itoaB)).toArray⟩ : ByteArray).size + 1) (lineL (wPicks :: picks.map itoaB)) (0 + 1) [] (fun r hr o hro => ⟨(h.op r hr o hro).1, ho r hr o hro, (h.op r hr o hro).2⟩) (by rw [ba_size]; omega)
  have hr : rowsG ((⟨(rowsL rows ++ lineL (wPicks :: picks.map itoaB)).toArray⟩ : ByteArray).size + 1) ⟨(rowsL rows ++ lineL (wPicks :: picks.map itoaB)).toArray⟩ (0 + 1) [] = .ok ((rows, picks), ⟨#[]⟩, l2 + 1) := by
    rw [p2]
    cases f2 with
    | zero => omega
    | succ f2 =>
      have e : lineL (wPicks :: picks.map itoaB) = lineL (wPicks :: picks.map itoaB) ++ [] := by simp
      rw [e, rowsG, next_lineL (wPicks :: picks.map itoaB) [] (by simp) (by
        intro x hx
        rcases List.mem_cons.1 hx with rfl | hx
        · exact c12
        · obtain ⟨v, _, rfl⟩ := List.mem_map.1 hx
          exact cl_itoa v)]
      simp only
      rw [if_pos (show wdA (wPicks :: picks.map itoaB) 0 = wPicks from rfl)]
      show (match numsB (picks.map itoaB) with
        | none => _
        | some l => _) = _
      rw [nums_fwd picks h.pk]
      rfl
  rw [hr]
  simp only
  rw [if_pos trivial]
end Go.Proofs.YtelpkajlejbbgaaGreatDoor
namespace Go.Proofs.YtelpkajlejbbgaaGreatDoor
open Go.RowKit Go.Maps
end Go.Proofs.YtelpkajlejbbgaaGreatDoor
namespace Go.Proofs.YtelpkajlejbbgaaGreatDoor
open Go.RowKit Go.Maps
/-- What a good script prints parses as it was. -/
theorem parse_few {x : ScV} {a0 a1 a2 a3 a4 a5 a6 a7 a8 : Int} (hcf : x.cf = [a0, a1, a2, a3, a4, a5, a6, a7, a8]) (hf : FewP x) (hi : ScIn x) (hg : GoodS x) {w : World} (h : GW w) :
    Calls Tryz.prog 16 #[.string ⟨(prL x).toArray⟩] w fun e w' => ∃ A c B d, e = .returned (.tuple #[.agg #[.int .i64 a0, .int .i64 a1, .int .i64 a2, .int .i64 a3, .int .i64 a4, .int .i64 a5, .int .i64 a6, .int .i64 a7, .int .i64 a8, .slice A x.rows.length c, .slice B x.picks.length d], .int .i64 0, .int .i64 0]) ∧ ScR w' x (.agg #[.int .i64 a0, .int .i64 a1, .int .i64 a2, .int .i64 a3, .int .i64 a4, .int .i64 a5, .int .i64 a6, .int .i64 a7, .int .i64 a8, .slice A x.rows.length c, .slice B x.picks.length d]) ∧ Below w.heap.size w w' := by
  have ht := pr_300 hf hi (by rw [hcf]; rfl)
  have hp := parse_fwd (sfm_of hf hg) (fun r hr o ho => ook_of (hg.2.1 r hr o ho).1 (osz_of (hf.op r hr o ho) (hi.op r hr o ho))) (by rw [hcf]; rfl)
  refine (parse_any ⟨(prL x).toArray⟩ (by rw [ba_size]; omega) w h).mono fun e w' h => ?_
  unfold ParseP at h
  rw [hp] at h
  obtain ⟨⟨v, he, hR⟩, hb⟩ := h
  have hR2 := hR
  obtain ⟨b0, b1, b2, b3, b4, b5, b6, b7, b8, A, c, B, d, hs, hc2, rfl, h1, h2, h3⟩ := hR.h
  rw [hcf] at hc2
  simp only [List.cons.injEq, and_true] at hc2
  obtain ⟨rfl, rfl, rfl, rfl, rfl, rfl, rfl, rfl, rfl⟩ := hc2
  exact ⟨A, c, B, d, he, hR2, hb⟩
theorem live_tup {w : World} (hg : GW w) : Hid (∀ W, Below w.heap.size w W → Calls Tryz.prog 9 #[] W fun e w' => e = .returned (.bool true) ∧ Below W.heap.size W w') := Lib.hid (fun W h => live_any W (hg.later h))
set_option maxHeartbeats 4000000 in
set_option maxRecDepth 100000 in
theorem back_any {x : ScV} {v : Value} (w : World) (hg : GW w) (hR : ScR w x v) (hi : ScIn x) : Calls Tryz.prog 4 #[v] w fun e w' => e = .returned (.bool true) ∧ Below w.heap.size w w' := by
  have hR0 := hR
  obtain ⟨a0, a1, a2, a3, a4, a5, a6, a7, a8, A, c, B, d, hs, hcf, rfl, hA, hRW, hP⟩ := hR0.h
  have HLV := live_tup hg
  obtain ⟨n, hn⟩ : ∃ n, x.rows.length = n := ⟨_, rfl⟩
  obtain ⟨m, hm⟩ : ∃ m, x.picks.length = m := ⟨_, rfl⟩
  have HRR : Hid (∀ W, Below w.heap.size w W → ScR W x (scA a0 a1 a2 a3 a4 a5 a6 a7 a8 A n c B m d)) := Lib.hid (fun W h => by rw [hn, hm] at hR; exact hR.later h)
  rw [hn, hm]
  clear hA hRW hP hR hR0
  obtain ⟨W1, hW1⟩ : ∃ W1, W1 = w.alloc (.cells #[.int .i64 a0, .int .i64 a1, .int .i64 a2, .int .i64 a3, .int .i64 a4, .int .i64 a5, .int .i64 a6, .int .i64 a7, .int .i64 a8, .slice A n c, .slice B m d] 27) := ⟨_, rfl⟩
  have B1 := Lib.hid (show Below w.heap.size w W1 by rw [hW1]; exact alb w _)
  have Z1 := Lib.hid (show W1.heap[w.heap.size]? = some (.cells #[.int .i64 a0, .int .i64 a1, .int .i64 a2, .int .i64 a3, .int .i64 a4, .int .i64 a5, .int .i64 a6, .int .i64 a7, .int .i64 a8, .slice A n c, .slice B m d] 27) by rw [hW1]; exact heap_alloc_new w _)
  obtain ⟨c0, c1, c2, c3, c4, c5, c6, c7, c8, c9, c10⟩ := cells11 Z1.out
  by_cases hf : FewP x
  rotate_left
  · have HF := Lib.hid (fun W h => few_no (HRR.out W h) hf)
    unfold scA at HF ⊢
    clear hg hf hi hcf hn hm
    go_enter Tryz.func4, Tryz.ntmps4
    go_upto_region 1 with fail
    rw [← hW1]
    clear hW1
    go_wp2_with (first
      | (go_at_call 8; ((with_reducible refine (HF.out _ B1.out).mono ?_); rintro e w2 ⟨rfl, b2⟩; have B2 := Lib.hid (bel_trans B1.out b2); clear b2))
      | (go_at_call 9; ((refine (HLV.out _ B2.out).mono ?_); rintro e w3 ⟨rfl, b3⟩; have B3 := Lib.hid (bel_trans B2.out b3); clear b3))
      | fail)
    exact bodyPost_ret (v := .bool true) (by simp [results, Tryz.results4, go_sem]) rfl ⟨rfl, B3.out⟩
  have HF := Lib.hid (fun W h => few_yes (HRR.out W h) hf)
  by_cases hgd : GoodS x
  rotate_left
  · have HPR : Hid (∀ W, Below w.heap.size w W → Calls Tryz.prog 11 #[scA a0 a1 a2 a3 a4 a5 a6 a7 a8 A n c B m d] W fun e w' => (∃ er : Int, (er = 3 ∨ er = 4) ∧ e = .returned (.tuple #[.string ⟨#[]⟩, .int .i64 er])) ∧ Below W.heap.size W w') := Lib.hid (fun W h => (rprint_all (HRR.out W h) hf hi).mono fun e w' ⟨h1, h2⟩ => by
      refine ⟨?_, h2⟩
      rcases h1 with ⟨h1, _⟩ | h1
      · exact absurd h1 hgd
      · exact h1)
    unfold scA at HF HPR ⊢
    clear hg hf hi hcf hn hm hgd
    go_enter Tryz.func4, Tryz.ntmps4
    go_upto_region 1 with fail
    rw [← hW1]
    clear hW1
    go_wp2_with (first
      | (go_at_call 8; ((with_reducible refine (HF.out _ B1.out).mono ?_); rintro e w2 ⟨rfl, b2⟩; have B2 := Lib.hid (bel_trans B1.out b2); obtain ⟨c0, c1, c2, c3, c4, c5, c6, c7, c8, c9, c10⟩ := cells11 (keep_bel b2 Z1.out); clear b2))
      | (go_at_call 11; ((with_reducible refine (HPR.out _ B2.out).mono ?_); rintro e w3 ⟨⟨er, her, rfl⟩, b3⟩; have B3 := Lib.hid (bel_trans B2.out b3); have er1 : ¬ er = 0 := (by rcases her with rfl | rfl <;> omega); clear b3 her))
      | (go_at_call 9; ((refine (HLV.out _ B3.out).mono ?_); rintro e w4 ⟨rfl, b4⟩; have B4 := Lib.hid (bel_trans B3.out b4); clear b4))
      | fail)
    exact bodyPost_ret (v := .bool true) (by simp [results, Tryz.results4, go_sem]) rfl ⟨rfl, B4.out⟩
  have HPR : Hid (∀ W, Below w.heap.size w W → Calls Tryz.prog 11 #[scA a0 a1 a2 a3 a4 a5 a6 a7 a8 A n c B m d] W fun e w' => e = .returned (.tuple #[.string ⟨(prL x).toArray⟩, .int .i64 0]) ∧ Below W.heap.size W w') := Lib.hid (fun W h => rprint_good (HRR.out W h) hf hi hgd)
  have HPA := Lib.hid (fun W (h : Below w.heap.size w W) => parse_few hcf hf hi hgd (hg.later h))
  rw [hn, hm] at HPA
  have HSM : Hid (∀ W (u : Value), Below w.heap.size w W → ScR W x u → Calls Tryz.prog 15 #[scA a0 a1 a2 a3 a4 a5 a6 a7 a8 A n c B m d, u] W fun e w' => e = .returned (.bool true) ∧ Below W.heap.size W w') := Lib.hid (fun W u h hu => rsame_eq (HRR.out W h) hu hf)
  obtain ⟨T, hT⟩ : ∃ T : ByteArray, T = ⟨(prL x).toArray⟩ := ⟨_, rfl⟩
  rw [← hT] at HPR HPA
  unfold scA at HF HPR HSM ⊢
  clear hg hf hi hcf hn hm hgd hT
  go_enter Tryz.func4, Tryz.ntmps4
  go_upto_region 1 with fail
  rw [← hW1]
  clear hW1
  go_upto_region 7 with (first
    | (go_at_call 8; ((with_reducible refine (HF.out _ B1.out).mono ?_); rintro e w2 ⟨rfl, b2⟩; have B2 := Lib.hid (bel_trans B1.out b2); have Z2 := Lib.hid (keep_bel b2 Z1.out); obtain ⟨c0, c1, c2, c3, c4, c5, c6, c7, c8, c9, c10⟩ := cells11 Z2.out; clear b2))
    | (go_at_call 11; ((with_reducible refine (HPR.out _ B2.out).mono ?_); rintro e w3 ⟨rfl, b3⟩; have B3 := Lib.hid (bel_trans B2.out b3); have Z3 := Lib.hid (keep_bel b3 Z2.out); clear b3))
    | (go_at_call 16; ((with_reducible refine (HPA.out _ B3.out).mono ?_); rintro e w4 ⟨A', c', B', d', rfl, r4, b4⟩; have B4 := Lib.hid (bel_trans B3.out b4); have Z4 := Lib.hid (keep_bel b4 Z3.out); have R4 := Lib.hid r4; clear b4 r4))
    | fail)
  obtain ⟨W5, hW5⟩ : ∃ W5, W5 = w4.alloc (.cells #[.int .i64 a0, .int .i64 a1, .int .i64 a2, .int .i64 a3, .int .i64 a4, .int .i64 a5, .int .i64 a6, .int .i64 a7, .int .i64 a8, .slice A' n c', .slice B' m d'] 27) := ⟨_, rfl⟩
  have B5 := Lib.hid (show Below w.heap.size w W5 by rw [hW5]; exact bel_alloc B4.out _)
  have Z5 := Lib.hid (show W5.heap[w.heap.size]? = some (.cells #[.int .i64 a0, .int .i64 a1, .int .i64 a2, .int .i64 a3, .int .i64 a4, .int .i64 a5, .int .i64 a6, .int .i64 a7, .int .i64 a8, .slice A n c, .slice B m d] 27) by rw [hW5]; exact keep_bel (alb _ _) Z4.out)
  have Y5 := Lib.hid (show W5.heap[w4.heap.size]? = some (.cells #[.int .i64 a0, .int .i64 a1, .int .i64 a2, .int .i64 a3, .int .i64 a4, .int .i64 a5, .int .i64 a6, .int .i64 a7, .int .i64 a8, .slice A' n c', .slice B' m d'] 27) by rw [hW5]; exact heap_alloc_new w4 _)
  have R5 := Lib.hid (show ScR W5 x _ by rw [hW5]; exact R4.out.later (alb w4 _))
  rw [← hW5]
  clear hW5
  go_wp2_with (first
    | (go_at_call 9; ((refine (HLV.out _ B5.out).mono ?_); rintro e w6 ⟨rfl, b6⟩; have B6 := Lib.hid (bel_trans B5.out b6); have R6 := Lib.hid (R5.out.later b6); obtain ⟨c0, c1, c2, c3, c4, c5, c6, c7, c8, c9, c10⟩ := cells11 (keep_bel b6 Z5.out); obtain ⟨d0, d1, d2, d3, d4, d5, d6, d7, d8, d9, d10⟩ := cells11 (keep_bel b6 Y5.out); clear b6))
    | (go_at_call 15; ((with_reducible refine (HSM.out _ _ B6.out R6.out).mono ?_); rintro e w7 ⟨rfl, b7⟩; have B7 := Lib.hid (bel_trans B6.out b7); clear b7))
    | fail)
  exact bodyPost_ret (v := .bool true) (by simp [results, Tryz.results4, go_sem]) rfl ⟨rfl, B7.out⟩
end Go.Proofs.YtelpkajlejbbgaaGreatDoor
