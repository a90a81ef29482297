/- Texts of the proof, one behind the other. -/
import Derived.Test.YtelpkajlejbbgaaGreatDoorTd29
import Derived.Test.YtelpkajlejbbgaaGreatDoorTd27
import Derived.Test.YtelpkajlejbbgaaGreatDoorTd32
set_option linter.unusedVariables false
set_option linter.unusedSimpArgs false
namespace Go.Proofs.YtelpkajlejbbgaaGreatDoor
open Go.RowKit Go.Maps
def RFew (r : List OpV) : Prop := r.length ≤ 12 ∧ ∀ o ∈ r, O8 o
set_option maxHeartbeats 1500000 in
set_option maxRecDepth 100000 in
theorem few_walk (a0 a1 a2 a3 a4 a5 a6 a7 a8 : Int) (A Bp : Option Addr) (n c m d : Nat) (hs : List Hd) (rows : List (List OpV)) (w : World) (G : Prop) (hG : G ↔ (n ≤ 6 ∧ m ≤ 300 ∧ (∀ r ∈ rows, RFew r))) (hn : rows.length = n) (hA : EH.Rd w A hs) (hR : RowsR w (fun _ => False) hs rows) :
    Calls Tryz.prog 8 #[scA a0 a1 a2 a3 a4 a5 a6 a7 a8 A n c Bp m d] w fun e w' => ((G ∧ e = .returned (.bool true)) ∨ (¬ G ∧ e = .returned (.bool false))) ∧ Below w.heap.size w w' := by
  obtain ⟨W1, hW1⟩ : ∃ W1, W1 = w.alloc (.cells #[.int .i64 a0, .int .i64 a1, .int .i64 a2, .int .i64 a3, .int .i64 a4, .int .i64 a5, .int .i64 a6, .int .i64 a7, .int .i64 a8, .slice A n c, .slice Bp m d] 27) := ⟨_, rfl⟩
  have B1 := Lib.hid (show Below w.heap.size w W1 by rw [hW1]; exact alb w _)
  have Z1 := Lib.hid (show W1.heap[w.heap.size]? = some (.cells #[.int .i64 a0, .int .i64 a1, .int .i64 a2, .int .i64 a3, .int .i64 a4, .int .i64 a5, .int .i64 a6, .int .i64 a7, .int .i64 a8, .slice A n c, .slice Bp m d] 27) by rw [hW1]; exact heap_alloc_new w _)
  have HN := Lib.hid hn
  have HGG := Lib.hid hG
  have HA := Lib.hid hA
  have HR := Lib.hid hR
  clear hn hA hR hG
  unfold scA
  go_enter Tryz.func8, Tryz.ntmps8
  go_upto_region 1 with fail
  rw [← hW1]
  clear hW1
  obtain ⟨c0, c1, c2, c3, c4, c5, c6, c7, c8, c9, c10⟩ := cells11 Z1.out
  by_cases h6 : 6 < n
  · have k6 : (6 : Int) < (n : Int) := by omega
    have HX := Lib.hid (show ¬ G from fun g => by have g := HGG.out.1 g; omega)
    go_wp2
    exact bodyPost_ret (v := .bool false) (by simp [results, Tryz.results8, go_sem]) rfl ⟨.inr ⟨HX.out, rfl⟩, B1.out⟩
  have k6 : ¬ (6 : Int) < (n : Int) := by omega
  by_cases h3 : 300 < m
  · have k3 : (300 : Int) < (m : Int) := by omega
    have HX := Lib.hid (show ¬ G from fun g => by have g := HGG.out.1 g; omega)
    go_wp2
    exact bodyPost_ret (v := .bool false) (by simp [results, Tryz.results8, go_sem]) rfl ⟨.inr ⟨HX.out, rfl⟩, B1.out⟩
  have k3 : ¬ (300 : Int) < (m : Int) := by omega
  go_upto_region 4 with fail
  have HS := Lib.hid (show n ≤ 6 ∧ m ≤ 300 by omega)
  clear h6 k6 h3 k3 c0 c1 c2 c3 c4 c5 c6 c7 c8 c9 c10
  go_loopw [3] (fun iv wr => ∃ i : Nat, i ≤ n ∧ iv = .int .i64 i ∧ Hid (∀ r ∈ rows.take i, RFew r) ∧ Below W1.heap.size W1 wr) (fun iv _ => n - (intOf iv).toNat)
  case atStart => exact ⟨0, by omega, rfl, Lib.hid (fun v hv => by simp at hv), Below.refl _ _⟩
  case round =>
    obtain ⟨i, hi, rfl, HG, hbw⟩ := hrel
    have HB3 := Lib.hid hbw
    have HB := Lib.hid (bel_trans B1.out hbw)
    clear hbw
    have hNN := HN.out
    have hSS := HS.out.1
    obtain ⟨c0, c1, c2, c3, c4, c5, c6, c7, c8, c9, c10⟩ := cells11 (keep_bel HB3.out Z1.out)
    by_cases h8 : i < n
    · have hk1 : (i : Int) < (n : Int) := by omega
      have hk0 : (0 : Int) ≤ (i : Int) := by omega
      have WK : IntKind.i64.wrap ((i : Int) + 1) = (i : Int) + 1 := IntWalk.i64_in _ (by omega)
      obtain ⟨r, hr⟩ : ∃ r, rows[i]? = some r := ⟨_, List.getElem?_eq_getElem (by omega)⟩
      obtain ⟨h, hh⟩ : ∃ h, hs[i]? = some h := ⟨_, List.getElem?_eq_getElem (by rw [HR.out.1]; omega)⟩
      obtain ⟨xs, hx1, hx2, hx3⟩ := HR.out.2 i h r hh hr
      obtain ⟨b2, off, hb2, hlt, hc⟩ := (HA.out.later HB.out).get hh
      subst hb2
      obtain ⟨hA2, hn2, hc2⟩ := h
      simp only at hx1 hx2
      subst hx1
      have HHH := Lib.hid hh
      have HXR := Lib.hid hx2
      have HXO := Lib.hid hx3
      have HNR : Hid (¬ RFew r → ¬ G) := Lib.hid (fun h g => h ((HGG.out.1 g).2.2 r (List.mem_of_getElem? hr)))
      have HGN : Hid (RFew r → ∀ r' ∈ rows.take (i + 1), RFew r') := Lib.hid (fun h r' hr' => by
        rw [List.take_add_one, hr] at hr'
        rcases List.mem_append.1 hr' with hr' | hr'
        · exact HG.out r' hr'
        · simp at hr'; subst hr'; exact h)
      have g9 : wr.cell? ⟨b2, off + i, none⟩ = some (.slice hA2 xs.length hc2) := by simpa [EH] using hc 0 _ rfl
      clear hr hh hx2 hx3 hNN hc hlt
      by_cases h12 : 12 < xs.length
      · have k12 : (12 : Int) < (xs.length : Int) := by omega
        have HX := Lib.hid (HNR.out (fun q => by have h1 := q.1; have h2 := HXO.out.1; omega))
        go_wp2
        exact bodyPost_ret (v := .bool false) (by simp [results, Tryz.results8, go_sem]) rfl ⟨.inr ⟨HX.out, rfl⟩, HB.out⟩
      have k12 : ¬ (12 : Int) < (xs.length : Int) := by omega
      have HL12 := Lib.hid (show r.length ≤ 12 by rw [← HXO.out.1]; omega)
      have HX12 := Lib.hid (show xs.length ≤ 12 by omega)
      clear h12
      go_upto_region 9 with fail
      clear k12 g9 c0 c1 c2 c3 c4 c5 c6 c7 c8 c9 c10
      go_loopw [4] (fun jv wr => ∃ j : Nat, j ≤ xs.length ∧ jv = .int .i64 j ∧ Hid (∀ o ∈ r.take j, O8 o) ∧ Below W1.heap.size W1 wr) (fun jv _ => xs.length - (intOf jv).toNat)
      case atStart => exact ⟨0, by omega, rfl, Lib.hid (fun v hv => by simp at hv), HB3.out⟩
      case round =>
        obtain ⟨j, hj, rfl, HG3, hbw⟩ := hrel
        have HB93 := Lib.hid hbw
        have HB9 := Lib.hid (bel_trans B1.out hbw)
        clear hbw
        have hle := HX12.out
        have hxl := HXO.out.1
        obtain ⟨c0, c1, c2, c3, c4, c5, c6, c7, c8, c9, c10⟩ := cells11 (keep_bel HB93.out Z1.out)
        have g9 : wr.cell? ⟨b2, off + i, none⟩ = some (.slice hA2 xs.length hc2) := by
          obtain ⟨b2', off', hb2, hlt, hc⟩ := (HA.out.later HB9.out).get HHH.out
          cases hb2
          simpa [EH] using hc 0 _ rfl
        by_cases h9 : j < xs.length
        · have hj1 : (j : Int) < (xs.length : Int) := by omega
          have hj0 : (0 : Int) ≤ (j : Int) := by omega
          have WJ : IntKind.i64.wrap ((j : Int) + 1) = (j : Int) + 1 := IntWalk.i64_in _ (by omega)
          obtain ⟨o, ho⟩ : ∃ o, r[j]? = some o := ⟨_, List.getElem?_eq_getElem (by omega)⟩
          obtain ⟨x, hx⟩ : ∃ x, xs[j]? = some x := ⟨_, List.getElem?_eq_getElem h9⟩
          obtain ⟨b3, off3, hb3, hlt3, hc3⟩ := (HXR.out.rd.later HB9.out).get hx
          subst hb3
          obtain ⟨e1, e2, e3, e4, e5, e6⟩ := HXO.out.2 j x o hx ho
          obtain ⟨xk, xkey, xtoo, xn, xA, xl, xc⟩ := x
          simp only at e1 e2 e3 e4 e5 e6
          subst e1 e2 e3 e4 e5
          have g0 : wr.cell? ⟨b3, off3 + j * 5, none⟩ = some (.int .u8 o.k) := hc3 0 _ rfl
          have g1 : wr.cell? ⟨b3, off3 + j * 5 + 1, none⟩ = some (.string o.key) := hc3 1 _ rfl
          have g2 : wr.cell? ⟨b3, off3 + j * 5 + 2, none⟩ = some (.string o.too) := hc3 2 _ rfl
          have g3 : wr.cell? ⟨b3, off3 + j * 5 + 3, none⟩ = some (.int .i64 o.n) := hc3 3 _ rfl
          have g4 : wr.cell? ⟨b3, off3 + j * 5 + 4, none⟩ = some (.slice xA o.ms.length xc) := hc3 4 _ rfl
          have HNO : Hid (¬ O8 o → ¬ G) := Lib.hid (fun h => HNR.out (fun q => h (q.2 o (List.mem_of_getElem? ho))))
          have HGN3 : Hid (O8 o → ∀ q ∈ r.take (j + 1), O8 q) := Lib.hid (fun h v hv => by
            rw [List.take_add_one, ho] at hv
            rcases List.mem_append.1 hv with hv | hv
            · exact HG3.out v hv
            · simp at hv; subst hv; exact h)
          have HM := Lib.hid (e6.rd.later HB9.out)
          obtain ⟨ok, okey, otoo, on, oms⟩ := o
          simp only at g0 g1 g2 g3 g4 HM
          clear hx ho hc3 e6 hxl hle hlt3
          go_upto_region 12 with fail
          obtain ⟨W4, hW4⟩ : ∃ W4, W4 = wr.alloc (.cells #[.int .u8 ok, .string okey, .string otoo, .int .i64 on, .slice xA oms.length xc] 47) := ⟨_, rfl⟩
          have B4 := Lib.hid (show Below W1.heap.size W1 W4 by rw [hW4]; exact bel_alloc HB93.out _)
          have HB4 := Lib.hid (bel_trans B1.out B4.out)
          have Z4 := Lib.hid (show W4.heap[wr.heap.size]? = some (.cells #[.int .u8 ok, .string okey, .string otoo, .int .i64 on, .slice xA oms.length xc] 47) by rw [hW4]; exact heap_alloc_new wr _)
          have HM4 := Lib.hid (show EM.Rd W4 xA oms by rw [hW4]; exact HM.out.later (alb wr _))
          rw [← hW4]
          clear hW4 g0 g1 g2 g3 g4 g9 c0 c1 c2 c3 c4 c5 c6 c7 c8 c9 c10
          obtain ⟨c0, c1, c2, c3, c4⟩ := cells5 Z4.out
          by_cases q1 : 8 < oms.length
          · have q1' : (8 : Int) < (oms.length : Int) := by omega
            have HX := Lib.hid (HNO.out (fun q => by have h1 : _ ≤ 8 := q.m; have h2 : _ ≤ 300 := q.key; have h3 : _ ≤ 300 := q.too; simp only at h1 h2 h3; omega))
            go_wp2
            exact bodyPost_ret (v := .bool false) (by simp [results, Tryz.results8, go_sem]) rfl ⟨.inr ⟨HX.out, rfl⟩, HB4.out⟩
          have q1' : ¬ (8 : Int) < (oms.length : Int) := by omega
          by_cases q2 : 300 < okey.size
          · have q2' : (300 : Int) < (okey.size : Int) := by omega
            have HX := Lib.hid (HNO.out (fun q => by have h1 : _ ≤ 8 := q.m; have h2 : _ ≤ 300 := q.key; have h3 : _ ≤ 300 := q.too; simp only at h1 h2 h3; omega))
            go_wp2
            exact bodyPost_ret (v := .bool false) (by simp [results, Tryz.results8, go_sem]) rfl ⟨.inr ⟨HX.out, rfl⟩, HB4.out⟩
          have q2' : ¬ (300 : Int) < (okey.size : Int) := by omega
          by_cases q3 : 300 < otoo.size
          · have q3' : (300 : Int) < (otoo.size : Int) := by omega
            have HX := Lib.hid (HNO.out (fun q => by have h1 : _ ≤ 8 := q.m; have h2 : _ ≤ 300 := q.key; have h3 : _ ≤ 300 := q.too; simp only at h1 h2 h3; omega))
            go_wp2
            exact bodyPost_ret (v := .bool false) (by simp [results, Tryz.results8, go_sem]) rfl ⟨.inr ⟨HX.out, rfl⟩, HB4.out⟩
          have q3' : ¬ (300 : Int) < (otoo.size : Int) := by omega
          have HO3 := Lib.hid (show okey.size ≤ 300 ∧ otoo.size ≤ 300 ∧ oms.length ≤ 8 by omega)
          clear q1 q2 q3
          go_upto_region 15 with fail
          clear q1' q2' q3'
          go_loopw [6] (fun kv w9 => ∃ k : Nat, k ≤ oms.length ∧ kv = .int .i64 k ∧ Hid (∀ q ∈ oms.take k, M3 q) ∧ w9 = W4) (fun kv _ => oms.length - (intOf kv).toNat)
          case atStart => exact ⟨0, by omega, rfl, Lib.hid (fun v hv => by simp at hv), rfl⟩
          case round =>
            obtain ⟨k, hk, rfl, HG5, hw⟩ := hrel
            (have hw2 := hw.symm; subst hw2; clear hw)
            have h38 := HO3.out.2.2
            by_cases h7 : k < oms.length
            · have hk1 : (k : Int) < (oms.length : Int) := by omega
              have hk0 : (0 : Int) ≤ (k : Int) := by omega
              have WK : IntKind.i64.wrap ((k : Int) + 1) = (k : Int) + 1 := IntWalk.i64_in _ (by omega)
              obtain ⟨x, hx⟩ : ∃ x, oms[k]? = some x := ⟨_, List.getElem?_eq_getElem h7⟩
              obtain ⟨b5, off5, hb5, hlt5, hc5⟩ := HM4.out.get hx
              subst hb5
              have HNM : Hid (¬ M3 x → ¬ G) := Lib.hid (fun h => HNO.out (fun q => h (q.ms x (List.mem_of_getElem? hx))))
              have HGN5 : Hid (M3 x → ∀ q ∈ oms.take (k + 1), M3 q) := Lib.hid (fun h v hv => by
                rw [List.take_add_one, hx] at hv
                rcases List.mem_append.1 hv with hv | hv
                · exact HG5.out v hv
                · simp at hv; subst hv; exact h)
              obtain ⟨mk, mq, mkey, mtoo, mval, mdl⟩ := x
              have g2 : W4.cell? ⟨b5, off5 + k * 6 + 2, none⟩ = some (.string mkey) := hc5 2 _ rfl
              have g3 : W4.cell? ⟨b5, off5 + k * 6 + 3, none⟩ = some (.string mtoo) := hc5 3 _ rfl
              have g4 : W4.cell? ⟨b5, off5 + k * 6 + 4, none⟩ = some (.string mval) := hc5 4 _ rfl
              clear hx hc5 hlt5 h38
              by_cases q1 : 300 < mkey.size
              · have q1' : (300 : Int) < (mkey.size : Int) := by omega
                have HX := Lib.hid (HNM.out (fun q => by have h1 : _ ≤ 300 := q.key; have h2 : _ ≤ 300 := q.too; have h3 : _ ≤ 300 := q.val; simp only at h1 h2 h3; omega))
                go_wp2
                exact bodyPost_ret (v := .bool false) (by simp [results, Tryz.results8, go_sem]) rfl ⟨.inr ⟨HX.out, rfl⟩, HB4.out⟩
              have q1' : ¬ (300 : Int) < (mkey.size : Int) := by omega
              by_cases q2 : 300 < mtoo.size
              · have q2' : (300 : Int) < (mtoo.size : Int) := by omega
                have HX := Lib.hid (HNM.out (fun q => by have h1 : _ ≤ 300 := q.key; have h2 : _ ≤ 300 := q.too; have h3 : _ ≤ 300 := q.val; simp only at h1 h2 h3; omega))
                go_wp2
                exact bodyPost_ret (v := .bool false) (by simp [results, Tryz.results8, go_sem]) rfl ⟨.inr ⟨HX.out, rfl⟩, HB4.out⟩
              have q2' : ¬ (300 : Int) < (mtoo.size : Int) := by omega
              by_cases q3 : 300 < mval.size
              · have q3' : (300 : Int) < (mval.size : Int) := by omega
                have HX := Lib.hid (HNM.out (fun q => by have h1 : _ ≤ 300 := q.key; have h2 : _ ≤ 300 := q.too; have h3 : _ ≤ 300 := q.val; simp only at h1 h2 h3; omega))
                go_wp2
                exact bodyPost_ret (v := .bool false) (by simp [results, Tryz.results8, go_sem]) rfl ⟨.inr ⟨HX.out, rfl⟩, HB4.out⟩
              have q3' : ¬ (300 : Int) < (mval.size : Int) := by omega
              have HG6 := Lib.hid (HGN5.out ⟨by show mkey.size ≤ 300; omega, by show mtoo.size ≤ 300; omega, by show mval.size ≤ 300; omega⟩)
              clear q1 q2 q3 HGN5
              go_wp2
              exact ⟨⟨k + 1, by omega, by simp, HG6, trivial⟩, by simp [intOf]; omega⟩
            · have hke : k = oms.length := by omega
              subst hke
              have hk1 : ¬ (oms.length : Int) < (oms.length : Int) := by omega
              have HG6 := Lib.hid (HGN3.out ⟨HO3.out.1, HO3.out.2.1, HO3.out.2.2, fun y hy => HG5.out y (by rw [List.take_of_length_le (Nat.le_refl _)]; exact hy)⟩)
              clear h38
              go_wp2
              exact ⟨⟨j + 1, by omega, by simp, HG6, B4.out⟩, by simp [intOf]; omega⟩
        · have hke : j = xs.length := by omega
          subst hke
          have hj1 : ¬ (xs.length : Int) < (xs.length : Int) := by omega
          have HG6 := Lib.hid (HGN.out ⟨HL12.out, fun y hy => HG3.out y (by rw [List.take_of_length_le (by omega)]; exact hy)⟩)
          clear hxl hle
          go_wp2
          exact ⟨⟨i + 1, by omega, by simp, HG6, HB93.out⟩, by simp [intOf]; omega⟩
    · have hke : i = n := by omega
      have hk1 : ¬ (i : Int) < (n : Int) := by omega
      have HG6 := Lib.hid (show ∀ r ∈ rows, RFew r from fun y hy => HG.out y (by rw [List.take_of_length_le (by omega)]; exact hy))
      clear hNN hSS
      go_wp2
      exact bodyPost_ret (v := .bool true) (by simp [results, Tryz.results8, go_sem]) rfl ⟨.inl ⟨HGG.out.2 ⟨HS.out.1, HS.out.2, HG6.out⟩, rfl⟩, HB.out⟩
theorem few_yes {x : ScV} {v : Value} {w : World} (hR : ScR w x v) (hf : FewP x) :
    Calls Tryz.prog 8 #[v] w fun e w' => e = .returned (.bool true) ∧ Below w.heap.size w w' := by
  obtain ⟨a0, a1, a2, a3, a4, a5, a6, a7, a8, A, c, B, d, hs, hcf, rfl, hA, hW, hB⟩ := hR.h
  exact (few_walk a0 a1 a2 a3 a4 a5 a6 a7 a8 A B _ c _ d hs x.rows w _ Iff.rfl rfl hA hW).mono fun e w' ⟨h1, h2⟩ => by
    refine ⟨?_, h2⟩
    rcases h1 with ⟨_, h1⟩ | ⟨h1, _⟩
    · exact h1
    · exact absurd ⟨hf.rl, hf.pl, fun r hr => ⟨hf.ol r hr, hf.op r hr⟩⟩ h1
theorem few_no {x : ScV} {v : Value} {w : World} (hR : ScR w x v) (hf : ¬ FewP x) :
    Calls Tryz.prog 8 #[v] w fun e w' => e = .returned (.bool false) ∧ Below w.heap.size w w' := by
  obtain ⟨a0, a1, a2, a3, a4, a5, a6, a7, a8, A, c, B, d, hs, hcf, rfl, hA, hW, hB⟩ := hR.h
  exact (few_walk a0 a1 a2 a3 a4 a5 a6 a7 a8 A B _ c _ d hs x.rows w _ Iff.rfl rfl hA hW).mono fun e w' ⟨h1, h2⟩ => by
    refine ⟨?_, h2⟩
    rcases h1 with ⟨⟨q1, q2, q3⟩, _⟩ | ⟨_, h1⟩
    · exact absurd ⟨q1, q2, fun r hr => (q3 r hr).1, fun r hr => (q3 r hr).2⟩ hf
    · exact h1
end Go.Proofs.YtelpkajlejbbgaaGreatDoor
namespace Go.Proofs.YtelpkajlejbbgaaGreatDoor
open Go.RowKit Go.Maps
end Go.Proofs.YtelpkajlejbbgaaGreatDoor
namespace Go.Proofs.YtelpkajlejbbgaaGreatDoor
open Go.RowKit Go.Maps
end Go.Proofs.YtelpkajlejbbgaaGreatDoor
namespace Go.Proofs.YtelpkajlejbbgaaGreatDoor
open Go.RowKit Go.Maps
end Go.Proofs.YtelpkajlejbbgaaGreatDoor
namespace Go.Proofs.YtelpkajlejbbgaaGreatDoor
open Go.RowKit Go.Maps
theorem live_tup {w : World} (hg : GW w) : Hid (∀ W, Below w.heap.size w W → Calls Tryz.prog 9 #[] W fun e w' => e = .returned (.bool true) ∧ Below W.heap.size W w') := Lib.hid (fun W h => live_any W (hg.later h))
end Go.Proofs.YtelpkajlejbbgaaGreatDoor
