/- Texts of the proof, one behind the other. -/
import Derived.Test.YtelpkajlejbbgaaGreatDoorTc30
set_option linter.unusedVariables false
set_option linter.unusedSimpArgs false
namespace Go.Proofs.YtelpkajlejbbgaaGreatDoor
open Go.RowKit Go.Maps
def RFew (r : List OpV) : Prop := r.length ≤ 12 ∧ ∀ o ∈ r, O8 o
set_option maxHeartbeats 1500000 in
set_option maxRecDepth 100000 in
theorem few_walk (a0 a1 a2 a3 a4 a5 a6 a7 a8 : Int) (A Bp : Option Addr) (n c m d : Nat) (hs : List Hd) (rows : List (List OpV)) (w : World) (G : Prop) (hG : G ↔ (n ≤ 6 ∧ m ≤ 300 ∧ (∀ r ∈ rows, RFew r))) (hn : rows.length = n) (hA : EH.Rd w A hs) (hR : RowsR w (fun _ => False) hs rows) :
    Calls Tryz.prog 8 #[scA a0 a1 a2 a3 a4 a5 a6 a7 a8 A n c Bp m d] w fun e w' => ((G ∧ e = .returned (.bool true)) ∨ (¬ G ∧ e = .returned (.bool false))) ∧ Below w.heap.size w w' := by
  obtain ⟨W1, hW1⟩ : ∃ W1, W1 = w.alloc (.cells #[.int .i64 a0, .int .i64 a1, .int .i64 a2, .int .i64 a3, .int .i64 a4, .int .i64 a5, .int .i64 a6, .int .i64 a7, .int .i64 a8, .slice A n c, .slice Bp m d] 27) := ⟨_, rfl⟩
  have B1 := Lib.hid (show Below w.heap.size w W1 by rw [hW1]; exact alb w _)
  have Z1 := Lib.hid (show W1.heap[w.heap.size]? = some (.cells #[.int .i64 a0, .int .i64 a1, .int .i64 a2, .int .i64 a3, .int .i64 a4, .int .i64 a5, .int .i64 a6, .int .i64 a7, .int .i64 a8, .slice A n c, .slice Bp m d] 27) by rw [hW1]; exact heap_alloc_new w _)
  have HN := Lib.hid hn
  have HGG := Lib.hid hG
  have HA := Lib.hid hA
  have HR := Lib.hid hR
  clear hn hA hR hG
  unfold scA
  go_enter Tryz.func8, Tryz.ntmps8
  go_upto_region 1 with fail
  rw [← hW1]
  clear hW1
  obtain ⟨c0, c1, c2, c3, c4, c5, c6, c7, c8, c9, c10⟩ := cells11 Z1.out
  by_cases h6 : 6 < n
  · have k6 : (6 : Int) < (n : Int) := by omega
    have HX := Lib.hid (show ¬ G from fun g => by have g := HGG.out.1 g; omega)
    go_wp2
    exact bodyPost_ret (v := .bool false) (by simp [results, Tryz.results8, go_sem]) rfl ⟨.inr ⟨HX.out, rfl⟩, B1.out⟩
  have k6 : ¬ (6 : Int) < (n : Int) := by omega
  by_cases h3 : 300 < m
  · have k3 : (300 : Int) < (m : Int) := by omega
    have HX := Lib.hid (show ¬ G from fun g => by have g := HGG.out.1 g; omega)
    go_wp2
    exact bodyPost_ret (v := .bool false) (by simp [results, Tryz.results8, go_sem]) rfl ⟨.inr ⟨HX.out, rfl⟩, B1.out⟩
  have k3 : ¬ (300 : Int) < (m : Int) := by omega
  go_upto_region 4 with fail
  have HS := Lib.hid (show n ≤ 6 ∧ m ≤ 300 by omega)
  clear h6 k6 h3 k3 c0 c1 c2 c3 c4 c5 c6 c7 c8 c9 c10
  go_loopw [3] (fun iv wr => ∃ i : Nat, i ≤ n ∧ iv = .int .i64 i ∧ Hid (∀ r ∈ rows.take i, RFew r) ∧ Below W1.heap.size W1 wr) (fun iv _ => n - (intOf iv).toNat)
  case atStart => exact ⟨0, by omega, rfl, Lib.hid (fun v hv => by simp at hv), Below.refl _ _⟩
  case round =>
    obtain ⟨i, hi, rfl, HG, hbw⟩ := hrel
    have HB3 := Lib.hid hbw
    have HB := Lib.hid (bel_trans B1.out hbw)
    clear hbw
    have hNN := HN.out
    have hSS := HS.out.1
    obtain ⟨c0, c1, c2, c3, c4, c5, c6, c7, c8, c9, c10⟩ := cells11 (keep_bel HB3.out Z1.out)
    by_cases h8 : i < n
    · have hk1 : (i : Int) < (n : Int) := by omega
      have hk0 : (0 : Int) ≤ (i : Int) := by omega
      have WK : IntKind.i64.wrap ((i : Int) + 1) = (i : Int) + 1 := IntWalk.i64_in _ (by omega)
      obtain ⟨r, hr⟩ : ∃ r, rows[i]? = some r := ⟨_, List.getElem?_eq_getElem (by omega)⟩
      obtain ⟨h, hh⟩ : ∃ h, hs[i]? = some h := ⟨_, List.getElem?_eq_getElem (by rw [HR.out.1]; omega)⟩
      obtain ⟨xs, hx1, hx2, hx3⟩ := HR.out.2 i h r hh hr
      obtain ⟨b2, off, hb2, hlt, hc⟩ := (HA.out.later HB.out).get hh
      subst hb2
      obtain ⟨hA2, hn2, hc2⟩ := h
      simp only at hx1 hx2
      subst hx1
      have HHH := Lib.hid hh
      have HXR := Lib.hid hx2
      have HXO := Lib.hid hx3
      have HNR : Hid (¬ RFew r → ¬ G) := Lib.hid (fun h g => h ((HGG.out.1 g).2.2 r (List.mem_of_getElem? hr)))
      have HGN : Hid (RFew r → ∀ r' ∈ rows.take (i + 1), RFew r') := Lib.hid (fun h r' hr' => by
        rw [List.take_add_one, hr] at hr'
        rcases List.mem_append.1 hr' with hr' | hr'
        · exact HG.out r' hr'
        · simp at hr'; subst hr'; exact h)
      have g9 : wr.cell? ⟨b2, off + i, none⟩ = some (.slice hA2 xs.length hc2) := by simpa [EH] using hc 0 _ rfl
      clear hr hh hx2 hx3 hNN hc hlt
      by_cases h12 : 12 < xs.length
      · have k12 : (12 : Int) < (xs.length : Int) := by omega
        have HX := Lib.hid (HNR.out (fun q => by have h1 := q.1; have h2 := HXO.out.1; omega))
        go_wp2
        exact bodyPost_ret (v := .bool false) (by simp [results, Tryz.results8, go_sem]) rfl ⟨.inr ⟨HX.out, rfl⟩, HB.out⟩
      have k12 : ¬ (12 : Int) < (xs.length : Int) := by omega
      have HL12 := Lib.hid (show r.length ≤ 12 by rw [← HXO.out.1]; omega)
      have HX12 := Lib.hid (show xs.length ≤ 12 by omega)
      clear h12
      go_upto_region 9 with fail
      clear k12 g9 c0 c1 c2 c3 c4 c5 c6 c7 c8 c9 c10
      go_loopw [4] (fun jv wr => ∃ j : Nat, j ≤ xs.length ∧ jv = .int .i64 j ∧ Hid (∀ o ∈ r.take j, O8 o) ∧ Below W1.heap.size W1 wr) (fun jv _ => xs.length - (intOf jv).toNat)
      case atStart => exact ⟨0, by omega, rfl, Lib.hid (fun v hv => by simp at hv), HB3.out⟩
      case round =>
        obtain ⟨j, hj, rfl, HG3, hbw⟩ := hrel
        have HB93 := Lib.hid hbw
        have HB9 := Lib.hid (bel_trans B1.out hbw)
        clear hbw
        have hle := HX12.out
        have hxl := HXO.out.1
        obtain ⟨c0, c1, c2, c3, c4, c5, c6, c7, c8, c9, c10⟩ := cells11 (keep_bel HB93.out Z1.out)
        have g9 : wr.cell? ⟨b2, off + i, none⟩ = some (.slice hA2 xs.length hc2) := by
          obtain ⟨b2', off', hb2, hlt, hc⟩ := (HA.out.later HB9.out).get HHH.out
          cases hb2
          simpa [EH] using hc 0 _ rfl
        by_cases h9 : j < xs.length
        · have hj1 : (j : Int) < (xs.length : Int) := by omega
          have hj0 : (0 : Int) ≤ (j : Int) := by omega
          have WJ : IntKind.i64.wrap ((j : Int) + 1) = (j : Int) + 1 := IntWalk.i64_in _ (by omega)
          obtain ⟨o, ho⟩ : ∃ o, r[j]? = some o := ⟨_, List.getElem?_eq_getElem (by omega)⟩
          obtain ⟨x, hx⟩ : ∃ x, xs[j]? = some x := ⟨_, List.getElem?_eq_getElem h9⟩
          obtain ⟨b3, off3, hb3, hlt3, hc3⟩ := (HXR.out.rd.later HB9.out).get hx
          subst hb3
          obtain ⟨e1, e2, e3, e4, e5, e6⟩ := HXO.out.2 j x o hx ho
          obtain ⟨xk, xkey, xtoo, xn, xA, xl, xc⟩ := x
          simp only at e1 e2 e3 e4 e5 e6
          subst e1 e2 e3 e4 e5
          have g0 : wr.cell? ⟨b3, off3 + j * 5, none⟩ = some (.int .u8 o.k) := hc3 0 _ rfl
          have g1 : wr.cell? ⟨b3, off3 + j * 5 + 1, none⟩ = some (.string o.key) := hc3 1 _ rfl
          have g2 : wr.cell? ⟨b3, off3 + j * 5 + 2, none⟩ = some (.string o.too) := hc3 2 _ rfl
          have g3 : wr.cell? ⟨b3, off3 + j * 5 + 3, none⟩ = some (.int .i64 o.n) := hc3 3 _ rfl
          have g4 : wr.cell? ⟨b3, off3 + j * 5 + 4, none⟩ = some (.slice xA o.ms.length xc) := hc3 4 _ rfl
          have HNO : Hid (¬ O8 o → ¬ G) := Lib.hid (fun h => HNR.out (fun q => h (q.2 o (List.mem_of_getElem? ho))))
          have HGN3 : Hid (O8 o → ∀ q ∈ r.take (j + 1), O8 q) := Lib.hid (fun h v hv => by
            rw [List.take_add_one, ho] at hv
            rcases List.mem_append.1 hv with hv | hv
            · exact HG3.out v hv
            · simp at hv; subst hv; exact h)
          have HM := Lib.hid (e6.rd.later HB9.out)
          obtain ⟨ok, okey, otoo, on, oms⟩ := o
          simp only at g0 g1 g2 g3 g4 HM
          clear hx ho hc3 e6 hxl hle hlt3
          go_upto_region 12 with fail
          obtain ⟨W4, hW4⟩ : ∃ W4, W4 = wr.alloc (.cells #[.int .u8 ok, .string okey, .string otoo, .int .i64 on, .slice xA oms.length xc] 47) := ⟨_, rfl⟩
          have B4 := Lib.hid (show Below W1.heap.size W1 W4 by rw [hW4]; exact bel_alloc HB93.out _)
          have HB4 := Lib.hid (bel_trans B1.out B4.out)
          have Z4 := Lib.hid (show W4.heap[wr.heap.size]? = some (.cells #[.int .u8 ok, .string okey, .string otoo, .int .i64 on, .slice xA oms.length xc] 47) by rw [hW4]; exact heap_alloc_new wr _)
          have HM4 := Lib.hid (show EM.Rd W4 xA oms by rw [hW4]; exact HM.out.later (alb wr _))
          rw [← hW4]
          clear hW4 g0 g1 g2 g3 g4 g9 c0 c1 c2 c3 c4 c5 c6 c7 c8 c9 c10
          obtain ⟨c0, c1, c2, c3, c4⟩ := cells5 Z4.out
          by_cases q1 : 8 < oms.length
          · have q1' : (8 : Int) < (oms.length : Int) := by omega
            have HX := Lib.hid (HNO.out (fun q => by have h1 : _ ≤ 8 := q.m; have h2 : _ ≤ 300 := q.key; have h3 : _ ≤ 300 := q.too; simp only at h1 h2 h3; omega))
            go_wp2
            exact bodyPost_ret (v := .bool false) (by simp [results, Tryz.results8, go_sem]) rfl ⟨.inr ⟨HX.out, rfl⟩, HB4.out⟩
          have q1' : ¬ (8 : Int) < (oms.length : Int) := by omega
          by_cases q2 : 300 < okey.size
          · have q2' : (300 : Int) < (okey.size : Int) := by omega
            have HX := Lib.hid (HNO.out (fun q => by have h1 : _ ≤ 8 := q.m; have h2 : _ ≤ 300 := q.key; have h3 : _ ≤ 300 := q.too; simp only at h1 h2 h3; omega))
            go_wp2
            exact bodyPost_ret (v := .bool false) (by simp [results, Tryz.results8, go_sem]) rfl ⟨.inr ⟨HX.out, rfl⟩, HB4.out⟩
          have q2' : ¬ (300 : Int) < (okey.size : Int) := by omega
          by_cases q3 : 300 < otoo.size
          · have q3' : (300 : Int) < (otoo.size : Int) := by omega
            have HX := Lib.hid (HNO.out (fun q => by have h1 : _ ≤ 8 := q.m; have h2 : _ ≤ 300 := q.key; have h3 : _ ≤ 300 := q.too; simp only at h1 h2 h3; omega))
            go_wp2
            exact bodyPost_ret (v := .bool false) (by simp [results, Tryz.results8, go_sem]) rfl ⟨.inr ⟨HX.out, rfl⟩, HB4.out⟩
          have q3' : ¬ (300 : Int) < (otoo.size : Int) := by omega
          have HO3 := Lib.hid (show okey.size ≤ 300 ∧ otoo.size ≤ 300 ∧ oms.length ≤ 8 by omega)
          clear q1 q2 q3
          go_upto_region 15 with fail
          clear q1' q2' q3'
          go_loopw [6] (fun kv w9 => ∃ k : Nat, k ≤ oms.length ∧ kv = .int .i64 k ∧ Hid (∀ q ∈ oms.take k, M3 q) ∧ w9 = W4) (fun kv _ => oms.length - (intOf kv).toNat)
          case atStart => exact ⟨0, by omega, rfl, Lib.hid (fun v hv => by simp at hv), rfl⟩
          case round =>
            obtain ⟨k, hk, rfl, HG5, hw⟩ := hrel
            (have hw2 := hw.symm; subst hw2; clear hw)
            have h38 := HO3.out.2.2
            by_cases h7 : k < oms.length
            · have hk1 : (k : Int) < (oms.length : Int) := by omega
              have hk0 : (0 : Int) ≤ (k : Int) := by omega
              have WK : IntKind.i64.wrap ((k : Int) + 1) = (k : Int) + 1 := IntWalk.i64_in _ (by omega)
              obtain ⟨x, hx⟩ : ∃ x, oms[k]? = some x := ⟨_, List.getElem?_eq_getElem h7⟩
              obtain ⟨b5, off5, hb5, hlt5, hc5⟩ := HM4.out.get hx
              subst hb5
              have HNM : Hid (¬ M3 x → ¬ G) := Lib.hid (fun h => HNO.out (fun q => h (q.ms x (List.mem_of_getElem? hx))))
              have HGN5 : Hid (M3 x → ∀ q ∈ oms.take (k + 1), M3 q) := Lib.hid (fun h v hv => by
                rw [List.take_add_one, hx] at hv
                rcases List.mem_append.1 hv with hv | hv
                · exact HG5.out v hv
                · simp at hv; subst hv; exact h)
              obtain ⟨mk, mq, mkey, mtoo, mval, mdl⟩ := x
              have g2 : W4.cell? ⟨b5, off5 + k * 6 + 2, none⟩ = some (.string mkey) := hc5 2 _ rfl
              have g3 : W4.cell? ⟨b5, off5 + k * 6 + 3, none⟩ = some (.string mtoo) := hc5 3 _ rfl
              have g4 : W4.cell? ⟨b5, off5 + k * 6 + 4, none⟩ = some (.string mval) := hc5 4 _ rfl
              clear hx hc5 hlt5 h38
              by_cases q1 : 300 < mkey.size
              · have q1' : (300 : Int) < (mkey.size : Int) := by omega
                have HX := Lib.hid (HNM.out (fun q => by have h1 : _ ≤ 300 := q.key; have h2 : _ ≤ 300 := q.too; have h3 : _ ≤ 300 := q.val; simp only at h1 h2 h3; omega))
                go_wp2
                exact bodyPost_ret (v := .bool false) (by simp [results, Tryz.results8, go_sem]) rfl ⟨.inr ⟨HX.out, rfl⟩, HB4.out⟩
              have q1' : ¬ (300 : Int) < (mkey.size : Int) := by omega
              by_cases q2 : 300 < mtoo.size
              · have q2' : (300 : Int) < (mtoo.size : Int) := by omega
                have HX := Lib.hid (HNM.out (fun q => by have h1 : _ ≤ 300 := q.key; have h2 : _ ≤ 300 := q.too; have h3 : _ ≤ 300 := q.val; simp only at h1 h2 h3; omega))
                go_wp2
                exact bodyPost_ret (v := .bool false) (by simp [results, Tryz.results8, go_sem]) rfl ⟨.inr ⟨HX.out, rfl⟩, HB4.out⟩
              have q2' : ¬ (300 : Int) < (mtoo.size : Int) := by omega
              by_cases q3 : 300 < mval.size
              · have q3' : (300 : Int) < (mval.size : Int) := by omega
                have HX := Lib.hid (HNM.out (fun q => by have h1 : _ ≤ 300 := q.key; have h2 : _ ≤ 300 := q.too; have h3 : _ ≤ 300 := q.val; simp only at h1 h2 h3; omega))
                go_wp2
                exact bodyPost_ret (v := .bool false) (by simp [results, Tryz.results8, go_sem]) rfl ⟨.inr ⟨HX.out, rfl⟩, HB4.out⟩
              have q3' : ¬ (300 : Int) < (mval.size : Int) := by omega
              have HG6 := Lib.hid (HGN5.out ⟨by show mkey.size ≤ 300; omega, by show mtoo.size ≤ 300; omega, by show mval.size ≤ 300; omega⟩)
              clear q1 q2 q3 HGN5
              go_wp2
              exact ⟨⟨k + 1, by omega, by simp, HG6, trivial⟩, by simp [intOf]; omega⟩
            · have hke : k = oms.length := by omega
              subst hke
              have hk1 : ¬ (oms.length : Int) < (oms.length : Int) := by omega
              have HG6 := Lib.hid (HGN3.out ⟨HO3.out.1, HO3.out.2.1, HO3.out.2.2, fun y hy => HG5.out y (by rw [List.take_of_length_le (Nat.le_refl _)]; exact hy)⟩)
              clear h38
              go_wp2
              exact ⟨⟨j + 1, by omega, by simp, HG6, B4.out⟩, by simp [intOf]; omega⟩
        · have hke : j = xs.length := by omega
          subst hke
          have hj1 : ¬ (xs.length : Int) < (xs.length : Int) := by omega
          have HG6 := Lib.hid (HGN.out ⟨HL12.out, fun y hy => HG3.out y (by rw [List.take_of_length_le (by omega)]; exact hy)⟩)
          clear hxl hle
          go_wp2
          exact ⟨⟨i + 1, by omega, by simp, HG6, HB93.out⟩, by simp [intOf]; omega⟩
    · have hke : i = n := by omega
      have hk1 : ¬ (i : Int) < (n : Int) := by omega
      have HG6 := Lib.hid (show ∀ r ∈ rows, RFew r from fun y hy => HG.out y (by rw [List.take_of_length_le (by omega)]; exact hy))
      clear hNN hSS
      go_wp2
      exact bodyPost_ret (v := .bool true) (by simp [results, Tryz.results8, go_sem]) rfl ⟨.inl ⟨HGG.out.2 ⟨HS.out.1, HS.out.2, HG6.out⟩, rfl⟩, HB.out⟩
theorem few_yes {x : ScV} {v : Value} {w : World} (hR : ScR w x v) (hf : FewP x) :
    Calls Tryz.prog 8 #[v] w fun e w' => e = .returned (.bool true) ∧ Below w.heap.size w w' := by
  obtain ⟨a0, a1, a2, a3, a4, a5, a6, a7, a8, A, c, B, d, hs, hcf, rfl, hA, hW, hB⟩ := hR.h
  exact (few_walk a0 a1 a2 a3 a4 a5 a6 a7 a8 A B _ c _ d hs x.rows w _ Iff.rfl rfl hA hW).mono fun e w' ⟨h1, h2⟩ => by
    refine ⟨?_, h2⟩
    rcases h1 with ⟨_, h1⟩ | ⟨h1, _⟩
    · exact h1
    · exact absurd ⟨hf.rl, hf.pl, fun r hr => ⟨hf.ol r hr, hf.op r hr⟩⟩ h1
theorem few_no {x : ScV} {v : Value} {w : World} (hR : ScR w x v) (hf : ¬ FewP x) :
    Calls Tryz.prog 8 #[v] w fun e w' => e = .returned (.bool false) ∧ Below w.heap.size w w' := by
  obtain ⟨a0, a1, a2, a3, a4, a5, a6, a7, a8, A, c, B, d, hs, hcf, rfl, hA, hW, hB⟩ := hR.h
  exact (few_walk a0 a1 a2 a3 a4 a5 a6 a7 a8 A B _ c _ d hs x.rows w _ Iff.rfl rfl hA hW).mono fun e w' ⟨h1, h2⟩ => by
    refine ⟨?_, h2⟩
    rcases h1 with ⟨⟨q1, q2, q3⟩, _⟩ | ⟨_, h1⟩
    · exact absurd ⟨q1, q2, fun r hr => (q3 r hr).1, fun r hr => (q3 r hr).2⟩ hf
    · exact h1
end Go.Proofs.YtelpkajlejbbgaaGreatDoor
namespace Go.Proofs.YtelpkajlejbbgaaGreatDoor
open Go.RowKit Go.Maps
set_option maxHeartbeats 1500000 in
set_option maxRecDepth 100000 in
theorem rprint_bad (a0 a1 a2 a3 a4 a5 a6 a7 a8 : Int) (A Bp : Option Addr) (n c m d : Nat) (hs : List Hd) (rows : List (List OpV)) (picks : List Int) (w : World) (hf : FewP ⟨[a0, a1, a2, a3, a4, a5, a6, a7, a8], rows, picks⟩) (hi : ScIn ⟨[a0, a1, a2, a3, a4, a5, a6, a7, a8], rows, picks⟩) (hbad : ¬ GoodS ⟨[a0, a1, a2, a3, a4, a5, a6, a7, a8], rows, picks⟩) (ht : (prL ⟨[a0, a1, a2, a3, a4, a5, a6, a7, a8], rows, picks⟩).length ≤ 1048576) (hn : rows.length = n) (hm : picks.length = m) (hA : EH.Rd w A hs) (hR : RowsR w (fun _ => False) hs rows) (hP : EI.Rd w Bp picks) :
    Calls Tryz.prog 11 #[scA a0 a1 a2 a3 a4 a5 a6 a7 a8 A n c Bp m d] w fun e w' => (∃ er : Int, (er = 3 ∨ er = 4) ∧ e = .returned (.tuple #[.string ⟨#[]⟩, .int .i64 er])) ∧ Below w.heap.size w w' := by
  obtain ⟨cf, hcf⟩ : ∃ cf : List Int, cf = [a0, a1, a2, a3, a4, a5, a6, a7, a8] := ⟨_, rfl⟩
  have hT : prL ⟨cf, rows, picks⟩ = (((wSizes.data.toList ++ nL cf) ++ [10]) ++ rowsL rows) ++ ((wPicks.data.toList ++ nL picks) ++ [10]) := by
    show (lineL (wSizes :: cf.map itoaB) ++ rowsL rows) ++ lineL (wPicks :: picks.map itoaB) = _
    rw [line_nums, line_nums]
  rw [← hcf] at hf hi ht hbad
  rw [hT] at ht
  have HL := Lib.hid ht
  have HV0 : Hid (∀ v ∈ cf, I64 v) := Lib.hid (fun v hv => hi.cf v hv)
  have HV1 : Hid (∀ v ∈ picks, I64 v) := Lib.hid (fun v hv => hi.pk v hv)
  have HPL := Lib.hid (show m ≤ 900000 by have := hf.pl; simp only at this; omega)
  have HRL := Lib.hid (show n ≤ 900000 by have := hf.rl; simp only at this; omega)
  have H5 : Hid (∀ r ∈ rows, r.length ≤ 900000) := Lib.hid (fun r hr => by have := hf.ol r hr; omega)
  have HO : Hid (∀ r ∈ rows, ∀ o ∈ r, OSz o) := Lib.hid (fun r hr o ho => osz_of (hf.op r hr o ho) (hi.op r hr o ho))
  have HBAD : Hid (¬ ((∀ v ∈ cf, inR v = true) ∧ (∀ r ∈ rows, ∀ o ∈ r, OFm o ∧ o.ms.length ≤ 2048) ∧ (∀ v ∈ picks, inR v = true))) := Lib.hid hbad
  have HN := Lib.hid (And.intro hn hm)
  have HA := Lib.hid hA
  have HR := Lib.hid hR
  have HP := Lib.hid hP
  have HCF := Lib.hid hcf
  have LN := Lib.hid (show cf.length = 9 by rw [hcf]; rfl)
  clear hf hi hbad hn hm hA hR hP ht hT hcf
  obtain ⟨W3, hW3⟩ : ∃ W3, W3 = ((w.alloc (.cells #[.int .i64 a0, .int .i64 a1, .int .i64 a2, .int .i64 a3, .int .i64 a4, .int .i64 a5, .int .i64 a6, .int .i64 a7, .int .i64 a8, .slice A n c, .slice Bp m d] 27)).alloc (.cells #[.int .i64 a0, .int .i64 a1, .int .i64 a2, .int .i64 a3, .int .i64 a4, .int .i64 a5, .int .i64 a6, .int .i64 a7, .int .i64 a8] 23)).alloc (.cells #[.int .i64 a0, .int .i64 a1, .int .i64 a2, .int .i64 a3, .int .i64 a4, .int .i64 a5, .int .i64 a6, .int .i64 a7, .int .i64 a8] 3) := ⟨_, rfl⟩
  have B3 := Lib.hid (show Below w.heap.size w W3 by rw [hW3]; exact bel_alloc (bel_alloc (alb w _) _) _)
  have Z3 := Lib.hid (show W3.heap[w.heap.size]? = some (.cells #[.int .i64 a0, .int .i64 a1, .int .i64 a2, .int .i64 a3, .int .i64 a4, .int .i64 a5, .int .i64 a6, .int .i64 a7, .int .i64 a8, .slice A n c, .slice Bp m d] 27) by rw [hW3]; exact keep_bel (alb _ _) (keep_bel (alb _ _) (heap_alloc_new w _)))
  have N3 := Lib.hid (show EI.Rd W3 (some ⟨w.heap.size + 2, 0, none⟩) cf by
    rw [hW3]
    have h := RE.Rd.lit (E := EI) ((w.alloc (.cells #[.int .i64 a0, .int .i64 a1, .int .i64 a2, .int .i64 a3, .int .i64 a4, .int .i64 a5, .int .i64 a6, .int .i64 a7, .int .i64 a8, .slice A n c, .slice Bp m d] 27)).alloc (.cells #[.int .i64 a0, .int .i64 a1, .int .i64 a2, .int .i64 a3, .int .i64 a4, .int .i64 a5, .int .i64 a6, .int .i64 a7, .int .i64 a8] 23)) 3 cf #[.int .i64 a0, .int .i64 a1, .int .i64 a2, .int .i64 a3, .int .i64 a4, .int .i64 a5, .int .i64 a6, .int .i64 a7, .int .i64 a8] (by rw [HCF.out]; rfl)
    simpa using h)
  unfold scA
  go_enter Tryz.func11, Tryz.ntmps11
  go_upto_region 3 with fail
  rw [← hW3]
  clear hW3
  go_upto_region 5 with fail
  go_loopw [6, 7] (fun ov iv wr => ∃ k : Nat, k ≤ 9 ∧ iv = .int .i64 k ∧ Hid (∀ v ∈ cf.take k, inR v = true) ∧ Hid (ov = .string ⟨(wSizes.data.toList ++ nL (cf.take k)).toArray⟩) ∧ wr = W3) (fun _ iv _ => 9 - (intOf iv).toNat)
  case atStart => exact ⟨0, by omega, rfl, Lib.hid (fun v hv => by simp at hv), Lib.hid rfl, rfl⟩
  case round =>
    obtain ⟨k, hk, rfl, HG1, HOV, hw⟩ := hrel
    (have hw2 := hw.symm; subst hw2; clear hw)
    obtain ⟨O, hO⟩ : ∃ O : ByteArray, O = ⟨(wSizes.data.toList ++ nL (cf.take k)).toArray⟩ := ⟨_, rfl⟩
    rw [← hO] at HOV
    (have hov := HOV.out; subst hov; clear HOV)
    have hOS : O.size ≤ 1048576 := by
      rw [hO, ba_size]
      have h1 := HL.out
      have h2 : (nL (cf.take k)).length ≤ (nL cf).length := fm_take _ cf k
      simp only [List.length_append] at h1 ⊢
      omega
    by_cases h8 : k < 9
    · have hk1 : (k : Int) < 9 := by omega
      have hk0 : (0 : Int) ≤ (k : Int) := by omega
      have WK : IntKind.i64.wrap ((k : Int) + 1) = (k : Int) + 1 := IntWalk.i64_in _ (by omega)
      obtain ⟨x, hx⟩ : ∃ x, cf[k]? = some x := ⟨_, List.getElem?_eq_getElem (by have := LN.out; omega)⟩
      obtain ⟨b2, off, hb2, hlt, g0⟩ := ei_at N3.out hx
      injection hb2 with hb2
      injection hb2 with hb3 hb4
      subst hb3 hb4
      rw [Nat.zero_add] at g0
      by_cases hxr : inR x = true
      rotate_left
      · have HX := Lib.hid (fun W => num_bad hxr (HV0.out x (List.mem_of_getElem? hx)) W)
        have hcat : ¬ 9223372036854775807 < O.size + 1 := by omega
        clear hx hO
        go_wp2_with (first
          | (go_at_call 28; ((with_reducible refine (HX.out _).mono ?_); rintro e w4 ⟨rfl, hw⟩; (have hw2 := hw.symm; subst hw2; clear hw)))
          | fail)
        exact bodyPost_ret (v := .tuple #[.string ⟨#[]⟩, .int .i64 3]) (by simp [results, Tryz.results11, go_sem]) rfl ⟨⟨3, .inl rfl, rfl⟩, B3.out⟩
      have HX := Lib.hid (fun W => num_ok hxr W)
      have HXS : Hid ((itoaB x).size ≤ 100) := Lib.hid (by
        have := itoa_21 (HV0.out x (List.mem_of_getElem? hx))
        omega)
      have HGN : Hid (∀ v ∈ cf.take (k + 1), inR v = true) := Lib.hid (fun v hv => by
        rw [List.take_add_one, hx] at hv
        rcases List.mem_append.1 hv with hv | hv
        · exact HG1.out v hv
        · simp at hv; subst hv; exact hxr)
      have HF : Hid ((O ++ ⟨#[32]⟩) ++ itoaB x = ⟨(wSizes.data.toList ++ nL (cf.take (k + 1))).toArray⟩) := Lib.hid (ba_inj (by
        rw [ba_app, ba_app, ba_list, hO, ba_list, itoa_list]
        unfold nL
        rw [fm_next _ hx]
        simp))
      have hcat : ¬ 9223372036854775807 < O.size + 1 := by omega
      have hcat2 : ¬ 9223372036854775807 < O.size + 1 + (itoaB x).size := by have := HXS.out; omega
      generalize itoaB x = N at HX HXS HF hcat2
      clear hx hO hxr
      go_wp2_with (first
        | (go_at_call 28; ((with_reducible refine (HX.out _).mono ?_); rintro e w4 ⟨rfl, hw⟩; (have hw2 := hw.symm; subst hw2; clear hw)))
        | fail)
      exact ⟨⟨k + 1, by omega, by simp, HGN, Lib.hid (by rw [← HF.out]), trivial⟩, by simp [intOf]; omega⟩
    · have hke : k = 9 := by omega
      subst hke
      have e9 : ((9 : Nat) : Int) = 9 := rfl
      rw [e9]
      have HG1E : Hid (∀ v ∈ cf, inR v = true) := Lib.hid (fun v hv => HG1.out v (by rw [List.take_of_length_le (by have := LN.out; omega)]; exact hv))
      rw [List.take_of_length_le (by have := LN.out; omega)] at hO
      have hcat : ¬ 9223372036854775807 < O.size + 1 := by omega
      have HF : Hid (O ++ ⟨#[10]⟩ = ⟨(((wSizes.data.toList ++ nL cf) ++ [10]) ++ rowsL (rows.take 0)).toArray⟩) := Lib.hid (ba_inj (by rw [ba_app, ba_list, hO, ba_list]; show _ = _ ++ []; simp))
      clear hO hOS
      obtain ⟨c0, c1, c2, c3, c4, c5, c6, c7, c8, c9, c10⟩ := cells11 Z3.out
      go_upto_region 13 with fail
      generalize O ++ ⟨#[10]⟩ = O2 at HF ⊢
      clear c0 c1 c2 c3 c4 c5 c6 c7 c8 c9 c10 hcat
      go_loopw [6, 10] (fun ov iv wr => ∃ i : Nat, i ≤ n ∧ iv = .int .i64 i ∧ Hid (∀ r ∈ rows.take i, ∀ o ∈ r, OFm o ∧ o.ms.length ≤ 2048) ∧ Hid (ov = .string ⟨(((wSizes.data.toList ++ nL cf) ++ [10]) ++ rowsL (rows.take i)).toArray⟩) ∧ Below W3.heap.size W3 wr) (fun _ iv _ => n - (intOf iv).toNat)
      case atStart => exact ⟨0, by omega, rfl, Lib.hid (fun v hv => by simp at hv), Lib.hid (by rw [HF.out]), Below.refl _ _⟩
      case round =>
        obtain ⟨i, hi, rfl, HG2, HOV, hbw⟩ := hrel
        have HB3 := Lib.hid hbw
        have HB := Lib.hid (bel_trans B3.out hbw)
        clear hbw
        obtain ⟨O, hO⟩ : ∃ O : ByteArray, O = ⟨(((wSizes.data.toList ++ nL cf) ++ [10]) ++ rowsL (rows.take i)).toArray⟩ := ⟨_, rfl⟩
        rw [← hO] at HOV
        (have hov := HOV.out; subst hov; clear HOV)
        have HOO := Lib.hid hO
        clear hO
        have hNN := HN.out
        have hRL := HRL.out
        obtain ⟨c0, c1, c2, c3, c4, c5, c6, c7, c8, c9, c10⟩ := cells11 (keep_bel HB3.out Z3.out)
        by_cases h8 : i < n
        · have hk1 : (i : Int) < (n : Int) := by omega
          have hk0 : (0 : Int) ≤ (i : Int) := by omega
          have WK : IntKind.i64.wrap ((i : Int) + 1) = (i : Int) + 1 := IntWalk.i64_in _ (by omega)
          obtain ⟨r, hr⟩ : ∃ r, rows[i]? = some r := ⟨_, List.getElem?_eq_getElem (by omega)⟩
          obtain ⟨h, hh⟩ : ∃ h, hs[i]? = some h := ⟨_, List.getElem?_eq_getElem (by rw [HR.out.1]; omega)⟩
          obtain ⟨xs, hx1, hx2, hx3⟩ := HR.out.2 i h r hh hr
          obtain ⟨hA2, hn2, hc2⟩ := h
          simp only at hx1 hx2
          subst hx1
          have HHH := Lib.hid hh
          have HXR := Lib.hid hx2
          have HXO := Lib.hid hx3
          have HRM := Lib.hid (List.mem_of_getElem? hr)
          have HRL2 := Lib.hid (H5.out r (List.mem_of_getElem? hr))
          have HNX := Lib.hid (show rowsL (rows.take (i + 1)) = rowsL (rows.take i) ++ (lineL [wSess] ++ opsL r) from fm_next _ hr)
          have HLL := Lib.hid (show (((((wSizes.data.toList ++ nL cf) ++ [10]) ++ rowsL (rows.take i)) ++ lineL [wSess]) ++ opsL r).length ≤ 1048576 by
            have h1 := HL.out
            have h2 : (rowsL (rows.take (i + 1))).length ≤ (rowsL rows).length := fm_take _ rows (i + 1)
            rw [HNX.out] at h2
            simp only [List.length_append] at h1 h2 ⊢
            omega)
          have hOS : O.size ≤ 1048576 := by
            rw [HOO.out, ba_size]
            have h1 := HLL.out
            simp only [List.length_append] at h1 ⊢
            omega
          have hcat : ¬ 9223372036854775807 < O.size + 8 := by omega
          have HF : Hid (O ++ ⟨#[115, 101, 115, 115, 105, 111, 110, 10]⟩ = ⟨(((((wSizes.data.toList ++ nL cf) ++ [10]) ++ rowsL (rows.take i)) ++ lineL [wSess]) ++ opsL (r.take 0)).toArray⟩) := Lib.hid (ba_inj (by
            rw [ba_app, ba_list, HOO.out, ba_list]
            show _ = (_ ++ _) ++ []
            rw [List.append_nil]
            rfl))
          have HG2N : Hid ((∀ o ∈ r, OFm o ∧ o.ms.length ≤ 2048) → ∀ r' ∈ rows.take (i + 1), ∀ o ∈ r', OFm o ∧ o.ms.length ≤ 2048) := Lib.hid (fun h r' hr' => by
            rw [List.take_add_one, hr] at hr'
            rcases List.mem_append.1 hr' with hr' | hr'
            · exact HG2.out r' hr'
            · simp at hr'; subst hr'; exact h)
          clear hr hh hx2 hx3 hNN hRL
          go_upto_region 17 with fail
          generalize O ++ ⟨#[115, 101, 115, 115, 105, 111, 110, 10]⟩ = O2 at HF ⊢
          clear c0 c1 c2 c3 c4 c5 c6 c7 c8 c9 c10 hcat hOS
          go_loopw [6, 11] (fun ov iv wr => ∃ j : Nat, j ≤ xs.length ∧ iv = .int .i64 j ∧ Hid (∀ o ∈ r.take j, OFm o ∧ o.ms.length ≤ 2048) ∧ Hid (ov = .string ⟨(((((wSizes.data.toList ++ nL cf) ++ [10]) ++ rowsL (rows.take i)) ++ lineL [wSess]) ++ opsL (r.take j)).toArray⟩) ∧ Below W3.heap.size W3 wr) (fun _ iv _ => xs.length - (intOf iv).toNat)
          case atStart => exact ⟨0, by omega, rfl, Lib.hid (fun v hv => by simp at hv), Lib.hid (by rw [HF.out]), HB3.out⟩
          case round =>
            obtain ⟨j, hj, rfl, HG3, HOV, hbw⟩ := hrel
            have HB93 := Lib.hid hbw
            have HB9 := Lib.hid (bel_trans B3.out hbw)
            clear hbw
            obtain ⟨O3, hO3⟩ : ∃ O3 : ByteArray, O3 = ⟨(((((wSizes.data.toList ++ nL cf) ++ [10]) ++ rowsL (rows.take i)) ++ lineL [wSess]) ++ opsL (r.take j)).toArray⟩ := ⟨_, rfl⟩
            rw [← hO3] at HOV
            (have hov := HOV.out; subst hov; clear HOV)
            have HO3 := Lib.hid hO3
            clear hO3
            have hle := HRL2.out
            have hxl := HXO.out.1
            obtain ⟨c0, c1, c2, c3, c4, c5, c6, c7, c8, c9, c10⟩ := cells11 (keep_bel HB93.out Z3.out)
            obtain ⟨b2, off, hb2, hlt, hc⟩ := (HA.out.later HB9.out).get HHH.out
            subst hb2
            have g9 : wr.cell? ⟨b2, off + i, none⟩ = some (.slice hA2 xs.length hc2) := by simpa [EH] using hc 0 _ rfl
            clear hc
            by_cases h9 : j < xs.length
            · have hj1 : (j : Int) < (xs.length : Int) := by omega
              have hj0 : (0 : Int) ≤ (j : Int) := by omega
              have WJ : IntKind.i64.wrap ((j : Int) + 1) = (j : Int) + 1 := IntWalk.i64_in _ (by omega)
              obtain ⟨o, ho⟩ : ∃ o, r[j]? = some o := ⟨_, List.getElem?_eq_getElem (by omega)⟩
              obtain ⟨x, hx⟩ : ∃ x, xs[j]? = some x := ⟨_, List.getElem?_eq_getElem h9⟩
              obtain ⟨b3, off3, hb3, hlt3, hc3⟩ := (HXR.out.rd.later HB9.out).get hx
              subst hb3
              obtain ⟨e1, e2, e3, e4, e5, e6⟩ := HXO.out.2 j x o hx ho
              obtain ⟨xk, xkey, xtoo, xn, xA, xl, xc⟩ := x
              simp only at e1 e2 e3 e4 e5 e6
              subst e1 e2 e3 e4 e5
              have g0 : wr.cell? ⟨b3, off3 + j * 5, none⟩ = some (.int .u8 o.k) := hc3 0 _ rfl
              have g1 : wr.cell? ⟨b3, off3 + j * 5 + 1, none⟩ = some (.string o.key) := hc3 1 _ rfl
              have g2 : wr.cell? ⟨b3, off3 + j * 5 + 2, none⟩ = some (.string o.too) := hc3 2 _ rfl
              have g3 : wr.cell? ⟨b3, off3 + j * 5 + 3, none⟩ = some (.int .i64 o.n) := hc3 3 _ rfl
              have g4 : wr.cell? ⟨b3, off3 + j * 5 + 4, none⟩ = some (.slice xA o.ms.length xc) := hc3 4 _ rfl
              have HNO := Lib.hid (show opsL (r.take (j + 1)) = opsL (r.take j) ++ opL o from fm_next _ ho)
              have hoz := HO.out r HRM.out o (List.mem_of_getElem? ho)
              by_cases hof : OFm o ∧ o.ms.length ≤ 2048
              rotate_left
              · have HQ := Lib.hid (qop_bad o xA xc wr hoz (e6.rd.later HB9.out) hof)
                unfold OpV.v at HQ
                clear hx ho hc3 e6 hxl hle hof hoz
                go_wp2_with (first
                  | (go_at_call 29; ((with_reducible refine HQ.out.mono ?_); rintro e w8 ⟨⟨er, her, rfl⟩, b8⟩; have B8 := Lib.hid (bel_trans HB9.out b8); have HER := Lib.hid her; have er0 : (er == 0) = false := (by rcases her with rfl | rfl <;> rfl); have er1 : ¬ er = 0 := (by rcases her with rfl | rfl <;> omega); clear b8 her))
                  | fail)
                exact bodyPost_ret (v := .tuple #[.string ⟨#[]⟩, .int .i64 er]) (by simp [results, Tryz.results11, go_sem]) rfl ⟨⟨er, HER.out, rfl⟩, B8.out⟩
              have HQ := Lib.hid (qop_any o xA xc wr hof.1 (ook_of hof.1 hoz) hof.2 (e6.rd.later HB9.out))
              unfold OpV.v at HQ
              have HGN : Hid (∀ q ∈ r.take (j + 1), OFm q ∧ q.ms.length ≤ 2048) := Lib.hid (fun v hv => by
                rw [List.take_add_one, ho] at hv
                rcases List.mem_append.1 hv with hv | hv
                · exact HG3.out v hv
                · simp at hv; subst hv; exact hof)
              obtain ⟨S, hS⟩ : ∃ S : ByteArray, S = ⟨(opL o).toArray⟩ := ⟨_, rfl⟩
              rw [← hS] at HQ
              have HF2 : Hid (O3 ++ S = ⟨(((((wSizes.data.toList ++ nL cf) ++ [10]) ++ rowsL (rows.take i)) ++ lineL [wSess]) ++ opsL (r.take (j + 1))).toArray⟩) := Lib.hid (ba_inj (by rw [ba_app, ba_list, HO3.out, hS, ba_list, ba_list, HNO.out, List.append_assoc _ (opsL (r.take j))]))
              have hcat : ¬ 9223372036854775807 < O3.size + S.size := by
                have h0 := HLL.out
                have h2 : (opsL (r.take (j + 1))).length ≤ (opsL r).length := fm_take _ r (j + 1)
                rw [HNO.out] at h2
                rw [HO3.out, hS, ba_size, ba_size]
                simp only [List.length_append] at h0 h2 ⊢
                omega
              clear hx ho hc3 e6 hxl hle hS hof hoz
              go_wp2_with (first
                | (go_at_call 29; ((with_reducible refine HQ.out.mono ?_); rintro e w8 ⟨rfl, b8⟩; have B8 := Lib.hid (HB93.out.trans (b8.mono HB93.out.size)); clear b8))
                | fail)
              exact ⟨⟨j + 1, by omega, by simp, HGN, Lib.hid (by rw [← HF2.out]), B8.out⟩, by simp [intOf]; omega⟩
            · have hke : j = xs.length := by omega
              subst hke
              have HE := Lib.hid (show r.take xs.length = r from List.take_of_length_le (by omega))
              clear hxl hle
              have hj1 : ¬ (xs.length : Int) < (xs.length : Int) := by omega
              have HF3 : Hid (O3 = ⟨(((wSizes.data.toList ++ nL cf) ++ [10]) ++ rowsL (rows.take (i + 1))).toArray⟩) := Lib.hid (by rw [HO3.out, HE.out, HNX.out]; simp only [List.append_assoc])
              go_wp2
              exact ⟨⟨i + 1, by omega, by simp, Lib.hid (HG2N.out (by rw [← HE.out]; exact HG3.out)), Lib.hid (by rw [← HF3.out]), HB93.out⟩, by simp [intOf]; omega⟩
        · have hke : i = n := by omega
          subst hke
          have hk1 : ¬ (i : Int) < (i : Int) := by omega
          have HE := Lib.hid (show rows.take i = rows from List.take_of_length_le (by omega))
          have hOS : O.size ≤ 1048576 := by
            rw [HOO.out, HE.out, ba_size]
            have h1 := HL.out
            simp only [List.length_append] at h1 ⊢
            omega
          have hcat : ¬ 9223372036854775807 < O.size + 5 := by omega
          have HF : Hid (O ++ ⟨#[112, 105, 99, 107, 115]⟩ = ⟨((((wSizes.data.toList ++ nL cf) ++ [10]) ++ rowsL rows) ++ (wPicks.data.toList ++ nL (picks.take 0))).toArray⟩) := Lib.hid (ba_inj (by
            rw [ba_app, ba_list, HOO.out, HE.out, ba_list]
            show _ = _ ++ (_ ++ [])
            rw [List.append_nil]
            rfl))
          have HG2E : Hid (∀ r ∈ rows, ∀ o ∈ r, OFm o ∧ o.ms.length ≤ 2048) := Lib.hid (by have h := HG2.out; rw [HE.out] at h; exact h)
          clear hNN hRL
          go_upto_region 25 with fail
          generalize O ++ ⟨#[112, 105, 99, 107, 115]⟩ = O2 at HF ⊢
          clear c0 c1 c2 c3 c4 c5 c6 c7 c8 c9 c10 hcat hOS
          go_loopw [6, 14] (fun ov iv w9 => ∃ k : Nat, k ≤ m ∧ iv = .int .i64 k ∧ Hid (∀ v ∈ picks.take k, inR v = true) ∧ Hid (ov = .string ⟨((((wSizes.data.toList ++ nL cf) ++ [10]) ++ rowsL rows) ++ (wPicks.data.toList ++ nL (picks.take k))).toArray⟩) ∧ w9 = wr) (fun _ iv _ => m - (intOf iv).toNat)
          case atStart => exact ⟨0, by omega, rfl, Lib.hid (fun v hv => by simp at hv), Lib.hid (by rw [HF.out]), rfl⟩
          case round =>
            obtain ⟨k, hk, rfl, HG4, HOV, hw⟩ := hrel
            (have hw2 := hw.symm; subst hw2; clear hw)
            obtain ⟨O3, hO3⟩ : ∃ O3 : ByteArray, O3 = ⟨((((wSizes.data.toList ++ nL cf) ++ [10]) ++ rowsL rows) ++ (wPicks.data.toList ++ nL (picks.take k))).toArray⟩ := ⟨_, rfl⟩
            rw [← hO3] at HOV
            (have hov := HOV.out; subst hov; clear HOV)
            have hNN := HN.out
            have hPL := HPL.out
            obtain ⟨c0, c1, c2, c3, c4, c5, c6, c7, c8, c9, c10⟩ := cells11 (keep_bel HB3.out Z3.out)
            have hOS : O3.size ≤ 1048576 := by
              rw [hO3, ba_size]
              have h1 := HL.out
              have h2 : (nL (picks.take k)).length ≤ (nL picks).length := fm_take _ picks k
              simp only [List.length_append] at h1 ⊢
              omega
            by_cases h8 : k < m
            · have hk2 : (k : Int) < (m : Int) := by omega
              have hk0 : (0 : Int) ≤ (k : Int) := by omega
              have WK : IntKind.i64.wrap ((k : Int) + 1) = (k : Int) + 1 := IntWalk.i64_in _ (by omega)
              obtain ⟨x, hx⟩ : ∃ x, picks[k]? = some x := ⟨_, List.getElem?_eq_getElem (by omega)⟩
              obtain ⟨b2, off, hb2, hlt, g0⟩ := ei_at (HP.out.later HB.out) hx
              subst hb2
              by_cases hxr : inR x = true
              rotate_left
              · have HX := Lib.hid (fun W => num_bad hxr (HV1.out x (List.mem_of_getElem? hx)) W)
                have hcat : ¬ 9223372036854775807 < O3.size + 1 := by omega
                clear hx hO3 hNN hPL
                go_wp2_with (first
                  | (go_at_call 28; ((with_reducible refine (HX.out _).mono ?_); rintro e w4 ⟨rfl, hw⟩; (have hw2 := hw.symm; subst hw2; clear hw)))
                  | fail)
                exact bodyPost_ret (v := .tuple #[.string ⟨#[]⟩, .int .i64 3]) (by simp [results, Tryz.results11, go_sem]) rfl ⟨⟨3, .inl rfl, rfl⟩, HB.out⟩
              have HX := Lib.hid (fun W => num_ok hxr W)
              have HXS : Hid ((itoaB x).size ≤ 100) := Lib.hid (by
                have := itoa_21 (HV1.out x (List.mem_of_getElem? hx))
                omega)
              have HGN : Hid (∀ v ∈ picks.take (k + 1), inR v = true) := Lib.hid (fun v hv => by
                rw [List.take_add_one, hx] at hv
                rcases List.mem_append.1 hv with hv | hv
                · exact HG4.out v hv
                · simp at hv; subst hv; exact hxr)
              have HF2 : Hid ((O3 ++ ⟨#[32]⟩) ++ itoaB x = ⟨((((wSizes.data.toList ++ nL cf) ++ [10]) ++ rowsL rows) ++ (wPicks.data.toList ++ nL (picks.take (k + 1)))).toArray⟩) := Lib.hid (ba_inj (by
                rw [ba_app, ba_app, ba_list, hO3, ba_list, itoa_list, show nL (picks.take (k + 1)) = nL (picks.take k) ++ (32 :: Lib.itoa x) from fm_next _ hx]
                simp))
              have hcat : ¬ 9223372036854775807 < O3.size + 1 := by omega
              have hcat2 : ¬ 9223372036854775807 < O3.size + 1 + (itoaB x).size := by have := HXS.out; omega
              generalize itoaB x = N at HX HXS HF2 hcat2
              clear hx hO3 hNN hPL hxr
              go_wp2_with (first
                | (go_at_call 28; ((with_reducible refine (HX.out _).mono ?_); rintro e w4 ⟨rfl, hw⟩; (have hw2 := hw.symm; subst hw2; clear hw)))
                | fail)
              exact ⟨⟨k + 1, by omega, by simp, HGN, Lib.hid (by rw [← HF2.out]), trivial⟩, by simp [intOf]; omega⟩
            · have hke : k = m := by omega
              subst hke
              exfalso
              refine HBAD.out ⟨HG1E.out, HG2E.out, fun v hv => HG4.out v ?_⟩
              rw [List.take_of_length_le (by omega)]
              exact hv
/-- A script that is gone through: it has its text, and is of good form; or it has none. -/
theorem rprint_all {x : ScV} {v : Value} {w : World} (hR : ScR w x v) (hf : FewP x) (hi : ScIn x) :
    Calls Tryz.prog 11 #[v] w fun e w' => ((GoodS x ∧ e = .returned (.tuple #[.string ⟨(prL x).toArray⟩, .int .i64 0])) ∨ (∃ er : Int, (er = 3 ∨ er = 4) ∧ e = .returned (.tuple #[.string ⟨#[]⟩, .int .i64 er]))) ∧ Below w.heap.size w w' := by
  obtain ⟨a0, a1, a2, a3, a4, a5, a6, a7, a8, A, c, B, d, hs, hcf, rfl, hA, hW, hB⟩ := hR.h
  obtain ⟨cf, rows, picks⟩ := x
  simp only at hcf hA hW hB
  subst hcf
  have ht := pr_300 hf hi rfl
  by_cases hg : GoodS ⟨[a0, a1, a2, a3, a4, a5, a6, a7, a8], rows, picks⟩
  · exact (rprint_ok a0 a1 a2 a3 a4 a5 a6 a7 a8 A B _ c _ d hs rows picks w (sfm_of hf hg) (fun r hr o ho => ook_of (hg.2.1 r hr o ho).1 (osz_of (hf.op r hr o ho) (hi.op r hr o ho))) (by omega) rfl rfl hA hW hB).mono fun e w' ⟨h1, h2⟩ => ⟨.inl ⟨hg, h1⟩, h2⟩
  · exact (rprint_bad a0 a1 a2 a3 a4 a5 a6 a7 a8 A B _ c _ d hs rows picks w hf hi hg (by omega) rfl rfl hA hW hB).mono fun e w' ⟨h1, h2⟩ => ⟨.inr h1, h2⟩
theorem rprint_good {x : ScV} {v : Value} {w : World} (hR : ScR w x v) (hf : FewP x) (hi : ScIn x) (hg : GoodS x) :
    Calls Tryz.prog 11 #[v] w fun e w' => e = .returned (.tuple #[.string ⟨(prL x).toArray⟩, .int .i64 0]) ∧ Below w.heap.size w w' := by
  obtain ⟨a0, a1, a2, a3, a4, a5, a6, a7, a8, A, c, B, d, hs, hcf, rfl, hA, hW, hB⟩ := hR.h
  obtain ⟨cf, rows, picks⟩ := x
  simp only at hcf hA hW hB
  subst hcf
  have ht := pr_300 hf hi rfl
  exact rprint_ok a0 a1 a2 a3 a4 a5 a6 a7 a8 A B _ c _ d hs rows picks w (sfm_of hf hg) (fun r hr o ho => ook_of (hg.2.1 r hr o ho).1 (osz_of (hf.op r hr o ho) (hi.op r hr o ho))) (by omega) rfl rfl hA hW hB
end Go.Proofs.YtelpkajlejbbgaaGreatDoor
namespace Go.Proofs.YtelpkajlejbbgaaGreatDoor
open Go.RowKit Go.Maps
end Go.Proofs.YtelpkajlejbbgaaGreatDoor
namespace Go.Proofs.YtelpkajlejbbgaaGreatDoor
open Go.RowKit Go.Maps
end Go.Proofs.YtelpkajlejbbgaaGreatDoor
