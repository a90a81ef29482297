/- The law EpochHolds. -/
import Derived.Test.YtlffigkjhhcohaaM3
import Derived.Test.YtlffigkjhhcohaaU1
import Derived.Test.YtlffigkjhhcohaaS9
namespace Go.Proofs.Ytlffigkjhhcohaa
set_option linter.unusedSimpArgs false
open Go.RowKit Go.Maps
set_option linter.unusedVariables false

set_option maxRecDepth 4000 in
set_option maxHeartbeats 4000000 in
theorem holds_walk (A : Option Addr) (n cap : Nat) (d0 d1 d2 : Nat → Int) (A' : Option Addr) (n' cap' : Nat) (e0 e1 e2 : Nat → Int) (who : Int) (hw : 0 ≤ who ∧ who ≤ 255) (w : World) (hD : Deeds w A n d0 d1 d2) (hn : n ≤ maxLen) (hE : Deeds w A' n' e0 e1 e2) (hn' : n' ≤ maxLen) :
    Calls Try.prog 4 #[.slice A n cap, .slice A' n' cap', .int .u8 who] w fun e w' => e = .returned (.bool true) ∧ Below w.heap.size w w' := by
  have hal := run_zb
  obtain ⟨b1, hb1⟩ : ∃ b, b = playR d0 d1 d2 (newB 4) (min n 60) := ⟨_, rfl⟩
  have PL : Hid (Calls Try.prog 11 #[.slice A n cap] w (LPost w b1)) := Lib.hid (by rw [hb1]; exact played_any A n cap d0 d1 d2 w hD hn)
  have HB1 := Lib.hid hb1
  have HE := Lib.hid hE
  have HDD := Lib.hid hD
  have HS : Hid (1 ≤ 1 + who % 4 ∧ 1 + who % 4 ≤ 4) := Lib.hid (by omega)
  have HSW : Hid ((Lit.int .i64 (1 + who % 4)).wf = true) := Lib.hid (now_wf (c := 4) ⟨by omega, by omega⟩ (by omega))
  have HMW : Hid ((Lit.int .i64 1099511627776).wf = true) := Lib.hid rfl
  clear hD hE hb1
  go_enter Try.func4, Try.ntmps4
  go_wp2_with (first
    | (go_at_call 11; ((with_reducible refine PL.out.mono ?_); rintro e w1 ⟨N, cs, rfl, h1, b1_⟩; have H1 := Lib.hid h1; have B1 := Lib.hid b1_; have Z1 := Lib.hid (heap_alloc_new w1 (.cells zb 32)); clear h1 b1_))
    | (refine wpList_store_row rfl 32 _ _ rfl w1.heap.size cs rfl rfl 32 zb Z1.out (by rw [H1.out.size]; exact info32) (by rw [H1.out.size]; exact zb_size) H1.out.one ?_; obtain ⟨W, hW⟩ : ∃ W, W = W2 w1 cs := ⟨_, rfl⟩; change wpList _ _ _ _ _ (W2 w1 cs); rw [← hW]; have H2 : Hid (ST 60 w.heap.size N (fun g => g = w1.heap.size) b1 b1 W cs) := Lib.hid (by rw [hW]; exact H1.out.wide (W2.bel w1 cs) _ (fun g hg => .inr ⟨by omega, by rw [W2.size]; omega⟩)); have B2 : Hid (Below w.heap.size w W) := Lib.hid (by rw [hW]; exact B1.out.trans ((W2.bel w1 cs).mono B1.out.size)); have Y2 : Hid (W.heap[w1.heap.size]? = some (.cells cs 32 (0, 0))) := Lib.hid (by rw [hW]; exact W2.x w1 cs); have NW : Hid (w.heap.size ≤ w1.heap.size) := Lib.hid B1.out.size; have ZS := Lib.hid H1.out.size; obtain ⟨gx, hgx⟩ : ∃ g, g = w1.heap.size := ⟨_, rfl⟩; rw [← hgx] at H2 Y2 NW ⊢; obtain ⟨m2, S2, he2⟩ := H2.out.eq; have E2 := Lib.hid he2; clear hW Z1 H1 B1 PL hgx he2)
    | (go_at_call 12; ((with_reducible refine (q_enter H2.out (by omega) B2.out.size HSW.out).mono ?_); rintro e w2 ⟨rfl, h2, b2, k2⟩; have H3 := Lib.hid h2; have B3 := Lib.hid (B2.out.trans b2); have Y3 := Lib.hid ((k2 _ rfl).trans Y2.out); obtain ⟨ar, har⟩ : ∃ a, a = askR b1 (1 + who % 4) false := ⟨_, rfl⟩; (try rw [← har]); obtain ⟨bb2, hbb2⟩ : ∃ b, b = enterR b1 (1 + who % 4) := ⟨_, rfl⟩; rw [← hbb2] at H3; have HBB2 := Lib.hid hbb2; have HAR := Lib.hid har; clear h2 b2 k2 H2 B2 Y2 har hbb2))
    | (refine wpList_load_row rfl 32 (.tmp 8) rfl gx rfl 32 cs (0, 0) _ Y3.out Try.underlying32 rfl (by rw [ZS.out]; exact info32) ?_)
    | (go_at_call 13; ((with_reducible refine (e_enter H3.out E2.out (1 + who % 4)).mono ?_); rintro e w3 ⟨cs3, rfl, h3, b3⟩; (try rw [← HAR.out]); have H4 : Hid (ST 61 w.heap.size N (fun g => g = gx) bb2 bb2 w3 cs3) := Lib.hid (by rw [← HBB2.out] at h3; exact h3); have B4 := Lib.hid (B3.out.trans (b3.mono B3.out.size)); have Y4 := Lib.hid (blk_bel b3 Y3.out); have ZS3 := Lib.hid h3.size; have ZO3 := Lib.hid h3.one; clear h3 b3 H3 B3 Y3))
    | (refine wpList_store_row rfl 32 (.tmp 8) _ rfl gx cs3 rfl rfl 32 cs Y4.out (by rw [ZS3.out]; exact info32) (by rw [ZS3.out]; exact ZS.out) ZO3.out ?_; obtain ⟨V3, hV⟩ : ∃ V, V = w3.setRow gx cs3 := ⟨_, rfl⟩; rw [← hV]; have H5 : Hid (ST 61 w.heap.size N (fun g => g = gx) bb2 bb2 V3 cs3) := Lib.hid (by rw [hV]; exact H4.out.apart (grown_row (N := gx) (cs := cs3)) rfl); have B5 : Hid (Below w.heap.size w V3) := Lib.hid (by rw [hV]; exact below_setRow B4.out NW.out _); have Y5 : Hid (V3.heap[gx]? = some (.cells cs3 32 (0, 0))) := Lib.hid (by rw [hV]; exact setRow_heap _ _ _ _ _ _ Y4.out); obtain ⟨m5, S5, he5⟩ := H5.out.eq; have E5 := Lib.hid he5; clear hV H4 B4 Y4 he5)
    | (go_at_call 14; ((with_reducible refine (q_retire H5.out (by omega) B5.out.size HMW.out).mono ?_); rintro e w4 ⟨rfl, h6, b6, k6⟩; have H6 := Lib.hid h6; have B6 := Lib.hid (B5.out.trans b6); have Y6 := Lib.hid ((k6 _ rfl).trans Y5.out); obtain ⟨bb3, hbb3⟩ : ∃ b, b = retireR bb2 1099511627776 := ⟨_, rfl⟩; rw [← hbb3] at H6; have HBB3 := Lib.hid hbb3; clear h6 b6 k6 H5 B5 Y5 hbb3))
    | (refine wpList_load_row rfl 32 (.tmp 8) rfl gx rfl 32 cs3 (0, 0) _ Y6.out Try.underlying32 rfl (by rw [ZS3.out]; exact info32) ?_)
    | (go_at_call 15; ((with_reducible refine (e_retire H6.out E5.out (by omega) 1099511627776).mono ?_); rintro e w5 ⟨cs5, rfl, h7, b7⟩; have H7 : Hid (ST 62 w.heap.size N (fun g => g = gx) bb3 bb3 w5 cs5) := Lib.hid (by rw [← HBB3.out] at h7; exact h7); have B7 := Lib.hid (B6.out.trans (b7.mono B6.out.size)); have Y7 := Lib.hid (blk_bel b7 Y6.out); have ZS5 := Lib.hid h7.size; have ZO5 := Lib.hid h7.one; clear h7 b7 H6 B6 Y6))
    | (refine wpList_store_row rfl 32 (.tmp 8) _ rfl gx cs5 rfl rfl 32 cs3 Y7.out (by rw [ZS5.out]; exact info32) (by rw [ZS5.out]; exact ZS3.out) ZO5.out ?_; obtain ⟨V5, hV⟩ : ∃ V, V = w5.setRow gx cs5 := ⟨_, rfl⟩; rw [← hV]; have H8 : Hid (ST 62 w.heap.size N (fun g => g = gx) bb3 bb3 V5 cs5) := Lib.hid (by rw [hV]; exact H7.out.apart (grown_row (N := gx) (cs := cs5)) rfl); have B8 : Hid (Below w.heap.size w V5) := Lib.hid (by rw [hV]; exact below_setRow B7.out NW.out _); have Y8 : Hid (V5.heap[gx]? = some (.cells cs5 32 (0, 0))) := Lib.hid (by rw [hV]; exact setRow_heap _ _ _ _ _ _ Y7.out); clear hV H7 B7 Y7)
    | fail)
  obtain ⟨sn, hsn⟩ : ∃ sn : Nat, (sn : Int) = 1 + who % 4 := ⟨(1 + who % 4).toNat, by omega⟩
  have hs4 : 1 ≤ sn ∧ sn ≤ 4 := by omega
  obtain ⟨hp, hhp⟩ : ∃ hp, hp = heldB d0 d2 1099511627776 (min n 60) := ⟨_, rfl⟩
  have HHP := Lib.hid hhp
  have HINV : Hid (InvH sn 1099511627776 hp bb3) := Lib.hid (by
    have he := E5.out
    rw [HBB2.out, HB1.out, ← hsn] at he
    rw [hhp, HBB3.out, HBB2.out, HB1.out, ← hsn]
    exact InvH.start hs4 he)
  rw [← hsn] at HSW ⊢
  have HS4 := Lib.hid hs4
  clear hhp hsn HS E2 E5 HBB2 HBB3 HB1 HAR hs4
  go_loopw [12, 13, 14] (fun iv _ _ wr => ∃ (k : Nat) (bb : RB) (cs : Array Value), k ≤ min n' 60 ∧ iv = .int .i64 k ∧ ST (62 + k) w.heap.size N (fun g => g = gx) bb bb wr cs ∧ wr.heap[gx]? = some (.cells cs 32 (0, 0)) ∧ Below w.heap.size w wr ∧ InvH sn 1099511627776 hp bb) (fun i _ _ _ => 60 - (intOf i).toNat)
  case atStart => exact ⟨0, bb3, cs5, by omega, rfl, H8.out, Y8.out, B8.out, HINV.out⟩
  case round =>
    obtain ⟨k, bb, cs6, hk, rfl, hst, hy, hb, hi⟩ := hrel
    have HST := Lib.hid hst
    have HY := Lib.hid hy
    have HBR := Lib.hid hb
    have HI := Lib.hid hi
    have ZSx := Lib.hid hst.size
    clear hst hy hb hi H8 Y8 B8 HINV ZS3 ZS5 ZO3 ZO5 ZS HMW
    by_cases h8 : k < n'
    · have hk1 : (k : Int) < (n' : Int) := by omega
      have hk0 : (0 : Int) ≤ (k : Int) := by omega
      by_cases h9 : k < 60
      · have hk2 : (k : Int) < 60 := by omega
        obtain ⟨b, off, rfl, hlt, ⟨c0, c1, c2⟩, _, w1f, w2f⟩ := (HE.out.low HBR.out).at_ h8
        obtain ⟨x0, hx0⟩ : ∃ x, x = e0 k := ⟨_, rfl⟩
        obtain ⟨x1, hx1⟩ : ∃ x, x = e1 k := ⟨_, rfl⟩
        obtain ⟨x2, hx2⟩ : ∃ x, x = e2 k := ⟨_, rfl⟩
        rw [← hx0] at c0
        rw [← hx1] at c1 w1f
        rw [← hx2] at c2 w2f
        have W1F := Lib.hid w1f
        have W2F := Lib.hid w2f
        have hbb : b < w.heap.size := by
          rcases HE.out with h | ⟨b', off', e, h, _⟩
          · omega
          · cases e; exact h
        have HLT := Lib.hid hbb
        clear hx0 hx1 hx2 w1f w2f hbb hlt
        by_cases q1 : x0 = 1 ∧ x1 = (sn : Int)
        · obtain ⟨rfl, rfl⟩ := q1
          go_wp2_with fail
          exact ⟨⟨k + 1, bb, cs6, by omega, by simp, HST.out.more (by omega), HY.out, HBR.out, HI.out⟩, by simp [intOf]; omega⟩
        · by_cases q2 : x0 = 2 ∧ x2 = 1099511627776
          · obtain ⟨rfl, rfl⟩ := q2
            go_wp2_with fail
            exact ⟨⟨k + 1, bb, cs6, by omega, by simp, HST.out.more (by omega), HY.out, HBR.out, HI.out⟩, by simp [intOf]; omega⟩
          · by_cases q3 : x0 = 3
            · subst q3
              obtain ⟨m6, S6, he6⟩ := HST.out.eq
              have E6 := Lib.hid he6
              have NL := Lib.hid HST.out.nlen
              have HNR := Lib.hid (fun (e : hp = false) (j : Nat) (hj : j < nR bb) => InvH.not_ready (by rw [← e]; exact HI.out) he6 HS4.out hj)
              have HIR := Lib.hid (HI.out.ready (nR bb))
              obtain ⟨nr, hnr⟩ : ∃ q, q = nR bb := ⟨_, rfl⟩
              have QR : Hid (Calls Try.prog 16 #[.pointer (some ⟨N, 0, none⟩)] wr (QYPost (62 + k + 1) w.heap.size N (fun g => g = gx) (readyR bb (nR bb)) bb nr (bb.wl.take nr) wr cs6 none [])) := Lib.hid (by rw [hnr]; exact q_ready HST.out (by omega) HBR.out.size)
              rw [← hnr] at NL HNR
              have HNRE := Lib.hid hnr
              clear he6 hnr
              go_wp2_with (first
                | (go_at_call 16; ((with_reducible refine QR.out.mono ?_); rintro e w2 ⟨Ar, kr, rfl, rr, h2, b2, k2⟩; have R2 := Lib.hid rr.rd; have H2 : Hid (ST (62 + k + 1) w.heap.size N (fun g => g = gx) (readyR bb (nR bb)) bb w2 cs6) := Lib.hid h2; have B2 := Lib.hid (HBR.out.trans b2); have Y2 := Lib.hid ((k2 _ rfl).trans HY.out); clear rr h2 b2 k2))
                | fail)
              go_loopw [14] (fun iv WQ => ∃ j : Nat, j ≤ nr ∧ iv = .int .i64 j ∧ Below w2.heap.size w2 WQ) (fun i _ => nr - (intOf i).toNat)
              case atStart => exact ⟨0, by omega, rfl, Below.refl _ _⟩
              case round =>
                obtain ⟨j, hj, rfl, hbq⟩ := hrel
                have HBQ := Lib.hid hbq
                clear hbq c0 c1 c2
                have hnl : nr ≤ 62 + k := NL.out.2
                by_cases h10 : j < nr
                · have hj1 : (j : Int) < (nr : Int) := by omega
                  have hj0 : (0 : Int) ≤ (j : Int) := by omega
                  obtain ⟨rb, ro, rfl, _, f1⟩ := rdi_get (R2.out.later HBQ.out) (k := j) (by have := NL.out.1; omega)
                  obtain ⟨y, hy⟩ : ∃ y, y = (bb.wl.take nr).getD j 0 := ⟨_, rfl⟩
                  rw [← hy] at f1
                  have HNY : Hid (hp = false → ¬ y = 1099511627776) := Lib.hid (fun e z => HNR.out e j h10 (by rw [← hy]; exact z))
                  clear hy
                  by_cases hym : y = 1099511627776
                  · have hpt : hp = true := by
                      cases hh : hp
                      · exact absurd hym (HNY.out hh)
                      · rfl
                    have HLD : Hid (Calls Try.prog 17 #[.slice A n cap, .int .i64 1099511627776] wr fun e w' => e = .returned (.bool true) ∧ Below wr.heap.size wr w') := Lib.hid (by
                      have h := held_any A n cap d0 d1 d2 1099511627776 wr (HDD.out.low (B2.out.trans (HBQ.out.mono B2.out.size))) hn
                      rw [← HHP.out, hpt] at h; exact h)
                    subst hym
                    clear hpt
                    go_wp2_with (first
                      | (go_at_call 17; ((with_reducible refine HLD.out.mono ?_); rintro e w3 ⟨rfl, b3⟩; have B3 := Lib.hid (HBQ.out.trans (b3.mono HBQ.out.size)); clear b3))
                      | fail)
                    exact ⟨⟨j + 1, by omega, by simp, B3.out⟩, by simp [intOf]; omega⟩
                  · go_wp2_with fail
                    exact ⟨⟨j + 1, by omega, by simp, HBQ.out⟩, by simp [intOf]; omega⟩
                · have hj1 : ¬ (j : Int) < (nr : Int) := by omega
                  have HQ := Lib.hid (H2.out.later HBQ.out)
                  have YQ := Lib.hid (blk_bel HBQ.out Y2.out)
                  have BQ : Hid (Below w.heap.size w wr) := Lib.hid (B2.out.trans (HBQ.out.mono B2.out.size))
                  have ER := Lib.hid (e_ready HQ.out E6.out (by omega))
                  go_wp2_with (first
                    | (refine wpList_load_row rfl 32 (.tmp 8) rfl gx rfl 32 cs6 (0, 0) _ YQ.out Try.underlying32 rfl (by rw [ZSx.out]; exact info32) ?_)
                    | (go_at_call 18; ((with_reducible refine ER.out.mono ?_); rintro e w4 ⟨cs7, A7, k7, rfl, h4, b4⟩; have H4 : Hid (ST (62 + k + 1) w.heap.size N (fun g => g = gx) (readyR bb (nR bb)) (readyR bb (nR bb)) w4 cs7) := Lib.hid h4.off; have B4 : Hid (Below w.heap.size w w4) := Lib.hid (BQ.out.trans (b4.mono BQ.out.size)); have Y4 := Lib.hid (blk_bel b4 YQ.out); have ZS4 := Lib.hid H4.out.size; have ZO4 := Lib.hid H4.out.one; clear h4 b4))
                    | (refine wpList_store_row rfl 32 (.tmp 8) _ rfl gx cs7 rfl rfl 32 cs6 Y4.out (by rw [ZS4.out]; exact info32) (by rw [ZS4.out]; exact ZSx.out) ZO4.out ?_)
                    | fail)
                  exact ⟨⟨k + 1, _, cs7, by omega, by simp, H4.out.apart (grown_row (N := gx) (cs := cs7)) rfl, setRow_heap _ _ _ _ _ _ Y4.out, below_setRow B4.out NW.out _, HIR.out⟩, by simp [intOf]; omega⟩
            · have hcase : (x0 = 1 ∧ ¬ x1 = (sn : Int)) ∨ (x0 = 2 ∧ ¬ x2 = 1099511627776) ∨ (¬ x0 = 1 ∧ ¬ x0 = 2) := by
                by_cases z1 : x0 = 1
                · exact .inl ⟨z1, fun z => q1 ⟨z1, z⟩⟩
                · by_cases z2 : x0 = 2
                  · exact .inr (.inl ⟨z2, fun z => q2 ⟨z2, z⟩⟩)
                  · exact .inr (.inr ⟨z1, z2⟩)
              have C0 := Lib.hid c0
              have C1 := Lib.hid c1
              have C2 := Lib.hid c2
              have CS := Lib.hid (step_any (HST.out.later (drew_bel wr)) (by omega) HBR.out.size (d := x0) W1F.out W2F.out)
              have HIS := Lib.hid (HI.out.step (by obtain ⟨m, S, he⟩ := HST.out.eq; exact he.al) q1 q2)
              clear q1 q2
              rcases hcase with ⟨rfl, z⟩ | ⟨rfl, z⟩ | ⟨z, zz⟩
              · go_wp2_with fail
                refine wp_region_held_drew (S := (fun V => V.cell? ⟨b, off + k * 3, none⟩ = some (.int .i64 1) ∧ V.cell? ⟨b, off + k * 3 + 1, none⟩ = some (.int .i64 x1) ∧ V.cell? ⟨b, off + k * 3 + 2, none⟩ = some (.int .i64 x2))) (by kernel_rfl) ?_ (fun hHeld => ?_)
                · exact ⟨C0.out, C1.out, C2.out⟩
                refine wpAnyH_take (i := 0) (oi := { dst := some 116, op := Op.move (Operand.tmp 7), type := 23, pos := "law.go:107", after := #[], guard := none }) (v := ?_) rfl (by kernel_rfl) (by kernel_rfl) (by kernel_rfl) (fun _ _ _ h => h) (Or.inl ⟨by rfl, ?_⟩) hHeld ?_
                rotate_left
                · intro w hSw; clear hSw; go_simp; try with_reducible rfl
                try simp only [Act.put, List.setIfInBounds_toArray, List.set_cons_zero, List.set_cons_succ]
                refine wpAnyH_take (i := 2) (oi := { dst := some 118, op := Op.move (Operand.tmp 1), type := 22, pos := "law.go:107", after := #[], guard := none }) (v := ?_) rfl (by kernel_rfl) (by kernel_rfl) (by kernel_rfl) (fun _ _ _ h => h) (Or.inl ⟨by rfl, ?_⟩) hHeld ?_
                rotate_left
                · intro w hSw; clear hSw; go_simp; try with_reducible rfl
                try simp only [Act.put, List.setIfInBounds_toArray, List.set_cons_zero, List.set_cons_succ]
                refine wpAnyH_take (i := 3) (oi := { dst := some 119, op := Op.move (Operand.tmp 12), type := 3, pos := "law.go:107", after := #[], guard := none }) (v := ?_) rfl (by kernel_rfl) (by kernel_rfl) (by kernel_rfl) (fun _ _ _ h => h) (Or.inl ⟨by rfl, ?_⟩) hHeld ?_
                rotate_left
                · intro w hSw; clear hSw; go_simp; try with_reducible rfl
                try simp only [Act.put, List.setIfInBounds_toArray, List.set_cons_zero, List.set_cons_succ]
                refine wpAnyH_take (i := 4) (oi := { dst := some 120, op := Op.indexAddr 22 (Operand.tmp 118) (Operand.tmp 119), type := 0, pos := "law.go:107", after := #[{ on := 2, ground := Ground.data }, { on := 3, ground := Ground.data }], guard := none }) (v := ?_) rfl (by kernel_rfl) (by kernel_rfl) (by kernel_rfl) (fun _ _ _ h => h) (Or.inl ⟨by rfl, ?_⟩) hHeld ?_
                rotate_left
                · intro w hSw; clear hSw; go_simp; try with_reducible rfl
                try simp only [Act.put, List.setIfInBounds_toArray, List.set_cons_zero, List.set_cons_succ]
                refine wpAnyH_take (i := 5) (oi := { dst := some 121, op := Op.load 36 (Operand.tmp 120), type := 36, pos := "law.go:107", after := #[{ on := 4, ground := Ground.data }], guard := none }) (v := Value.agg #[.int .i64 1, .int .i64 x1, .int .i64 x2]) rfl (by kernel_rfl) (by kernel_rfl) (by kernel_rfl) (fun _ _ _ h => h) (Or.inl ⟨by rfl, ?_⟩) hHeld ?_
                · intro V hV; have hc0 := hV.1; have hc1 := hV.2.1; have hc2 := hV.2.2; clear hV; go_simp
                try simp only [Act.put, List.setIfInBounds_toArray, List.set_cons_zero, List.set_cons_succ]
                refine wpAnyH_ready (rs := [1]) (by kernel_rfl) (by simp) ?_
                refine AllReadyH.cons (o := { dst := some 117, op := Op.load 32 (Operand.tmp 8), type := 32, pos := "law.go:107", after := #[], guard := none }) rfl (fun K hK => ?_) AllReadyH.nil
                rw [if_pos (by rfl)]
                refine wp_load_row 32 (.tmp 8) rfl gx rfl 32 cs6 (0, 0) _ HY.out Try.underlying32 rfl (by rw [ZSx.out]; exact info32) ?_
                refine hK.out _ _ ?_ (fun hHeld => ?_)
                · exact hHeld
                clear hK K
                try simp only [Act.put, List.setIfInBounds_toArray, List.set_cons_zero, List.set_cons_succ]
                refine wpAnyH_ready (rs := [6]) (by kernel_rfl) (by simp) ?_
                refine AllReadyH.cons (o := { dst := some 122, op := Op.call { callee := Callee.value (Operand.func 9), args := #[Operand.tmp 116, Operand.tmp 117, Operand.tmp 121], argTypes := #[23, 32, 36] }, type := 33, pos := "law.go:107", after := #[{ on := 0, ground := Ground.data }, { on := 1, ground := Ground.data }, { on := 5, ground := Ground.data }], guard := none }) rfl (fun K hK => ?_) AllReadyH.nil
                go_simp
                go_at_call 9; ((with_reducible refine (CS.out).mono ?_); rintro e w2 ⟨cs', rfl, h2, b2, k2⟩; have H2 := Lib.hid h2; have B2 := Lib.hid b2; have HY2 := Lib.hid ((k2 _ rfl).trans HY.out); have ZS2 := Lib.hid h2.size; have ZO2 := Lib.hid h2.one; have CC := Lib.hid (And.intro ((bel_cell b2 (by have := HLT.out; omega)).trans C0.out) (And.intro ((bel_cell b2 (by have := HLT.out; omega)).trans C1.out) ((bel_cell b2 (by have := HLT.out; omega)).trans C2.out))); clear h2 b2 k2)
                try go_wp2_with fail
                refine hK.out _ _ ?_ (fun hHeld => ?_)
                · exact CC.out
                clear hK K
                try simp only [Act.put, List.setIfInBounds_toArray, List.set_cons_zero, List.set_cons_succ]
                refine wpAnyH_take (i := 7) (oi := { dst := some 115, op := Op.move (Operand.tmp 122), type := 33, pos := "law.go:107", after := #[{ on := 6, ground := Ground.data }], guard := none }) (v := ?_) rfl (by kernel_rfl) (by kernel_rfl) (by kernel_rfl) (fun _ _ _ h => h) (Or.inl ⟨by rfl, ?_⟩) hHeld ?_
                rotate_left
                · intro w hSw; clear hSw; go_simp; try with_reducible rfl
                try simp only [Act.put, List.setIfInBounds_toArray, List.set_cons_zero, List.set_cons_succ]
                refine wpAnyH_take (i := 8) (oi := { dst := some 123, op := Op.extract (Operand.tmp 115) 0, type := 32, pos := "law.go:107", after := #[{ on := 7, ground := Ground.data }], guard := none }) (v := ?_) rfl (by kernel_rfl) (by kernel_rfl) (by kernel_rfl) (fun _ _ _ h => h) (Or.inl ⟨by rfl, ?_⟩) hHeld ?_
                rotate_left
                · intro w hSw; clear hSw; go_simp; try with_reducible rfl
                try simp only [Act.put, List.setIfInBounds_toArray, List.set_cons_zero, List.set_cons_succ]
                refine wpAnyH_take (i := 9) (oi := { dst := some 124, op := Op.extract (Operand.tmp 115) 1, type := 4, pos := "law.go:107", after := #[{ on := 7, ground := Ground.data }, { on := 10, ground := Ground.gcOnly Departure.lateStores }], guard := none }) (v := ?_) rfl (by kernel_rfl) (by kernel_rfl) (by kernel_rfl) (fun _ _ _ h => h) (Or.inl ⟨by rfl, ?_⟩) hHeld ?_
                rotate_left
                · intro w hSw; clear hSw; go_simp; try with_reducible rfl
                try simp only [Act.put, List.setIfInBounds_toArray, List.set_cons_zero, List.set_cons_succ]
                refine wpAnyH_ready (rs := [10]) (by kernel_rfl) (by simp) ?_
                refine AllReadyH.cons (o := { dst := none, op := Op.store 32 (Operand.tmp 8) (Operand.tmp 123), type := 0, pos := "law.go:107", after := #[{ on := 8, ground := Ground.data }, { on := 6, ground := Ground.chain }, { on := 0, ground := Ground.phase }, { on := 1, ground := Ground.phase }, { on := 2, ground := Ground.phase }, { on := 3, ground := Ground.phase }, { on := 4, ground := Ground.phase }, { on := 5, ground := Ground.phase }, { on := 6, ground := Ground.phase }, { on := 7, ground := Ground.phase }, { on := 8, ground := Ground.phase }, { on := 9, ground := Ground.textOnly Departure.lateStores }], guard := none }) rfl (fun K hK => ?_) AllReadyH.nil
                rw [if_pos (by rfl)]
                refine wp_store_row 32 (.tmp 8) (.tmp 123) rfl gx cs' rfl rfl 32 cs6 HY2.out (by rw [ZS2.out]; exact info32) (by rw [ZS2.out]; exact ZSx.out) ZO2.out ?_
                refine hK.out _ _ ?_ (fun hHeld => ?_)
                · exact ⟨(cell_setRow (by have := HLT.out; have := NW.out; omega)).trans CC.out.1, (cell_setRow (by have := HLT.out; have := NW.out; omega)).trans CC.out.2.1, (cell_setRow (by have := HLT.out; have := NW.out; omega)).trans CC.out.2.2⟩
                clear hK K
                try simp only [Act.put, List.setIfInBounds_toArray, List.set_cons_zero, List.set_cons_succ]
                refine wpAnyH_done (by kernel_rfl) ?_ _
                have HG := Lib.hid (grown_row (w := w2) (N := gx) (cs := cs'))
                have H4 := Lib.hid (H2.out.apart HG.out rfl)
                have HY4 := Lib.hid (setRow_heap _ _ _ cs' _ _ HY2.out)
                have B4 : Hid (Below w.heap.size w (w2.setRow gx cs')) := Lib.hid (below_setRow (HBR.out.trans ((drew_bel wr).mono HBR.out.size |>.trans B2.out)) NW.out _)
                clear HG H2 B2 HY2
                go_wp2_with fail
                exact ⟨⟨k + 1, _, cs', by omega, by simp, H4.out, HY4.out, B4.out, HIS.out⟩, by simp [intOf]; omega⟩
              · go_wp2_with fail
                refine wp_region_held_drew (S := (fun V => V.cell? ⟨b, off + k * 3, none⟩ = some (.int .i64 2) ∧ V.cell? ⟨b, off + k * 3 + 1, none⟩ = some (.int .i64 x1) ∧ V.cell? ⟨b, off + k * 3 + 2, none⟩ = some (.int .i64 x2))) (by kernel_rfl) ?_ (fun hHeld => ?_)
                · exact ⟨C0.out, C1.out, C2.out⟩
                refine wpAnyH_take (i := 0) (oi := { dst := some 116, op := Op.move (Operand.tmp 7), type := 23, pos := "law.go:107", after := #[], guard := none }) (v := ?_) rfl (by kernel_rfl) (by kernel_rfl) (by kernel_rfl) (fun _ _ _ h => h) (Or.inl ⟨by rfl, ?_⟩) hHeld ?_
                rotate_left
                · intro w hSw; clear hSw; go_simp; try with_reducible rfl
                try simp only [Act.put, List.setIfInBounds_toArray, List.set_cons_zero, List.set_cons_succ]
                refine wpAnyH_take (i := 2) (oi := { dst := some 118, op := Op.move (Operand.tmp 1), type := 22, pos := "law.go:107", after := #[], guard := none }) (v := ?_) rfl (by kernel_rfl) (by kernel_rfl) (by kernel_rfl) (fun _ _ _ h => h) (Or.inl ⟨by rfl, ?_⟩) hHeld ?_
                rotate_left
                · intro w hSw; clear hSw; go_simp; try with_reducible rfl
                try simp only [Act.put, List.setIfInBounds_toArray, List.set_cons_zero, List.set_cons_succ]
                refine wpAnyH_take (i := 3) (oi := { dst := some 119, op := Op.move (Operand.tmp 12), type := 3, pos := "law.go:107", after := #[], guard := none }) (v := ?_) rfl (by kernel_rfl) (by kernel_rfl) (by kernel_rfl) (fun _ _ _ h => h) (Or.inl ⟨by rfl, ?_⟩) hHeld ?_
                rotate_left
                · intro w hSw; clear hSw; go_simp; try with_reducible rfl
                try simp only [Act.put, List.setIfInBounds_toArray, List.set_cons_zero, List.set_cons_succ]
                refine wpAnyH_take (i := 4) (oi := { dst := some 120, op := Op.indexAddr 22 (Operand.tmp 118) (Operand.tmp 119), type := 0, pos := "law.go:107", after := #[{ on := 2, ground := Ground.data }, { on := 3, ground := Ground.data }], guard := none }) (v := ?_) rfl (by kernel_rfl) (by kernel_rfl) (by kernel_rfl) (fun _ _ _ h => h) (Or.inl ⟨by rfl, ?_⟩) hHeld ?_
                rotate_left
                · intro w hSw; clear hSw; go_simp; try with_reducible rfl
                try simp only [Act.put, List.setIfInBounds_toArray, List.set_cons_zero, List.set_cons_succ]
                refine wpAnyH_take (i := 5) (oi := { dst := some 121, op := Op.load 36 (Operand.tmp 120), type := 36, pos := "law.go:107", after := #[{ on := 4, ground := Ground.data }], guard := none }) (v := Value.agg #[.int .i64 2, .int .i64 x1, .int .i64 x2]) rfl (by kernel_rfl) (by kernel_rfl) (by kernel_rfl) (fun _ _ _ h => h) (Or.inl ⟨by rfl, ?_⟩) hHeld ?_
                · intro V hV; have hc0 := hV.1; have hc1 := hV.2.1; have hc2 := hV.2.2; clear hV; go_simp
                try simp only [Act.put, List.setIfInBounds_toArray, List.set_cons_zero, List.set_cons_succ]
                refine wpAnyH_ready (rs := [1]) (by kernel_rfl) (by simp) ?_
                refine AllReadyH.cons (o := { dst := some 117, op := Op.load 32 (Operand.tmp 8), type := 32, pos := "law.go:107", after := #[], guard := none }) rfl (fun K hK => ?_) AllReadyH.nil
                rw [if_pos (by rfl)]
                refine wp_load_row 32 (.tmp 8) rfl gx rfl 32 cs6 (0, 0) _ HY.out Try.underlying32 rfl (by rw [ZSx.out]; exact info32) ?_
                refine hK.out _ _ ?_ (fun hHeld => ?_)
                · exact hHeld
                clear hK K
                try simp only [Act.put, List.setIfInBounds_toArray, List.set_cons_zero, List.set_cons_succ]
                refine wpAnyH_ready (rs := [6]) (by kernel_rfl) (by simp) ?_
                refine AllReadyH.cons (o := { dst := some 122, op := Op.call { callee := Callee.value (Operand.func 9), args := #[Operand.tmp 116, Operand.tmp 117, Operand.tmp 121], argTypes := #[23, 32, 36] }, type := 33, pos := "law.go:107", after := #[{ on := 0, ground := Ground.data }, { on := 1, ground := Ground.data }, { on := 5, ground := Ground.data }], guard := none }) rfl (fun K hK => ?_) AllReadyH.nil
                go_simp
                go_at_call 9; ((with_reducible refine (CS.out).mono ?_); rintro e w2 ⟨cs', rfl, h2, b2, k2⟩; have H2 := Lib.hid h2; have B2 := Lib.hid b2; have HY2 := Lib.hid ((k2 _ rfl).trans HY.out); have ZS2 := Lib.hid h2.size; have ZO2 := Lib.hid h2.one; have CC := Lib.hid (And.intro ((bel_cell b2 (by have := HLT.out; omega)).trans C0.out) (And.intro ((bel_cell b2 (by have := HLT.out; omega)).trans C1.out) ((bel_cell b2 (by have := HLT.out; omega)).trans C2.out))); clear h2 b2 k2)
                try go_wp2_with fail
                refine hK.out _ _ ?_ (fun hHeld => ?_)
                · exact CC.out
                clear hK K
                try simp only [Act.put, List.setIfInBounds_toArray, List.set_cons_zero, List.set_cons_succ]
                refine wpAnyH_take (i := 7) (oi := { dst := some 115, op := Op.move (Operand.tmp 122), type := 33, pos := "law.go:107", after := #[{ on := 6, ground := Ground.data }], guard := none }) (v := ?_) rfl (by kernel_rfl) (by kernel_rfl) (by kernel_rfl) (fun _ _ _ h => h) (Or.inl ⟨by rfl, ?_⟩) hHeld ?_
                rotate_left
                · intro w hSw; clear hSw; go_simp; try with_reducible rfl
                try simp only [Act.put, List.setIfInBounds_toArray, List.set_cons_zero, List.set_cons_succ]
                refine wpAnyH_take (i := 8) (oi := { dst := some 123, op := Op.extract (Operand.tmp 115) 0, type := 32, pos := "law.go:107", after := #[{ on := 7, ground := Ground.data }], guard := none }) (v := ?_) rfl (by kernel_rfl) (by kernel_rfl) (by kernel_rfl) (fun _ _ _ h => h) (Or.inl ⟨by rfl, ?_⟩) hHeld ?_
                rotate_left
                · intro w hSw; clear hSw; go_simp; try with_reducible rfl
                try simp only [Act.put, List.setIfInBounds_toArray, List.set_cons_zero, List.set_cons_succ]
                refine wpAnyH_take (i := 9) (oi := { dst := some 124, op := Op.extract (Operand.tmp 115) 1, type := 4, pos := "law.go:107", after := #[{ on := 7, ground := Ground.data }, { on := 10, ground := Ground.gcOnly Departure.lateStores }], guard := none }) (v := ?_) rfl (by kernel_rfl) (by kernel_rfl) (by kernel_rfl) (fun _ _ _ h => h) (Or.inl ⟨by rfl, ?_⟩) hHeld ?_
                rotate_left
                · intro w hSw; clear hSw; go_simp; try with_reducible rfl
                try simp only [Act.put, List.setIfInBounds_toArray, List.set_cons_zero, List.set_cons_succ]
                refine wpAnyH_ready (rs := [10]) (by kernel_rfl) (by simp) ?_
                refine AllReadyH.cons (o := { dst := none, op := Op.store 32 (Operand.tmp 8) (Operand.tmp 123), type := 0, pos := "law.go:107", after := #[{ on := 8, ground := Ground.data }, { on := 6, ground := Ground.chain }, { on := 0, ground := Ground.phase }, { on := 1, ground := Ground.phase }, { on := 2, ground := Ground.phase }, { on := 3, ground := Ground.phase }, { on := 4, ground := Ground.phase }, { on := 5, ground := Ground.phase }, { on := 6, ground := Ground.phase }, { on := 7, ground := Ground.phase }, { on := 8, ground := Ground.phase }, { on := 9, ground := Ground.textOnly Departure.lateStores }], guard := none }) rfl (fun K hK => ?_) AllReadyH.nil
                rw [if_pos (by rfl)]
                refine wp_store_row 32 (.tmp 8) (.tmp 123) rfl gx cs' rfl rfl 32 cs6 HY2.out (by rw [ZS2.out]; exact info32) (by rw [ZS2.out]; exact ZSx.out) ZO2.out ?_
                refine hK.out _ _ ?_ (fun hHeld => ?_)
                · exact ⟨(cell_setRow (by have := HLT.out; have := NW.out; omega)).trans CC.out.1, (cell_setRow (by have := HLT.out; have := NW.out; omega)).trans CC.out.2.1, (cell_setRow (by have := HLT.out; have := NW.out; omega)).trans CC.out.2.2⟩
                clear hK K
                try simp only [Act.put, List.setIfInBounds_toArray, List.set_cons_zero, List.set_cons_succ]
                refine wpAnyH_done (by kernel_rfl) ?_ _
                have HG := Lib.hid (grown_row (w := w2) (N := gx) (cs := cs'))
                have H4 := Lib.hid (H2.out.apart HG.out rfl)
                have HY4 := Lib.hid (setRow_heap _ _ _ cs' _ _ HY2.out)
                have B4 : Hid (Below w.heap.size w (w2.setRow gx cs')) := Lib.hid (below_setRow (HBR.out.trans ((drew_bel wr).mono HBR.out.size |>.trans B2.out)) NW.out _)
                clear HG H2 B2 HY2
                go_wp2_with fail
                exact ⟨⟨k + 1, _, cs', by omega, by simp, H4.out, HY4.out, B4.out, HIS.out⟩, by simp [intOf]; omega⟩
              · go_wp2_with fail
                refine wp_region_held_drew (S := (fun V => V.cell? ⟨b, off + k * 3, none⟩ = some (.int .i64 x0) ∧ V.cell? ⟨b, off + k * 3 + 1, none⟩ = some (.int .i64 x1) ∧ V.cell? ⟨b, off + k * 3 + 2, none⟩ = some (.int .i64 x2))) (by kernel_rfl) ?_ (fun hHeld => ?_)
                · exact ⟨C0.out, C1.out, C2.out⟩
                refine wpAnyH_take (i := 0) (oi := { dst := some 116, op := Op.move (Operand.tmp 7), type := 23, pos := "law.go:107", after := #[], guard := none }) (v := ?_) rfl (by kernel_rfl) (by kernel_rfl) (by kernel_rfl) (fun _ _ _ h => h) (Or.inl ⟨by rfl, ?_⟩) hHeld ?_
                rotate_left
                · intro w hSw; clear hSw; go_simp; try with_reducible rfl
                try simp only [Act.put, List.setIfInBounds_toArray, List.set_cons_zero, List.set_cons_succ]
                refine wpAnyH_take (i := 2) (oi := { dst := some 118, op := Op.move (Operand.tmp 1), type := 22, pos := "law.go:107", after := #[], guard := none }) (v := ?_) rfl (by kernel_rfl) (by kernel_rfl) (by kernel_rfl) (fun _ _ _ h => h) (Or.inl ⟨by rfl, ?_⟩) hHeld ?_
                rotate_left
                · intro w hSw; clear hSw; go_simp; try with_reducible rfl
                try simp only [Act.put, List.setIfInBounds_toArray, List.set_cons_zero, List.set_cons_succ]
                refine wpAnyH_take (i := 3) (oi := { dst := some 119, op := Op.move (Operand.tmp 12), type := 3, pos := "law.go:107", after := #[], guard := none }) (v := ?_) rfl (by kernel_rfl) (by kernel_rfl) (by kernel_rfl) (fun _ _ _ h => h) (Or.inl ⟨by rfl, ?_⟩) hHeld ?_
                rotate_left
                · intro w hSw; clear hSw; go_simp; try with_reducible rfl
                try simp only [Act.put, List.setIfInBounds_toArray, List.set_cons_zero, List.set_cons_succ]
                refine wpAnyH_take (i := 4) (oi := { dst := some 120, op := Op.indexAddr 22 (Operand.tmp 118) (Operand.tmp 119), type := 0, pos := "law.go:107", after := #[{ on := 2, ground := Ground.data }, { on := 3, ground := Ground.data }], guard := none }) (v := ?_) rfl (by kernel_rfl) (by kernel_rfl) (by kernel_rfl) (fun _ _ _ h => h) (Or.inl ⟨by rfl, ?_⟩) hHeld ?_
                rotate_left
                · intro w hSw; clear hSw; go_simp; try with_reducible rfl
                try simp only [Act.put, List.setIfInBounds_toArray, List.set_cons_zero, List.set_cons_succ]
                refine wpAnyH_take (i := 5) (oi := { dst := some 121, op := Op.load 36 (Operand.tmp 120), type := 36, pos := "law.go:107", after := #[{ on := 4, ground := Ground.data }], guard := none }) (v := Value.agg #[.int .i64 x0, .int .i64 x1, .int .i64 x2]) rfl (by kernel_rfl) (by kernel_rfl) (by kernel_rfl) (fun _ _ _ h => h) (Or.inl ⟨by rfl, ?_⟩) hHeld ?_
                · intro V hV; have hc0 := hV.1; have hc1 := hV.2.1; have hc2 := hV.2.2; clear hV; go_simp
                try simp only [Act.put, List.setIfInBounds_toArray, List.set_cons_zero, List.set_cons_succ]
                refine wpAnyH_ready (rs := [1]) (by kernel_rfl) (by simp) ?_
                refine AllReadyH.cons (o := { dst := some 117, op := Op.load 32 (Operand.tmp 8), type := 32, pos := "law.go:107", after := #[], guard := none }) rfl (fun K hK => ?_) AllReadyH.nil
                rw [if_pos (by rfl)]
                refine wp_load_row 32 (.tmp 8) rfl gx rfl 32 cs6 (0, 0) _ HY.out Try.underlying32 rfl (by rw [ZSx.out]; exact info32) ?_
                refine hK.out _ _ ?_ (fun hHeld => ?_)
                · exact hHeld
                clear hK K
                try simp only [Act.put, List.setIfInBounds_toArray, List.set_cons_zero, List.set_cons_succ]
                refine wpAnyH_ready (rs := [6]) (by kernel_rfl) (by simp) ?_
                refine AllReadyH.cons (o := { dst := some 122, op := Op.call { callee := Callee.value (Operand.func 9), args := #[Operand.tmp 116, Operand.tmp 117, Operand.tmp 121], argTypes := #[23, 32, 36] }, type := 33, pos := "law.go:107", after := #[{ on := 0, ground := Ground.data }, { on := 1, ground := Ground.data }, { on := 5, ground := Ground.data }], guard := none }) rfl (fun K hK => ?_) AllReadyH.nil
                go_simp
                go_at_call 9; ((with_reducible refine (CS.out).mono ?_); rintro e w2 ⟨cs', rfl, h2, b2, k2⟩; have H2 := Lib.hid h2; have B2 := Lib.hid b2; have HY2 := Lib.hid ((k2 _ rfl).trans HY.out); have ZS2 := Lib.hid h2.size; have ZO2 := Lib.hid h2.one; have CC := Lib.hid (And.intro ((bel_cell b2 (by have := HLT.out; omega)).trans C0.out) (And.intro ((bel_cell b2 (by have := HLT.out; omega)).trans C1.out) ((bel_cell b2 (by have := HLT.out; omega)).trans C2.out))); clear h2 b2 k2)
                try go_wp2_with fail
                refine hK.out _ _ ?_ (fun hHeld => ?_)
                · exact CC.out
                clear hK K
                try simp only [Act.put, List.setIfInBounds_toArray, List.set_cons_zero, List.set_cons_succ]
                refine wpAnyH_take (i := 7) (oi := { dst := some 115, op := Op.move (Operand.tmp 122), type := 33, pos := "law.go:107", after := #[{ on := 6, ground := Ground.data }], guard := none }) (v := ?_) rfl (by kernel_rfl) (by kernel_rfl) (by kernel_rfl) (fun _ _ _ h => h) (Or.inl ⟨by rfl, ?_⟩) hHeld ?_
                rotate_left
                · intro w hSw; clear hSw; go_simp; try with_reducible rfl
                try simp only [Act.put, List.setIfInBounds_toArray, List.set_cons_zero, List.set_cons_succ]
                refine wpAnyH_take (i := 8) (oi := { dst := some 123, op := Op.extract (Operand.tmp 115) 0, type := 32, pos := "law.go:107", after := #[{ on := 7, ground := Ground.data }], guard := none }) (v := ?_) rfl (by kernel_rfl) (by kernel_rfl) (by kernel_rfl) (fun _ _ _ h => h) (Or.inl ⟨by rfl, ?_⟩) hHeld ?_
                rotate_left
                · intro w hSw; clear hSw; go_simp; try with_reducible rfl
                try simp only [Act.put, List.setIfInBounds_toArray, List.set_cons_zero, List.set_cons_succ]
                refine wpAnyH_take (i := 9) (oi := { dst := some 124, op := Op.extract (Operand.tmp 115) 1, type := 4, pos := "law.go:107", after := #[{ on := 7, ground := Ground.data }, { on := 10, ground := Ground.gcOnly Departure.lateStores }], guard := none }) (v := ?_) rfl (by kernel_rfl) (by kernel_rfl) (by kernel_rfl) (fun _ _ _ h => h) (Or.inl ⟨by rfl, ?_⟩) hHeld ?_
                rotate_left
                · intro w hSw; clear hSw; go_simp; try with_reducible rfl
                try simp only [Act.put, List.setIfInBounds_toArray, List.set_cons_zero, List.set_cons_succ]
                refine wpAnyH_ready (rs := [10]) (by kernel_rfl) (by simp) ?_
                refine AllReadyH.cons (o := { dst := none, op := Op.store 32 (Operand.tmp 8) (Operand.tmp 123), type := 0, pos := "law.go:107", after := #[{ on := 8, ground := Ground.data }, { on := 6, ground := Ground.chain }, { on := 0, ground := Ground.phase }, { on := 1, ground := Ground.phase }, { on := 2, ground := Ground.phase }, { on := 3, ground := Ground.phase }, { on := 4, ground := Ground.phase }, { on := 5, ground := Ground.phase }, { on := 6, ground := Ground.phase }, { on := 7, ground := Ground.phase }, { on := 8, ground := Ground.phase }, { on := 9, ground := Ground.textOnly Departure.lateStores }], guard := none }) rfl (fun K hK => ?_) AllReadyH.nil
                rw [if_pos (by rfl)]
                refine wp_store_row 32 (.tmp 8) (.tmp 123) rfl gx cs' rfl rfl 32 cs6 HY2.out (by rw [ZS2.out]; exact info32) (by rw [ZS2.out]; exact ZSx.out) ZO2.out ?_
                refine hK.out _ _ ?_ (fun hHeld => ?_)
                · exact ⟨(cell_setRow (by have := HLT.out; have := NW.out; omega)).trans CC.out.1, (cell_setRow (by have := HLT.out; have := NW.out; omega)).trans CC.out.2.1, (cell_setRow (by have := HLT.out; have := NW.out; omega)).trans CC.out.2.2⟩
                clear hK K
                try simp only [Act.put, List.setIfInBounds_toArray, List.set_cons_zero, List.set_cons_succ]
                refine wpAnyH_done (by kernel_rfl) ?_ _
                have HG := Lib.hid (grown_row (w := w2) (N := gx) (cs := cs'))
                have H4 := Lib.hid (H2.out.apart HG.out rfl)
                have HY4 := Lib.hid (setRow_heap _ _ _ cs' _ _ HY2.out)
                have B4 : Hid (Below w.heap.size w (w2.setRow gx cs')) := Lib.hid (below_setRow (HBR.out.trans ((drew_bel wr).mono HBR.out.size |>.trans B2.out)) NW.out _)
                clear HG H2 B2 HY2
                go_wp2_with fail
                exact ⟨⟨k + 1, _, cs', by omega, by simp, H4.out, HY4.out, B4.out, HIS.out⟩, by simp [intOf]; omega⟩
      · have hk2 : ¬ (k : Int) < 60 := by omega
        have IN : Hid (inR bb sn = true) := Lib.hid (by rw [in4 HS4.out.1 HS4.out.2]; exact HI.out.1)
        go_wp2_with (first
          | (go_at_call 8; ((with_reducible refine (live_any _).mono ?_); rintro e w2 ⟨rfl, b2⟩; have B2 := Lib.hid (HBR.out.trans (b2.mono HBR.out.size)); have H2 := Lib.hid (HST.out.later b2); clear b2))
          | (go_at_call 19; ((with_reducible refine (q_in H2.out HSW.out).mono ?_); rintro e w3 ⟨rfl, b3⟩; rw [IN.out]; have B3 := Lib.hid (B2.out.trans (b3.mono B2.out.size)); clear b3))
          | fail)
        go_ret
        exact ⟨rfl, B3.out⟩
    · have hk1 : ¬ (k : Int) < (n' : Int) := by omega
      have IN : Hid (inR bb sn = true) := Lib.hid (by rw [in4 HS4.out.1 HS4.out.2]; exact HI.out.1)
      go_wp2_with (first
        | (go_at_call 8; ((with_reducible refine (live_any _).mono ?_); rintro e w2 ⟨rfl, b2⟩; have B2 := Lib.hid (HBR.out.trans (b2.mono HBR.out.size)); have H2 := Lib.hid (HST.out.later b2); clear b2))
        | (go_at_call 19; ((with_reducible refine (q_in H2.out HSW.out).mono ?_); rintro e w3 ⟨rfl, b3⟩; rw [IN.out]; have B3 := Lib.hid (B2.out.trans (b3.mono B2.out.size)); clear b3))
        | fail)
      go_ret
      exact ⟨rfl, B3.out⟩
end Go.Proofs.Ytlffigkjhhcohaa
