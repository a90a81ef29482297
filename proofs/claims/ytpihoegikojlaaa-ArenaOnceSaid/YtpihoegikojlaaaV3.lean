/- The law ArenaOnce. -/
import Derived.Test.YtpihoegikojlaaaV2
namespace Go.Proofs.Ytpihoegikojlaaa
set_option linter.unusedSimpArgs false
open Go.RowKit Go.Maps
set_option linter.unusedVariables false
variable {F : Nat → Prop}

open Go.Shelf
attribute [local go_sem] Oper.semAt_some

set_option maxRecDepth 100000 in
set_option maxHeartbeats 8000000 in
set_option pp.maxSteps 1000000 in
set_option pp.deepTerms true in
theorem once_walk (A : Option Addr) (n cap : Nat) (d0 d1 d2 : Nat → Int) (w : World) (hD : Deeds w A n d0 d1 d2) (hn : n ≤ maxLen) :
    Calls Try.prog 4 #[.slice A n cap] w fun e w' => e = .returned (.bool true) ∧ Below w.heap.size w w' := by
  have hal := run_zb
  obtain ⟨b, hb⟩ : ∃ b, b = playR d0 d1 d2 (newB 12) (min n 60) := ⟨_, rfl⟩
  have hpm := play_most d0 d1 d2 (newB 12) (IV.new 12 (by omega) (by omega)) (min n 60)
  rw [← hb] at hpm
  obtain ⟨hm, hiv⟩ := hpm
  have hm : b.most = 12 := hm
  have hbw : Below w.heap.size w (w.alloc (.cells #[.bool false] 4)) := bel_alloc (Below.refl _ _) _
  have hx0 := Boxed.new w 4 (.bool false)
  obtain ⟨w0, hw0⟩ : ∃ w0, w0 = w.alloc (.cells #[.bool false] 4) := ⟨_, rfl⟩
  have hs0 : w0.heap.size = w.heap.size + 1 := by rw [hw0]; simp
  rw [← hw0] at hbw hx0
  have PL := Lib.hid (played_any A n cap d0 d1 d2 w0 (hD.low hbw) hn)
  rw [← hb] at PL
  have HBW := Lib.hid hbw
  have HX0 := Lib.hid hx0
  have HS0 := Lib.hid hs0
  have HIV := Lib.hid hiv
  have HM := Lib.hid hm
  clear hD hb hbw hx0 hiv hm hs0
  refine (callsIn_wide (n := 4)).1 ?_
  refine callsIn_of_wp_marks Try.func4 rfl trivial ?_ rfl
  simp only [Try.ntmps4, List.size_toArray, List.length_cons, List.length_nil, Nat.reduceAdd, Nat.reduceSub, Array.replicate_succ, Array.replicate_zero, List.push_toArray, List.append_toArray, List.nil_append, List.cons_append]
  gi_wp2_with fail
  rw [← hw0]
  refine ⟨trivial, (callsIn_wide.2 PL.out).mono ?_⟩
  rintro e w1 ⟨cs1, rfl, h1, b1⟩
  rw [HS0.out] at h1
  have H1 := Lib.hid h1
  have B1 := Lib.hid b1
  have Z1 := Lib.hid (heap_alloc_new w1 (.cells zb 33))
  clear h1 b1
  gi_wp2_with (first
    | (refine wpListIn_store_row rfl _ _ rfl w1.heap.size cs1 rfl rfl zb Z1.out H1.out.size zb_size H1.out.one ?_)
    | fail)
  obtain ⟨V, hV⟩ : ∃ V, V = ((w1.alloc (.cells zb 33)).setRow w1.heap.size cs1).alloc (.cells #[.bool false, .bool false, .bool false, .bool false, .bool false, .bool false, .bool false, .bool false, .bool false, .bool false, .bool false, .bool false, .bool false, .bool false, .bool false, .bool false] 42) := ⟨_, rfl⟩
  rw [← hV]
  have bV : Below w1.heap.size w1 V := by rw [hV]; exact bel_alloc (W2.bel w1 cs1) _
  have sV : V.heap.size = w1.heap.size + 2 := by rw [hV]; simp
  obtain ⟨L, hL⟩ : ∃ L, L = tkL b b.top := ⟨_, rfl⟩
  have tab0 : Tab V (w1.heap.size + 1) (inK L 0) := by
    refine ⟨Array.replicate 16 (.bool false), ?_, by simp, fun i hi => ?_⟩
    · rw [hV]
      have h := heap_alloc_new (W2 w1 cs1) (.cells #[.bool false, .bool false, .bool false, .bool false, .bool false, .bool false, .bool false, .bool false, .bool false, .bool false, .bool false, .bool false, .bool false, .bool false, .bool false, .bool false] 42)
      rw [W2.size] at h
      exact h
    · rw [Array.getElem?_replicate, if_pos hi]; simp [inK]
  have HSTV := Lib.hid (H1.out.wide bV (fun g => g = w1.heap.size + 1) (fun g hg => .inr ⟨by omega, by omega⟩))
  have HA := Lib.hid (q_all HSTV.out)
  rw [← hL] at HA
  have HL := Lib.hid hL
  have BV := Lib.hid bV
  have SV := Lib.hid sV
  have TB0 := Lib.hid tab0
  clear hL bV sV tab0 hV Z1
  refine ⟨trivial, (callsIn_wide.2 HA.out).mono ?_⟩
  rintro e w6 ⟨lb6, F6, R6, rfl, hb6, hs6, hr6, hrb6, hf6⟩
  have B6 := Lib.hid hb6
  have S6 := Lib.hid hs6
  have HR6 := Lib.hid hr6
  have HRB6 := Lib.hid hrb6
  have HF6 := Lib.hid hf6
  clear hr6 hrb6 hf6
  have hnil := run_isnil (.func 34) #[] lb6
  clear hb6 hs6
  gi_wp2
  obtain ⟨s, hs⟩ : ∃ s, s = w1.heap.size + 1 := ⟨_, rfl⟩
  have hb6s := B6.out.size
  have tab6 : Tab w6 (w1.heap.size + 1) (inK L 0) := TB0.out.kept (B6.out.block _ (by have := SV.out; omega))
  have hs6 : w1.heap.size + 2 ≤ w6.heap.size := by have := SV.out; omega
  have HS6 := Lib.hid hs6
  have ST6 := Lib.hid (HSTV.out.later B6.out)
  have hw1s : w.heap.size + 1 ≤ w1.heap.size := by have := B1.out.size; have := HS0.out; omega
  have HW1S := Lib.hid hw1s
  have HX6 : Hid (Boxed w6 w.heap.size 4 (.bool false)) := Lib.hid (boxed_later (boxed_later (boxed_later HX0.out B1.out) BV.out) B6.out)
  have BW6 : Hid (Below w.heap.size w w6) := Lib.hid ((HBW.out.trans (B1.out.mono HBW.out.size)).trans ((BV.out.trans (B6.out.mono BV.out.size)).mono (by omega)))
  clear hs hb6s hs6 hw1s
  refine range_R (gf := 34) (lb := lb6) (encs := enc) (xs := L) rfl (enters_of Try.func34 (by kernel_rfl) rfl) S6.out HR6.out HRB6.out (fun g hg => (HF6.out g hg).2) (fun _ => rfl) (OnI (w1.heap.size + 1) L) (fun _ _ _ _ => False) (onI_loc _ _ _) (fun c k D W W' h _ => h)
    (fun g => g = w1.heap.size + 1) (fun g hg => ?_) ⟨rfl, tab6⟩
    (fun p U => { tmps := #[.slice A n cap, undef, .pointer (some ⟨w.heap.size, 0, none⟩), .pointer (some ⟨w.heap.size + 1 + 1, 0, none⟩), .pointer (some ⟨w1.heap.size, 0, none⟩), .bool true, .pointer (some ⟨w1.heap.size + 1, 0, none⟩), .func (.func 34) #[] lb6, .int .i64 p.1, undef, undef, undef, undef, undef, .tuple #[.pointer (some ⟨w.heap.size + 1 + 1, 0, none⟩), .agg cs1, .bool true], .slice A n cap, .tuple #[.pointer (some ⟨w.heap.size + 1 + 1, 0, none⟩), .agg cs1, .bool true], .pointer (some ⟨w.heap.size + 1 + 1, 0, none⟩), .agg cs1, .bool true, .bool true, .bool false, .agg #[.bool false, .bool false, .bool false, .bool false, .bool false, .bool false, .bool false, .bool false, .bool false, .bool false, .bool false, .bool false, .bool false, .bool false, .bool false, .bool false], .pointer (some ⟨w.heap.size + 1 + 1, 0, none⟩), .func (.func 34) #[] lb6, .func (.func 34) #[] lb6, .bool false, .func (.func 34) #[] lb6, .int .i64 p.1, .int .i64 p.2, undef, undef, undef, undef, undef, undef, undef, undef, undef, undef, undef, undef, undef, undef, undef, undef, undef, undef, undef, undef, undef, undef, undef, undef, undef, undef, undef, undef, undef, undef, undef, undef, undef, undef, undef, undef, undef, undef, undef, undef, undef, undef, undef, undef, undef, undef, undef, undef, undef, undef, undef, undef, undef, undef, undef, undef], defers := [] }) (fun p U => U) (fun p U => Below.refl _ _) ?assign ?body ?done ?stop
  · have h5 := SV.out
    have h6 := HS6.out
    refine ⟨fun hf => ?_, by omega⟩
    have := (HF6.out g hf).1
    omega
  case assign =>
    intro m l x U K hK
    gi_wp2
    exact hK
  case body =>
    rintro m l k p D U V' o hx hl hlU rfl hinD hlD hgr hch ⟨rfl, htab⟩
    obtain ⟨Z, hZ⟩ : ∃ Z, Z = U.putObj l o := ⟨_, rfl⟩
    rw [← hZ] at htab
    have hx' := hx
    rw [HL.out] at hx'
    obtain ⟨j, hp, hj1, hj2, hjf⟩ := tkL_up12 HIV.out HM.out hx'
    rw [← HL.out] at hjf
    subst hp
    obtain ⟨cj, fj⟩ := htab.cell (i := j) (by omega)
    rw [hjf] at cj
    have HT := Lib.hid htab
    have HX := Lib.hid hx
    have a1 : ¬ ((j : Int) < 1) := by omega
    have a2 : ¬ (12 < (j : Int)) := by omega
    have a3 : (0 : Int) ≤ (j : Int) := by omega
    have a4 : (j : Int) < 16 := by omega
    have a5 : j < 16 := by omega
    clear hx hx' hch htab hinD hlD hgr hjf
    change (Code.block 1 _).wpIn _ _ _ _ _ (U.putObj l o)
    rw [← hZ]
    clear hZ
    gi_wp2
    refine ⟨_, Gr.refl _ _ _, Chg.set (D := fun g => g = w1.heap.size + 1) Z _ rfl, rfl, (HT.out.set a5).congr (fun i hi => (inK_step HX.out i).symm)⟩
  case done =>
    rintro D E U hD hE hgr hch ⟨rfl, htab⟩ hK
    have hDU : D < U.heap.size := (Array.getElem?_eq_some_iff.1 hK).1
    have tabU : Tab U (w1.heap.size + 1) b.tk := htab.congr (fun i hi => by
      unfold inK
      rw [List.take_length, HL.out]
      rcases hq : b.tk i with _ | _
      · rw [decide_eq_false_iff_not, tkL_mem]; rintro ⟨_, _, h3⟩; rw [hq] at h3; cases h3
      · rw [decide_eq_true_eq, tkL_mem]
        have := HIV.out.out i hq
        exact ⟨this.1, this.2, hq⟩)
    have STU := Lib.hid (ST6.out.chg2 (hch.more (fun g hg => .inl hg)) (fun g => g = w1.heap.size + 1 ∨ g = D) (by
      rintro g (e | e)
      · exact .inl e
      · exact .inr ⟨by omega, by omega⟩))
    have hxU : Boxed U w.heap.size 4 (.bool false) := boxed_chg HX6.out hch (by have := HW1S.out; omega)
    have hbU : Below w.heap.size w U := BW6.out.trans (hch.below (fun g hg => by have := HW1S.out; omega) BW6.out.size)
    have TBU := Lib.hid tabU
    have HXU := Lib.hid hxU
    have HBU := Lib.hid hbU
    have HKD := Lib.hid hK
    have hE1 : Hid (w6.heap.size ≤ U.heap.size) := Lib.hid hch.size
    have hdw : w.heap.size < D ∧ D ≠ w1.heap.size + 1 := by have := HS6.out; have := HW1S.out; omega
    have HDW := Lib.hid hdw
    have CL := q_left STU.out
    rw [HM.out] at CL
    have HCL := Lib.hid CL
    clear htab hch hgr tabU hxU hbU hK CL hdw hD
    gi_wp2_with fail
    refine ⟨trivial, (callsIn_wide.2 HCL.out).mono ?_⟩
    rintro e u1 ⟨rfl, hb⟩
    have BU1 := Lib.hid hb
    clear hb
    have hc0 := cnt_le b.tk 64
    gi_wp2_with fail
    have hc12 : 12 - (cnt b.tk 64 : Int) ≥ 0 := by
      have h1 := HIV.out.cn
      have h2 := HIV.out.tp
      have h3 := HM.out
      omega
    gi_loopw [9] (fun iv wr => ∃ bj : AB, IV bj ∧ bj.most = 12 ∧ iv = .int .i64 (12 - (cnt bj.tk 64 : Int)) ∧ ST (w.heap.size + 1 + 1) (w.heap.size + 1 + 1) (fun g => g = w1.heap.size + 1 ∨ g = D) bj b wr cs1 ∧ Tab wr (w1.heap.size + 1) bj.tk ∧ wr.heap[D]? = some (.deferred (some [])) ∧ Below w.heap.size w wr ∧ Boxed wr w.heap.size 4 (.bool false) ∧ w.heap.size + 1 + 1 ≤ wr.heap.size) (fun iv _ => (intOf iv).toNat)
    case atStart => exact ⟨b, HIV.out, HM.out, rfl, STU.out.later BU1.out, TBU.out.kept (BU1.out.block _ (by have := HS6.out; have := hE1.out; omega)), blk_bel BU1.out HKD.out, HBU.out.trans (BU1.out.mono HBU.out.size), boxed_later HXU.out BU1.out, by have := BU1.out.size; have := hE1.out; have := HW1S.out; have := HS6.out; omega⟩
    case round =>
      obtain ⟨bj, hij, hmj, rfl, hst, htb, hkd, hbl, hbx, hsz⟩ := hrel
      have HIJ := Lib.hid hij
      have HMJ := Lib.hid hmj
      have HST := Lib.hid hst
      have HTB := Lib.hid htb
      have HKJ := Lib.hid hkd
      have HBJ := Lib.hid hbl
      have HXJ := Lib.hid hbx
      have HSJ := Lib.hid hsz
      have hc1 : (cnt bj.tk 64 : Int) ≤ 12 := by
        have h1 := hij.cn
        have h2 := hij.tp
        omega
      have hc3 : (0 : Int) ≤ (cnt bj.tk 64 : Int) := by omega
      have CT := q_take HST.out HSJ.out 3
      clear hij hmj hst htb hkd hbl hbx hsz
      by_cases hc : (cnt bj.tk 64 : Int) < 12
      · have hnf : ¬ full bj := by unfold full; rw [HMJ.out]; omega
        obtain ⟨i, e1, e2, e3, e4, e5⟩ := take_some HIJ.out hnf
        have e6 := (take_cnt HIJ.out 3 hnf)
        rw [e1, e6.2.2] at CT
        have HCT := Lib.hid CT
        have HE5 := Lib.hid e5
        have HE6 := Lib.hid e6
        rw [HMJ.out] at e3
        have HE4 := Lib.hid e4
        have a0 : 12 - (cnt bj.tk 64 : Int) > 0 := by omega
        have a1 : ¬ ((i : Int) < 1) := by omega
        have a2 : ¬ (12 < (i : Int)) := by omega
        have a3 : (0 : Int) ≤ (i : Int) := by omega
        have a4 : (i : Int) < 16 := by omega
        have a5 : i < 16 := by omega
        clear CT e1 e4 e5 e6 hnf
        gi_wp2_with fail
        refine ⟨trivial, (callsIn_wide.2 HCT.out).mono ?_⟩
        rintro e w8 ⟨rfl, h8, b8, k8⟩
        have H8 := Lib.hid h8
        have B8 := Lib.hid b8
        have TB8 := Lib.hid (HTB.out.kept (k8 _ (.inl rfl)))
        have KD8 := Lib.hid ((k8 _ (.inr rfl)).trans HKJ.out)
        obtain ⟨cj, fj⟩ := TB8.out.cell (i := i) a5
        rw [HE4.out] at cj
        clear h8 b8 k8
        gi_wp2
        have eI : 12 - (cnt bj.tk 64 : Int) - 1 = 12 - ((cnt bj.tk 64 + 1 : Nat) : Int) := by omega
        have hX8 : Boxed w8 w.heap.size 4 (.bool false) := (B8.out.block _ (by omega)).trans HXJ.out
        have hS8 := B8.out.size
        have hSJ := HSJ.out
        refine ⟨⟨takeA bj 3, HIJ.out.take 3, HE6.out.2.1.trans HMJ.out, by rw [HE6.out.1, eI], H8.out.apart grown_set (.inl rfl), (TB8.out.set a5).congr (fun j hj => by rw [HE5.out 3]), (Below.heap_setCell _ _ _ _ (fun e => HDW.out.2 e)).trans KD8.out, (HBJ.out.trans (B8.out.mono (by omega))).setCell (p := ⟨w1.heap.size + 1, i, none⟩) (by have := HW1S.out; show w.heap.size ≤ w1.heap.size + 1; omega) _, boxed_chg hX8 (Chg.set (D := fun g => g = w1.heap.size + 1) w8 _ rfl) (by have := HW1S.out; omega), by simp [World.setCell]; omega⟩, by simp [intOf]; omega⟩
      · have hcc : (cnt bj.tk 64 : Int) = 12 := by omega
        have hf : full bj := by unfold full; rw [HMJ.out]; omega
        have e1 : takeA bj 3 = bj := by simp [takeA, hf]
        have e2 : takeI bj = 0 := by simp [takeI, hf]
        have e3 : takeE bj = 9 := by simp [takeE, hf]
        rw [e1, e2, e3] at CT
        have HCT := Lib.hid CT
        have HCC := Lib.hid hcc
        have a0 : ¬ (12 - (cnt bj.tk 64 : Int) > 0) := by omega
        clear CT e1 e2 e3 hf hcc
        gi_wp2_with fail
        refine ⟨trivial, (callsIn_wide.2 HCT.out).mono ?_⟩
        rintro e w8 ⟨rfl, h8, b8, k8⟩
        have H8 := Lib.hid h8
        have B8 := Lib.hid b8
        have KD8 := Lib.hid ((k8 _ (.inr rfl)).trans HKJ.out)
        clear h8 b8 k8
        have LV := Lib.hid (live_any w8)
        gi_wp2_with fail
        refine ⟨trivial, (callsIn_wide.2 LV.out).mono ?_⟩
        rintro e w9 ⟨rfl, b9⟩
        have H9 := Lib.hid (H8.out.later b9)
        have B9 := Lib.hid b9
        have KD9 := Lib.hid (blk_bel b9 KD8.out)
        have CN := q_len H9.out
        rw [HCC.out] at CN
        have HCN := Lib.hid CN
        clear b9 CN LV
        gi_wp2_with fail
        refine ⟨trivial, (callsIn_wide.2 HCN.out).mono ?_⟩
        rintro e w10 ⟨rfl, b10⟩
        have hX10 : Boxed w10 w.heap.size 4 (.bool false) := boxed_later (boxed_later ((B8.out.block _ (by omega)).trans HXJ.out) B9.out) b10
        have cX := hX10.cell
        have fX := hX10.frozen
        have HX10 := Lib.hid hX10
        have HB10 : Hid (Below w.heap.size w w10) := Lib.hid ((HBJ.out.trans (B8.out.mono (by omega))).trans ((B9.out.trans (b10.mono B9.out.size)).mono (by have := B8.out.size; have := HSJ.out; omega)))
        have KD10 := Lib.hid (blk_bel b10 KD9.out)
        clear hX10 b10
        gi_wp2
        have hBR : w.heap.size ≠ D := by have := HDW.out; omega
        have hKs : (w10.setCell ⟨w.heap.size, 0, none⟩ (.bool true)).heap[D]? = some (.deferred (some [])) := (Below.heap_setCell _ _ _ _ (fun e => hBR e.symm)).trans KD10.out
        have bR2 := HX10.out.set (.bool true)
        have cRf := (show Boxed ((w10.setCell ⟨w.heap.size, 0, none⟩ (.bool true)).putObj D (.deferred none)) w.heap.size 4 (.bool true) from (World.putObj_heap_other hBR).trans bR2).cell
        refine ⟨by simp, .inl ⟨_, _, rfl, run_takeDeferred hKs, .bool true, by simp [results, Try.results4, go_sem, cRf], rfl, ?_⟩⟩
        have hBs : Below w.heap.size w (w10.setCell ⟨w.heap.size, 0, none⟩ (.bool true)) := HB10.out.setCell (p := ⟨w.heap.size, 0, none⟩) (Nat.le_refl _) _
        exact (Chg.of_below (D := fun _ => False) hBs).trans (Chg.put (D := fun g => g = D) _ _ rfl) (fun g hg => .inr (by have := HDW.out; omega)) |>.below (fun g h => h.elim) (Nat.le_refl _)
  case stop =>
    rintro D c k E U hD hE hgr hch hk h
    exact h.elim

end Go.Proofs.Ytpihoegikojlaaa
