/- Texts of the proof, one behind the other. -/
import Derived.Test.YtilnpeekajnlhaaTk15
import Derived.Test.YtilnpeekajnlhaaTk27
import Derived.Test.YtilnpeekajnlhaaTk18
set_option linter.unusedVariables false
set_option linter.unusedSimpArgs false
namespace Go.Proofs.Ytilnpeekajnlhaa
open Go.RowKit Go.Maps
set_option maxRecDepth 100000 in
set_option maxHeartbeats 4000000 in
theorem same14 (kd : Int) (Pa Ja Ma Ba Pb Jb Mb Bb : Option Addr) (n k m pa ja ma ba pb jb mb bb : Nat) (ps : List ByteArray) (ks : List Int) (ms : List MG) (w : World) (hl : ps.length = n) (hn : n ≤ 1000) (hkl : ks.length = k) (hk1 : k ≤ 1000) (hm : ms.length = m) (hm1 : m ≤ 1000)
    (hP : ES.Rd w Pa ps) (hP2 : ES.Rd w Pb ps) (hJ : EI.Rd w Ja ks) (hJ2 : EI.Rd w Jb ks) (hM : EG.Rd w Ma ms) (hM2 : EG.Rd w Mb ms) :
    Calls Try.prog 13 #[NV kd (.slice Pa n pa) (.slice Ja k ja) (.slice Ma m ma) (.slice Ba 0 ba), NV kd (.slice Pb n pb) (.slice Jb k jb) (.slice Mb m mb) (.slice Bb 0 bb)] w fun e w' => e = .returned (.bool true) ∧ Below w.heap.size w w' := by
  have A1 := Lib.hid (fun W (h : Below w.heap.size w W) => Pv.sameS_eq Pa Pb ps n pa pb W hl (by omega) (es_rd.1 (hP.later h)) (es_rd.1 (hP2.later h)))
  have A2 := Lib.hid (fun W (h : Below w.heap.size w W) => same_any Ma Mb m ma mb ms W hm hm1 (hM.later h) (hM2.later h))
  have JJ := Lib.hid (fun W (h : Below w.heap.size w W) => hJ.later h)
  have J2 := Lib.hid (fun W (h : Below w.heap.size w W) => hJ2.later h)
  have HKL := Lib.hid hkl
  clear hl hkl hm hP hP2 hJ hJ2 hM hM2
  have y1 := two_new w (NO kd (.slice Pa n pa) (.slice Ja k ja) (.slice Ma m ma) (.slice Ba 0 ba)) (NO kd (.slice Pb n pb) (.slice Jb k jb) (.slice Mb m mb) (.slice Bb 0 bb))
  have H0 := Lib.hid (bel_alloc (alb w (NO kd (.slice Pa n pa) (.slice Ja k ja) (.slice Ma m ma) (.slice Ba 0 ba))) (NO kd (.slice Pb n pb) (.slice Jb k jb) (.slice Mb m mb) (.slice Bb 0 bb)))
  have Z := Lib.hid y1.1
  have Y := Lib.hid y1.2
  clear y1
  obtain ⟨c0, c1, c2, c3, c4⟩ := cells5 Z.out
  obtain ⟨d0, d1, d2, d3, d4⟩ := cells5 Y.out
  have hk0 : (0 : Int) ≤ (k : Int) := by omega
  have hk9 : (k : Int) ≤ 1000 := by omega
  go_enter Try.func13, Try.ntmps13
  go_wp2
  go_loopw [5] (fun iv wr => ∃ i : Nat, i ≤ k ∧ iv = .int .i64 i ∧ wr.heap[w.heap.size]? = some (NO kd (.slice Pa n pa) (.slice Ja k ja) (.slice Ma m ma) (.slice Ba 0 ba)) ∧ wr.heap[w.heap.size + 1]? = some (NO kd (.slice Pb n pb) (.slice Jb k jb) (.slice Mb m mb) (.slice Bb 0 bb)) ∧ Below w.heap.size w wr) (fun i _ => k - (intOf i).toNat)
  case atStart => exact ⟨0, Nat.zero_le _, rfl, Z.out, Y.out, H0.out⟩
  case round =>
    obtain ⟨i, hi, rfl, hz, hy, hb⟩ := hrel
    clear c0 c1 c2 c3 c4 d0 d1 d2 d3 d4
    replace Z := Lib.hid hz
    replace Y := Lib.hid hy
    replace H0 := Lib.hid hb
    clear hz hy hb
    obtain ⟨c0, c1, c2, c3, c4⟩ := cells5 Z.out
    obtain ⟨d0, d1, d2, d3, d4⟩ := cells5 Y.out
    have hi0 : (0 : Int) ≤ (i : Int) := by omega
    have hi9 : (i : Int) ≤ 1000 := by omega
    by_cases hik : i < k
    · have hlt : (i : Int) < (k : Int) := by omega
      obtain ⟨x, hx⟩ : ∃ x, ks[i]? = some x := ⟨_, List.getElem?_eq_getElem (by rw [HKL.out]; exact hik)⟩
      obtain ⟨b0, off, rfl, _, k0⟩ := ei_at (JJ.out _ H0.out) hx
      obtain ⟨b1, off1, rfl, _, k1⟩ := ei_at (J2.out _ H0.out) hx
      clear hx
      go_wp2_with fail
      go_quiet (fail)
      go_wp2
      exact ⟨⟨i + 1, by omega, by simp, Z.out, Y.out, bel_drewN H0.out _⟩, by simp [intOf]; omega⟩
    · have hlt : ¬ (i : Int) < (k : Int) := by omega
      go_wp2
      go_loopw [6] (fun iv wr => iv = .int .i64 0 ∧ wr.heap[w.heap.size]? = some (NO kd (.slice Pa n pa) (.slice Ja k ja) (.slice Ma m ma) (.slice Ba 0 ba)) ∧ wr.heap[w.heap.size + 1]? = some (NO kd (.slice Pb n pb) (.slice Jb k jb) (.slice Mb m mb) (.slice Bb 0 bb)) ∧ Below w.heap.size w wr) (fun _ _ => 0)
      case atStart => exact ⟨rfl, Z.out, Y.out, H0.out⟩
      case round =>
        obtain ⟨rfl, hz, hy, hb⟩ := hrel
        clear c0 c1 c2 c3 c4 d0 d1 d2 d3 d4
        replace Z := Lib.hid hz
        replace Y := Lib.hid hy
        replace H0 := Lib.hid hb
        clear hz hy hb
        obtain ⟨c0, c1, c2, c3, c4⟩ := cells5 Z.out
        obtain ⟨d0, d1, d2, d3, d4⟩ := cells5 Y.out
        go_wp2_with (first
          | (go_at_call 41; ((with_reducible refine (A1.out _ H0.out).mono ?_); rintro e w1 ⟨rfl, b⟩; replace H0 := Lib.hid (bel_trans H0.out b); replace Z := Lib.hid (keep_bel b Z.out); replace Y := Lib.hid (keep_bel b Y.out); clear b c0 c1 c2 c3 c4 d0 d1 d2 d3 d4; obtain ⟨c0, c1, c2, c3, c4⟩ := cells5 Z.out; obtain ⟨d0, d1, d2, d3, d4⟩ := cells5 Y.out))
          | (go_at_call 11; ((with_reducible refine (A2.out _ H0.out).mono ?_); rintro e w1 ⟨rfl, b⟩; replace H0 := Lib.hid (bel_trans H0.out b); replace Z := Lib.hid (keep_bel b Z.out); replace Y := Lib.hid (keep_bel b Y.out); clear b c0 c1 c2 c3 c4 d0 d1 d2 d3 d4; obtain ⟨c0, c1, c2, c3, c4⟩ := cells5 Z.out; obtain ⟨d0, d1, d2, d3, d4⟩ := cells5 Y.out))
          | fail)
        go_ret
        exact ⟨rfl, H0.out⟩
end Go.Proofs.Ytilnpeekajnlhaa
namespace Go.Proofs.Ytilnpeekajnlhaa
open Go.RowKit Go.Maps
/-- The greatest weight so far, and where. -/
def hotK (ws : List Int) : Nat → Int × Int
  | 0 => (0, 0)
  | j + 1 => match ws[j]? with
    | some x => if x > (hotK ws j).2 then ((j : Int), x) else hotK ws j
    | none => hotK ws j
set_option maxRecDepth 100000 in
set_option maxHeartbeats 8000000 in
theorem hot_any (kd : Int) (P J M B : Option Addr) (n pc k kc m mc b bc : Nat) (ps : List ByteArray) (ms : List MG) (f t : ByteArray) (w : World) (hl : ps.length = n) (hn : n ≤ 100) (hP : Pv.RdS w P ps) (hm : ms.length = m) (hm0 : m ≠ 0) (hm1 : m ≤ 1000) (hM : EG.Rd w M ms) (ho : OkA ms) (hok : ∀ x ∈ Pv.upto ps f t (Pv.many ps f t), OkA (forL x.2.1 x.2.2 ms)) :
    Calls Try.prog 35 #[NV kd (.slice P n pc) (.slice J k kc) (.slice M m mc) (.slice B b bc), .agg #[.string f, .string t]] w fun e w' => e = .returned (.tuple #[.int .i64 (hotK (wgts ps f t ms) (wgts ps f t ms).length).1, .int .i64 (hotK (wgts ps f t ms) (wgts ps f t ms).length).2]) ∧ Below w.heap.size w w' := by
  have WA := Lib.hid (fun W (h : Below w.heap.size w W) => weights_any kd P J M B n pc k kc m mc b bc ps ms f t W hl hn (Rd.later hP h) hm hm1 (hM.later h) ho hok)
  have HLW : Hid ((wgts ps f t ms).length ≤ 1000) := Lib.hid (by unfold wgts; rw [List.length_map, Pv.upto_length]; have := Pv.many_le ps f t; omega)
  obtain ⟨ws, hws⟩ : ∃ ws, ws = wgts ps f t ms := ⟨_, rfl⟩
  rw [← hws] at WA HLW ⊢
  obtain ⟨L, hL⟩ : ∃ L, L = ws.length := ⟨_, rfl⟩
  rw [← hL] at WA HLW ⊢
  have HL := Lib.hid hL.symm
  have hL9 : (L : Int) ≤ 1000 := by have := HLW.out; omega
  have hL0 : (0 : Int) ≤ (L : Int) := by omega
  have h0 : ((m : Int) == 0) = false := by rw [beq_eq_false_iff_ne]; omega
  have h00 : ¬ (m : Int) = 0 := by omega
  clear hws hL hl hP hm hM ho hok
  have y1 := two_new w (NO kd (.slice P n pc) (.slice J k kc) (.slice M m mc) (.slice B b bc)) (rgc f t)
  have H0 := Lib.hid (bel_alloc (alb w (NO kd (.slice P n pc) (.slice J k kc) (.slice M m mc) (.slice B b bc))) (rgc f t))
  have Z := Lib.hid y1.1
  have Y := Lib.hid y1.2
  clear y1
  obtain ⟨c0, c1, c2, c3, c4⟩ := cells5 Z.out
  obtain ⟨d0, d1, -, -⟩ := has_two Y.out
  go_enter Try.func35, Try.ntmps35
  go_wp2_with (first
    | (go_at_call 70; ((with_reducible refine (WA.out _ H0.out).mono ?_); rintro e w1 ⟨A', c', rfl, r1, b1⟩; have R1 := Lib.hid r1.rd; have B1 := Lib.hid (bel_trans H0.out b1); clear b1 r1 c0 c1 c2 c3 c4 d0 d1))
    | fail)
  go_loopw [6, 7, 8, 9, 20] (fun hv mv iv wv jv wr => ∃ j : Nat, j ≤ L ∧ jv = .int .i64 j ∧ hv = .int .i64 (hotK ws j).1 ∧ mv = .int .i64 (hotK ws j).2 ∧ w1 = wr) (fun _ _ _ _ j _ => L - (intOf j).toNat)
  case atStart => exact ⟨0, Nat.zero_le _, rfl, rfl, rfl, rfl⟩
  case round =>
    obtain ⟨j, hj, rfl, rfl, rfl, rfl⟩ := hrel
    by_cases hjl : j < L
    · have hj1 : (j : Int) < (L : Int) := by omega
      have hj0 : (0 : Int) ≤ (j : Int) := by omega
      have hj9 : (j : Int) ≤ 1000 := by omega
      obtain ⟨x, hx⟩ : ∃ x, ws[j]? = some x := ⟨_, List.getElem?_eq_getElem (by rw [HL.out]; exact hjl)⟩
      obtain ⟨b0, off, rfl, hlt0, k0⟩ := ei_at R1.out hx
      by_cases hg : x > (hotK ws j).2
      · have HN := Lib.hid (show hotK ws (j + 1) = ((j : Int), x) by show (match ws[j]? with | some x => _ | none => _) = _; rw [hx]; exact if_pos hg)
        have hg2 : (hotK ws j).2 < x := hg
        obtain ⟨s, hs⟩ : ∃ s, s = hotK ws j := ⟨_, rfl⟩
        rw [← hs] at hg hg2 ⊢
        clear hs hx hlt0
        go_wp2
        exact ⟨⟨j + 1, by omega, by simp, by rw [HN.out], by rw [HN.out], trivial⟩, by simp [intOf]; omega⟩
      · have HN := Lib.hid (show hotK ws (j + 1) = hotK ws j by show (match ws[j]? with | some x => _ | none => _) = _; rw [hx]; exact if_neg hg)
        have hg2 : ¬ (hotK ws j).2 < x := hg
        obtain ⟨s, hs⟩ : ∃ s, s = hotK ws j := ⟨_, rfl⟩
        rw [← hs] at hg hg2 HN ⊢
        clear hs hx hlt0
        go_wp2
        exact ⟨⟨j + 1, by omega, by simp, by rw [HN.out], by rw [HN.out], trivial⟩, by simp [intOf]; omega⟩
    · have hj1 : ¬ (j : Int) < (L : Int) := by omega
      have e : j = L := by omega
      have HE := Lib.hid e
      clear e
      go_wp2
      go_ret2
      exact ⟨by rw [HE.out]; rfl, B1.out⟩
end Go.Proofs.Ytilnpeekajnlhaa
namespace Go.Proofs.Ytilnpeekajnlhaa
open Go.RowKit Go.Maps
abbrev jA : ByteArray := ⟨#[97]⟩
abbrev jB : ByteArray := ⟨#[98]⟩
abbrev jM : ByteArray := ⟨#[109]⟩
abbrev jZ : ByteArray := ⟨#[122]⟩
abbrev q1 : MG := ⟨4, 1, jA, jZ, emptyS, 0⟩
abbrev q2 : MG := ⟨1, 2, jB, emptyS, emptyS, 0⟩
abbrev q3 : MG := ⟨4, 1, jA, jM, emptyS, 0⟩
abbrev q4 : MG := ⟨4, 1, jM, jZ, emptyS, 0⟩
abbrev jp : List ByteArray := [jM]
theorem lv_ok : OkA [q1, q2] := by
  intro x hx
  simp at hx
  rcases hx with rfl | rfl <;> refine ⟨?_, ?_, ?_⟩ <;> decide
theorem lv_ok3 : OkA [q3, q2] := by
  intro x hx
  simp at hx
  rcases hx with rfl | rfl <;> refine ⟨?_, ?_, ?_⟩ <;> decide
theorem lv_ok4 : OkA [q4] := by
  intro x hx
  simp at hx
  subst hx
  refine ⟨?_, ?_, ?_⟩ <;> decide
theorem lv_for0 : forL emptyS jM [q1, q2] = [q3, q2] := by
  have e1 : clipM q1 emptyS jM = (q3, true) := by
    simp [clipM, isPt, meetF, meetE, sb, emp, lt, maxS, firstS, bef, toList_eq, Op.bytesLess, overM]
  have e2 : clipM q2 emptyS jM = (q2, true) := by
    simp [clipM, isPt, sb, has, emp, lt, toList_eq, Op.bytesLess]
  simp [forL, e1, e2]
theorem lv_for1 : forL jM emptyS [q1, q2] = [q4] := by
  have e1 : clipM q1 jM emptyS = (q4, true) := by
    simp [clipM, isPt, meetF, meetE, sb, emp, lt, maxS, firstS, bef, toList_eq, Op.bytesLess, overM]
  have e2 : (clipM q2 jM emptyS).2 = false := by
    simp [clipM, isPt, sb, has, emp, lt, toList_eq, Op.bytesLess]
  simp [forL, e1, e2]
theorem lv_rightM : rightB [q1, q2] = true := by
  refine right_yes (fun i hi => ?_)
  have : i = 0 ∨ i = 1 := by simp at hi; omega
  rcases this with rfl | rfl
  · rw [rcI_zero rfl]; simp [rcX, isPt, sb, spF, spT, emp, lt, toList_eq, Op.bytesLess]
  · rw [rcI_succ (p := q1) (x := q2) rfl rfl]; simp [rcX, rcP, aheadM, isPt, sb, spF, spT, emp, lt, toList_eq, Op.bytesLess]
theorem lv_rightP : Pv.rightB jp emptyS emptyS = true := by
  simp [Pv.rightB, Pv.inK, Pv.risesB, Pv.riseK, Pv.at_, sb, emp, lt, ByteArray.toList_eq, Op.bytesLess]
theorem lv_many : Pv.many jp emptyS emptyS = 2 := by unfold Pv.many; rw [if_pos lv_rightP]; rfl
theorem lv_upto : Pv.upto jp emptyS emptyS 2 = [(0, emptyS, jM), (1, jM, emptyS)] := by
  simp [Pv.upto, Pv.prtOf, Pv.pF, Pv.pT, Pv.at_, List.range_succ]
theorem lv_wgts : wgts jp emptyS emptyS [q1, q2] = [35, 18] := by
  unfold wgts
  rw [lv_many, lv_upto]
  show [wgt _ _, wgt _ _] = _
  have e0 : wgt [q1, q2] (0, emptyS, jM) = 35 := by show byN (forL emptyS jM [q1, q2]) = 35; rw [lv_for0]; rfl
  have e1 : wgt [q1, q2] (1, jM, emptyS) = 18 := by show byN (forL jM emptyS [q1, q2]) = 18; rw [lv_for1]; rfl
  rw [e0, e1]
theorem lv_hok : ∀ x ∈ Pv.upto jp emptyS emptyS (Pv.many jp emptyS emptyS), OkA (forL x.2.1 x.2.2 [q1, q2]) := by
  rw [lv_many, lv_upto]
  intro x hx
  simp at hx
  rcases hx with rfl | rfl
  · show OkA (forL emptyS jM [q1, q2]); rw [lv_for0]; exact lv_ok3
  · show OkA (forL jM emptyS [q1, q2]); rw [lv_for1]; exact lv_ok4
theorem lv_hot : hotK [35, 18] 2 = (0, 35) := by decide
theorem lv_prt : Pv.prt jp jM = 1 := by simp [Pv.prt, Pv.prtK, Pv.at_, lt, ByteArray.toList_eq, Op.bytesLess]
theorem lv_wi : [q1, q2].all (wiR emptyS emptyS) = true := by
  simp [wiR, sb, spF, spT, isPt, emp, lt, bef, toList_eq, Op.bytesLess]
theorem lv_kids : kidsB [5, 6] = true := by decide
theorem lv_kid : kidL jp emptyS emptyS 0 [q1, q2] = [q3, q2] := by
  have e : Pv.spanB jp emptyS emptyS 0 = true := by unfold Pv.spanB; rw [lv_rightP]; rfl
  unfold kidL Pv.spanF
  rw [if_pos e, if_pos e]
  exact lv_for0
theorem lv_rn : RN 2 1 2 0 jp [5, 6] [q1, q2] emptyS emptyS := ⟨rfl, rfl, rfl, lv_rightP, lv_kids, lv_rightM, lv_wi⟩
end Go.Proofs.Ytilnpeekajnlhaa
namespace Go.Proofs.Ytilnpeekajnlhaa
open Go.RowKit Go.Maps
set_option maxRecDepth 100000 in
set_option maxHeartbeats 8000000 in
theorem live_true (w : World) : Calls Try.prog 9 #[] w fun r w' => r = .returned (.bool true) ∧ Below w.heap.size w w' := by
  obtain ⟨V, hV⟩ : ∃ V, V = (((w.alloc (.cells #[.string jM] 9)).alloc (.cells #[.int .i64 5, .int .i64 6] 3)).alloc (.cells #[.int .u8 4, .int .i64 1, .string jA, .string jZ, .string emptyS, .int .u64 0, .int .u8 1, .int .i64 2, .string jB, .string emptyS, .string emptyS, .int .u64 0] 62)).alloc (NO 2 (.slice (some ⟨w.heap.size, 0, none⟩) 1 1) (.slice (some ⟨w.heap.size + 1, 0, none⟩) 2 2) (.slice (some ⟨w.heap.size + 1 + 1, 0, none⟩) 2 2) (.slice none 0 0)) := ⟨_, rfl⟩
  have b1 := alb w (.cells #[.string jM] 9)
  have b2 := alb (w.alloc (.cells #[.string jM] 9)) (.cells #[.int .i64 5, .int .i64 6] 3)
  have b3 := alb ((w.alloc (.cells #[.string jM] 9)).alloc (.cells #[.int .i64 5, .int .i64 6] 3)) (.cells #[.int .u8 4, .int .i64 1, .string jA, .string jZ, .string emptyS, .int .u64 0, .int .u8 1, .int .i64 2, .string jB, .string emptyS, .string emptyS, .int .u64 0] 62)
  have b4 := alb (((w.alloc (.cells #[.string jM] 9)).alloc (.cells #[.int .i64 5, .int .i64 6] 3)).alloc (.cells #[.int .u8 4, .int .i64 1, .string jA, .string jZ, .string emptyS, .int .u64 0, .int .u8 1, .int .i64 2, .string jB, .string emptyS, .string emptyS, .int .u64 0] 62)) (NO 2 (.slice (some ⟨w.heap.size, 0, none⟩) 1 1) (.slice (some ⟨w.heap.size + 1, 0, none⟩) 2 2) (.slice (some ⟨w.heap.size + 1 + 1, 0, none⟩) 2 2) (.slice none 0 0))
  have rP := RE.Rd.lit (E := ES) w 9 [jM] #[.string jM] rfl
  have rK := RE.Rd.lit (E := EI) (w.alloc (.cells #[.string jM] 9)) 3 [5, 6] #[.int .i64 5, .int .i64 6] rfl
  have rM := RE.Rd.lit (E := EG) ((w.alloc (.cells #[.string jM] 9)).alloc (.cells #[.int .i64 5, .int .i64 6] 3)) 62 [q1, q2] #[.int .u8 4, .int .i64 1, .string jA, .string jZ, .string emptyS, .int .u64 0, .int .u8 1, .int .i64 2, .string jB, .string emptyS, .string emptyS, .int .u64 0] rfl
  have hz := heap_alloc_new (((w.alloc (.cells #[.string jM] 9)).alloc (.cells #[.int .i64 5, .int .i64 6] 3)).alloc (.cells #[.int .u8 4, .int .i64 1, .string jA, .string jZ, .string emptyS, .int .u64 0, .int .u8 1, .int .i64 2, .string jB, .string emptyS, .string emptyS, .int .u64 0] 62)) (NO 2 (.slice (some ⟨w.heap.size, 0, none⟩) 1 1) (.slice (some ⟨w.heap.size + 1, 0, none⟩) 2 2) (.slice (some ⟨w.heap.size + 1 + 1, 0, none⟩) 2 2) (.slice none 0 0))
  simp only [World.size_alloc] at rK rM hz
  have hP : ES.Rd V (some ⟨w.heap.size, 0, none⟩) [jM] := by rw [hV]; exact rP.later (bel_trans (bel_trans b2 b3) b4)
  have hK : EI.Rd V (some ⟨w.heap.size + 1, 0, none⟩) [5, 6] := by rw [hV]; exact rK.later (bel_trans b3 b4)
  have hM : EG.Rd V (some ⟨w.heap.size + 1 + 1, 0, none⟩) [q1, q2] := by rw [hV]; exact rM.later b4
  have Z0 : V.heap[w.heap.size + 1 + 1 + 1]? = some (NO 2 (.slice (some ⟨w.heap.size, 0, none⟩) 1 1) (.slice (some ⟨w.heap.size + 1, 0, none⟩) 2 2) (.slice (some ⟨w.heap.size + 1 + 1, 0, none⟩) 2 2) (.slice none 0 0)) := by rw [hV]; exact hz
  have hb : Below w.heap.size w V := by rw [hV]; exact bel_trans (bel_trans (bel_trans b1 b2) b3) b4
  have AF : Hid (∀ W, Below V.heap.size V W → Calls Try.prog 18 #[NV 2 (.slice (some ⟨w.heap.size, 0, none⟩) 1 1) (.slice (some ⟨w.heap.size + 1, 0, none⟩) 2 2) (.slice (some ⟨w.heap.size + 1 + 1, 0, none⟩) 2 2) (.slice none 0 0), .agg #[.string emptyS, .string emptyS], .int .i64 0] W fun r w' => (∃ A' c', r = .returned (.slice A' 2 c') ∧ EG.Row w' W.heap.size A' [q3, q2] c') ∧ Below W.heap.size W w') := Lib.hid (fun W h => by
    have q := ifor_any 2 (some ⟨w.heap.size, 0, none⟩) (some ⟨w.heap.size + 1, 0, none⟩) (some ⟨w.heap.size + 1 + 1, 0, none⟩) none 1 1 2 2 2 2 0 0 jp [q1, q2] emptyS emptyS 0 W rfl (by omega) (es_rd.1 (hP.later h)) rfl rfl (by omega) (hM.later h) lv_ok
    rw [lv_kid] at q
    exact q)
  have AH : Hid (∀ W, Below V.heap.size V W → Calls Try.prog 35 #[NV 2 (.slice (some ⟨w.heap.size, 0, none⟩) 1 1) (.slice (some ⟨w.heap.size + 1, 0, none⟩) 2 2) (.slice (some ⟨w.heap.size + 1 + 1, 0, none⟩) 2 2) (.slice none 0 0), .agg #[.string emptyS, .string emptyS]] W fun r w' => r = .returned (.tuple #[.int .i64 0, .int .i64 35]) ∧ Below W.heap.size W w') := Lib.hid (fun W h => by
    have q := hot_any 2 (some ⟨w.heap.size, 0, none⟩) (some ⟨w.heap.size + 1, 0, none⟩) (some ⟨w.heap.size + 1 + 1, 0, none⟩) none 1 1 2 2 2 2 0 0 jp [q1, q2] emptyS emptyS W rfl (by omega) (es_rd.1 (hP.later h)) rfl (by omega) (by omega) (hM.later h) lv_ok lv_hok
    rw [lv_wgts, show ([35, 18] : List Int).length = 2 from rfl, lv_hot] at q
    exact q)
  have AK : Hid (∀ W, Below V.heap.size V W → Calls Try.prog 36 #[NV 2 (.slice (some ⟨w.heap.size, 0, none⟩) 1 1) (.slice (some ⟨w.heap.size + 1, 0, none⟩) 2 2) (.slice (some ⟨w.heap.size + 1 + 1, 0, none⟩) 2 2) (.slice none 0 0), .string jM] W fun r w' => r = .returned (.tuple #[.int .i64 1, .bool true]) ∧ Below W.heap.size W w') := Lib.hid (fun W h => by
    have q := kid_any 2 (some ⟨w.heap.size, 0, none⟩) (some ⟨w.heap.size + 1, 0, none⟩) (some ⟨w.heap.size + 1 + 1, 0, none⟩) none 1 1 2 2 2 2 0 0 jp jM W rfl (by omega) (es_rd.1 (hP.later h)) rfl
    rw [lv_prt] at q
    exact q)
  have AR : Hid (∀ W, Below V.heap.size V W → Calls Try.prog 16 #[NV 2 (.slice (some ⟨w.heap.size, 0, none⟩) 1 1) (.slice (some ⟨w.heap.size + 1, 0, none⟩) 2 2) (.slice (some ⟨w.heap.size + 1 + 1, 0, none⟩) 2 2) (.slice none 0 0), .agg #[.string emptyS, .string emptyS]] W fun r w' => r = .returned (.bool true) ∧ Below W.heap.size W w') := Lib.hid (fun W h => iright_true 2 (some ⟨w.heap.size, 0, none⟩) (some ⟨w.heap.size + 1, 0, none⟩) (some ⟨w.heap.size + 1 + 1, 0, none⟩) none 1 1 2 2 2 2 0 0 jp [5, 6] [q1, q2] emptyS emptyS W rfl (by omega) (es_rd.1 (hP.later h)) rfl (hK.later h) (by intro x hx; simp at hx; rcases hx with rfl | rfl <;> decide) rfl (by omega) (hM.later h) lv_ok lv_rn)
  have HW := Lib.hid hb
  have Z := Lib.hid Z0
  have H0 := Lib.hid (Below.refl V.heap.size V)
  have HV := Lib.hid hV
  clear b1 b2 b3 b4 rP rK rM hz hP hK hM Z0 hb hV
  go_enter Try.func9, Try.ntmps9
  go_wp2_with (first
    | (go_at_call 18; ((with_reducible refine (AF.out _ (by rw [← HV.out]; exact Below.refl _ _)).mono ?_); rintro e w1 ⟨⟨A1, a1, rfl, r1⟩, b⟩; rw [← HV.out] at b; have R1 := Lib.hid r1.rd; replace H0 := Lib.hid b; replace Z := Lib.hid (keep_bel b Z.out); obtain ⟨c0, c1, c2, c3, c4⟩ := cells5 Z.out; clear b r1))
    | (go_at_call 35; ((with_reducible refine (AH.out _ H0.out).mono ?_); rintro e w2 ⟨rfl, b⟩; replace R1 := Lib.hid (R1.out.later b); replace H0 := Lib.hid (bel_trans H0.out b); replace Z := Lib.hid (keep_bel b Z.out); clear b c0 c1 c2 c3 c4; obtain ⟨c0, c1, c2, c3, c4⟩ := cells5 Z.out))
    | (go_at_call 36; ((with_reducible refine (AK.out _ H0.out).mono ?_); rintro e w3 ⟨rfl, b⟩; replace R1 := Lib.hid (R1.out.later b); replace H0 := Lib.hid (bel_trans H0.out b); replace Z := Lib.hid (keep_bel b Z.out); clear b c0 c1 c2 c3 c4; obtain ⟨c0, c1, c2, c3, c4⟩ := cells5 Z.out))
    | (go_at_call 16; ((with_reducible refine (AR.out _ H0.out).mono ?_); rintro e w4 ⟨rfl, b⟩; replace R1 := Lib.hid (R1.out.later b); replace H0 := Lib.hid (bel_trans H0.out b); replace Z := Lib.hid (keep_bel b Z.out); clear b c0 c1 c2 c3 c4; obtain ⟨c0, c1, c2, c3, c4⟩ := cells5 Z.out; obtain ⟨b0, off, rfl, _, _, _, _, g3, _, _⟩ := eg_at R1.out (i := 0) rfl; simp only [Nat.zero_mul, Nat.add_zero] at g3))
    | fail)
  go_ret
  exact ⟨rfl, bel_trans HW.out H0.out⟩
end Go.Proofs.Ytilnpeekajnlhaa
