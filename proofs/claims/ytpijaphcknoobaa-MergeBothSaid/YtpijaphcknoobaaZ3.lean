/- The document's Merge, Once; and the lists that a law takes. -/
import Derived.Test.YtpijaphcknoobaaZ2
namespace Go.Proofs.Ytpijaphcknoobaa
set_option linter.unusedSimpArgs false
open Go.RowKit Go.Shelf
set_option linter.unusedVariables false

theorem flat_snoc {rs : List (List TT)} {i : Nat} {ys : List TT} (h : rs[i]? = some ys) : (rs.take (i + 1)).flatten = (rs.take i).flatten ++ ys := by
  obtain ⟨hk, e⟩ := List.getElem?_eq_some_iff.1 h
  rw [List.take_succ_eq_append_getElem hk, e]; simp
theorem flat_len8 {rs : List (List TT)} (h20 : ∀ l ∈ rs, l.length ≤ 20) (i : Nat) : (rs.take i).flatten.length ≤ i * 20 := by
  induction i with
  | zero => simp
  | succ i ih =>
    by_cases hi : i < rs.length
    · rw [flat_snoc (List.getElem?_eq_getElem hi), List.length_append]
      have := h20 _ (List.getElem_mem hi)
      omega
    · rw [List.take_of_length_le (by omega)] at ih ⊢
      omega
set_option maxHeartbeats 4000000 in
set_option maxRecDepth 100000 in
theorem rmerge_any (A : Option Addr) (m c : Nat) (vs : List Value) (rs : List (List TT)) (w : World) (hl : rs.length = m) (hm : m ≤ 8) (h20 : ∀ l ∈ rs, l.length ≤ 20) (hR : Rd w w.heap.size A vs) (hS : Sls w vs rs) :
    Calls Try.prog 14 #[.slice A m c] w (NewRowS w (sortL [] rs.flatten)) := by
  have HR := Lib.hid hR
  have HS := Lib.hid hS
  have HL := Lib.hid hl
  have H20 := Lib.hid h20
  have bR : Hid (Below w.heap.size w (w.alloc (.cells #[] 29))) := Lib.hid (bel_alloc (Below.refl _ _) _)
  clear hR hS hl h20
  go_enter Try.func14, Try.ntmps14
  go_wp2
  go_loopw [3, 4] (fun ov iv wr => ∃ (i : Nat) (acc : List TT) (g cc : Nat), i ≤ m ∧ iv = .int .i64 i ∧ ov = .slice (some ⟨g, 0, none⟩) acc.length cc ∧ acc = sortL [] (rs.take i).flatten ∧ RdT wr (some ⟨g, 0, none⟩) acc ∧ acc.length ≤ cc ∧ cc ≤ maxLen ∧ Below w.heap.size w wr) (fun _ i _ => m - (intOf i).toNat)
  case atStart => exact ⟨0, [], w.heap.size, 0, Nat.zero_le _, rfl, rfl, rfl, .inl rfl, Nat.le_refl _, Nat.zero_le _, bR.out⟩
  case round =>
    obtain ⟨i, acc, g, cc, hi8, rfl, rfl, hacc, hra, hca, hcm, hB⟩ := hrel
    have HACC := Lib.hid hacc
    have HRA := Lib.hid hra
    have HCM := Lib.hid hcm
    have HB := Lib.hid hB
    clear hacc hra hcm hB
    by_cases h8 : i < m
    · have q1 : (i : Int) < (m : Int) := by omega
      have q0 : (0 : Int) ≤ (i : Int) := by omega
      have q9 : (i : Int) ≤ 8 := by omega
      obtain ⟨ys, hys⟩ : ∃ ys, rs[i]? = some ys := ⟨_, List.getElem?_eq_getElem (by rw [HL.out]; omega)⟩
      obtain ⟨u, hu, Ay, cy, rfl, hcy1, hcy2, hry⟩ := HS.out.2 i ys hys
      obtain ⟨bA, oA, rfl, hAl, gA⟩ := Rd.get HR.out hu
      have y20 : ys.length ≤ 20 := H20.out _ (List.mem_of_getElem? hys)
      have HFL := Lib.hid (flat_len8 H20.out i)
      have HSN := Lib.hid (flat_snoc hys)
      have HRY := Lib.hid hry
      have GA := Lib.hid gA
      obtain ⟨V, hV⟩ : ∃ V, V = wr := ⟨_, rfl⟩
      subst hV
      clear hys hu hry gA hcy1 hcy2
      go_wp2
      go_loopw [3, 5] (fun ov jv wr => ∃ (k : Nat) (acc2 : List TT) (g cc : Nat), k ≤ ys.length ∧ jv = .int .i64 k ∧ ov = .slice (some ⟨g, 0, none⟩) acc2.length cc ∧ acc2 = sortL acc (ys.take k) ∧ RdT wr (some ⟨g, 0, none⟩) acc2 ∧ acc2.length ≤ cc ∧ cc ≤ maxLen ∧ Below V.heap.size V wr) (fun _ j _ => ys.length - (intOf j).toNat)
      case atStart => exact ⟨0, acc, g, cc, Nat.zero_le _, rfl, rfl, rfl, HRA.out, hca, HCM.out, Below.refl _ _⟩
      case round =>
        obtain ⟨k, acc2, g2, cc2, hk, rfl, rfl, hacc2, hra2, hca2, hcm2, hB2⟩ := hrel
        have HACC2 := Lib.hid hacc2
        have HRA2 := Lib.hid hra2
        have HCM2 := Lib.hid hcm2
        have HB2 := Lib.hid hB2
        have gA : wr.cell? ⟨bA, oA + i, none⟩ = some (.slice Ay ys.length cy) := (bel_cell (bel_trans HB.out hB2) hAl).trans GA.out
        clear hacc2 hra2 hcm2 hB2
        by_cases h9 : k < ys.length
        · have p1 : (k : Int) < (ys.length : Int) := by omega
          have p0 : (0 : Int) ≤ (k : Int) := by omega
          have p9 : (k : Int) ≤ 20 := by omega
          obtain ⟨x, hx⟩ : ∃ x, ys[k]? = some x := ⟨_, List.getElem?_eq_getElem h9⟩
          obtain ⟨b, off, rfl, hlt, f0, f1⟩ := rdt_get HRY.out hx
          have g0 : wr.cell? ⟨b, off + k * 2, none⟩ = some (.int .i64 x.1) := (bel_cell (bel_trans HB.out HB2.out) hlt).trans f0
          have g1 : wr.cell? ⟨b, off + k * 2 + 1, none⟩ = some (.int .i64 x.2) := (bel_cell (bel_trans HB.out HB2.out) hlt).trans f1
          have hln : acc2.length ≤ 180 := by
            have h1 := congrArg List.length HACC2.out
            have h2 := congrArg List.length HACC.out
            rw [sort_len] at h1 h2
            have h3 := HFL.out
            have h4 : (ys.take k).length ≤ k := List.length_take_le _ _
            simp only [List.length_nil] at h2
            omega
          have IC := Lib.hid (into_any g2 0 acc2 x acc2.length cc2 wr rfl (by omega) hca2 HCM2.out HRA2.out (by rw [HACC2.out]; exact sort_srt _ (by rw [HACC.out]; exact sort_srt _ (by simp [Srt]))))
          have HX := Lib.hid hx
          obtain ⟨x0, x1⟩ := x
          simp only at g0 g1
          clear hx f0 f1 hlt
          go_wp2_with (go_at_call 37; refine IC.out.mono ?_; clear IC; rintro e w1 ⟨g3, cc3, rfl, hr3, hc3, hm3, hb3⟩; have HR3 := Lib.hid hr3; have HM3 := Lib.hid hm3; have HB3 := Lib.hid hb3; clear hr3 hm3 hb3)
          refine ⟨⟨k + 1, insS acc2 (x0, x1), g3, cc3, by omega, by simp, rfl, ?_, HR3.out, hc3, HM3.out, bel_trans HB2.out HB3.out⟩, by simp [intOf]; omega⟩
          rw [take_more HX.out, sort_app, ← HACC2.out]; rfl
        · have p1 : ¬ (k : Int) < (ys.length : Int) := by omega
          have e2 : acc2 = sortL [] (rs.take (i + 1)).flatten := by
            have h1 := HACC2.out
            rw [List.take_of_length_le (by omega), HACC.out, ← sort_app, ← HSN.out] at h1
            exact h1
          have E2 := Lib.hid e2
          clear e2
          go_wp2
          exact ⟨⟨i + 1, acc2, g2, cc2, by omega, by simp, rfl, E2.out, HRA2.out, hca2, HCM2.out, bel_trans HB.out HB2.out⟩, by simp [intOf]; omega⟩
    · have q1 : ¬ (i : Int) < (m : Int) := by omega
      have e : acc = sortL [] rs.flatten := by rw [HACC.out, List.take_of_length_le (by rw [HL.out]; omega)]
      have FIN : Hid (NewRowS w (sortL [] rs.flatten) (.returned (.slice (some ⟨g, 0, none⟩) acc.length cc)) wr) := Lib.hid ⟨g, cc, by rw [e], by rw [← e]; exact HRA.out, by rw [← e]; exact hca, HCM.out, HB.out⟩
      clear e
      go_wp2
      exact bodyPost_ret (v := .slice (some ⟨g, 0, none⟩) acc.length cc) (by simp [results, Try.results14, go_sem]) rfl FIN.out
theorem once_take {xs : List TT} {k : Nat} {x : TT} (h : xs[k]? = some x) : (lastG none (xs.take k) = some x.1 → onceG none (xs.take (k + 1)) = onceG none (xs.take k)) ∧ (¬ lastG none (xs.take k) = some x.1 → onceG none (xs.take (k + 1)) = onceG none (xs.take k) ++ [x]) := by
  rw [take_more h]
  exact ⟨fun h => onceG_snoc_eq h, fun h => onceG_snoc_ne h⟩
set_option maxHeartbeats 4000000 in
set_option maxRecDepth 100000 in
theorem ronce_any (A : Option Addr) (n c : Nat) (xs : List TT) (w : World) (hl : xs.length = n) (hn : n ≤ 1000) (hr : RdT w A xs) :
    Calls Try.prog 16 #[.slice A n c] w (NewRow w (onceG none xs)) := by
  have HR := Lib.hid hr
  have HL := Lib.hid hl
  obtain ⟨i0, hi, hz0, hz1, hz2⟩ := info_parts infoE
  clear hr hl
  have oR : Hid ((w.alloc (.cells #[] 29)).ownsRow w.heap.size 29 2 (.slice (some ⟨w.heap.size, 0, none⟩) 0 0) 0 []) := Lib.hid (World.ownsRow_made w (base := w.heap.size) (e := 29) (size := 2) #[] 0 (by simp) (by simp [maxLen]) (by simp))
  have bR : Hid (Below w.heap.size w (w.alloc (.cells #[] 29))) := Lib.hid (bel_alloc (Below.refl _ _) _)
  go_enter Try.func16, Try.ntmps16
  go_wp2
  go_loopw [3, 4] (fun ov iv wr => ∃ (k : Nat) (ts : List TT), k ≤ n ∧ iv = .int .i64 k ∧ ts = onceG none (xs.take k) ∧ wr.ownsRow w.heap.size 29 2 ov ts.length (cls ts) ∧ Below w.heap.size w wr) (fun _ i _ => n - (intOf i).toNat)
  case atStart => exact ⟨0, [], Nat.zero_le _, rfl, rfl, oR.out, bR.out⟩
  case round =>
    obtain ⟨k, ts, hk, rfl, hts, hown, hB⟩ := hrel
    obtain ⟨a9, c9, rfl, _⟩ := own_shape hown
    have HTS := Lib.hid hts
    have HO := Lib.hid hown
    have HB := Lib.hid hB
    clear hown hB hts
    by_cases h8 : k < n
    · have q1 : (k : Int) < (n : Int) := by omega
      have q0 : (0 : Int) ≤ (k : Int) := by omega
      have q9 : (k : Int) ≤ 1000 := by omega
      obtain ⟨x, hx⟩ : ∃ x, xs[k]? = some x := ⟨_, List.getElem?_eq_getElem (by rw [HL.out]; omega)⟩
      obtain ⟨b, off, rfl, hlt, f0, f1⟩ := rdt_get HR.out hx
      have g0 : wr.cell? ⟨b, off + k * 2, none⟩ = some (.int .i64 x.1) := (bel_cell HB.out hlt).trans f0
      have g1 : wr.cell? ⟨b, off + k * 2 + 1, none⟩ = some (.int .i64 x.2) := (bel_cell HB.out hlt).trans f1
      have hln : ts.length ≤ k := by rw [HTS.out]; exact Nat.le_trans (once_len _ _) (by rw [List.length_take]; omega)
      have hln9 : ts.length ≤ 1000 := by omega
      have HOT := Lib.hid (once_take hx)
      rw [← HTS.out] at HOT
      have HLL := Lib.hid (lastG_last (xs.take k) none)
      rw [← HTS.out] at HLL
      obtain ⟨x0, x1⟩ := x
      simp only at g0 g1
      clear hx f0 f1 hlt
      rcases HLL.out with ⟨rfl, hla⟩ | ⟨y, hly, hla⟩
      · have E : Hid ([] ++ [(x0, x1)] = onceG none (xs.take (k + 1))) := Lib.hid ((HOT.out.2 (by rw [hla]; simp)).symm)
        simp only [List.length_nil] at HO
        clear hla hln hln9
        go_wp2_with fail
        go_quiet (fail)
        have hU : Below wr.heap.size wr (wr.drewN nq) := bel_drewN (Below.refl _ _) nq
        have HO2 := Lib.hid (own_bel HO.out hU)
        have HB2 := Lib.hid (bel_trans HB.out hU)
        have u0 : (wr.drewN nq).cell? ⟨b, off + k * 2, none⟩ = some (.int .i64 x0) := by simpa using g0
        have u1 : (wr.drewN nq).cell? ⟨b, off + k * 2 + 1, none⟩ = some (.int .i64 x1) := by simpa using g1
        clear hU g0 g1 
        generalize wr.drewN nq = U at *
        have FA : Hid (0 + 1 ≤ maxLen) := Lib.hid (by simp only [maxLen]; omega)
        have FB : Hid ((0 + 1) * 16 ≤ 140737488355328) := Lib.hid (by omega)
        have FC : Hid (w.heap.size ≤ (U.alloc (kv (x0, x1))).heap.size) := Lib.hid (by have := HB2.out.size; simp; omega)
        have one2 : ∀ u ∈ [Value.int .i64 x0, .int .i64 x1], u.oneCell' = true := by simp [Value.oneCell']
        go_wp2_with (at_builtin; refine wpList_append_own_at _ rfl (.tmp 30) (.tmp 35) 26 rfl w.heap.size 29 i0 (.agg #[.int .i64 0, .int .i64 0]) 2 16 Try.underlying26 hi hz0 hz1 hz2 rfl (by decide) (.slice a9 0 c9) 0 (cls []) rfl (HO2.out.alloc _) ⟨U.heap.size, 0, none⟩ 1 1 [.int .i64 x0, .int .i64 x1] rfl rfl (kv_new U (x0, x1)) one2 FA.out FB.out FC.out ?_; intro v' w1 hown' hgrow hnil hat; have O1 := Lib.hid hown'; have bb1 := bel_own (bel_alloc HB2.out (kv (x0, x1))) hgrow (HO2.out.alloc _); have BB1 := Lib.hid bb1; clear bb1 hown' hgrow hat hnil)
        refine ⟨⟨k + 1, [] ++ [(x0, x1)], by omega, by simp, E.out, ?_, BB1.out⟩, by simp [intOf]; omega⟩
        rw [cls_snoc, List.length_append]
        exact O1.out
      · obtain ⟨p, hp⟩ : ∃ p, ts.length = p + 1 := by
          cases ts with
          | nil => simp at hly
          | cons z zs => exact ⟨zs.length, rfl⟩
        have hyp : ts[p]? = some y := by rw [List.getLast?_eq_getElem?, hp] at hly; simpa using hly
        have hck := (cls_get hyp).1
        have HPL := Lib.hid hp
        have ho := HO.out
        rw [hp] at ho
        obtain ⟨g9, cap9, e9, _, _⟩ := ho.form (by omega)
        obtain rfl : a9 = some ⟨g9, 0, none⟩ := by injection e9
        have gl : wr.cell? ⟨g9, p * 2, none⟩ = some (.int .i64 y.1) := (ho.cellAt (p * 2) (by omega)).trans hck
        clear HO
        have HO := Lib.hid ho
        have p9 : (p : Int) ≤ 1000 := by omega
        have z1 : (((p : Int) + 1) == 0) = false := by simp; omega
        have z2 : IntKind.i64.wrap (p : Int) = (p : Int) := IntWalk.i64_in _ (by omega)
        have z3 : (0 : Int) ≤ (p : Int) := by omega
        have HLA := Lib.hid hla
        rw [hp]
        obtain ⟨y0, y1⟩ := y
        simp only at gl
        clear hly hyp hck ho e9 hla hln hln9 hp
        by_cases hxy : y0 = x0
        · subst hxy
          have E : Hid (ts = onceG none (xs.take (k + 1))) := Lib.hid ((HOT.out.1 HLA.out).symm)
          go_wp2_with fail
          go_quiet (fail)
          go_wp2
          refine ⟨⟨k + 1, ts, by omega, by simp, E.out, ?_, bel_drewN HB.out nq⟩, by simp [intOf]; omega⟩
          rw [HPL.out]
          exact own_bel HO.out (bel_drewN (Below.refl _ _) _)
        · have E : Hid (ts ++ [(x0, x1)] = onceG none (xs.take (k + 1))) := Lib.hid ((HOT.out.2 (by rw [HLA.out]; simpa using hxy)).symm)
          have hne : (y0 == x0) = false := by simpa using hxy
          go_wp2_with fail
          go_quiet (fail)
          have hU : Below wr.heap.size wr (wr.drewN nq) := bel_drewN (Below.refl _ _) nq
          have HO2 := Lib.hid (own_bel HO.out hU)
          have HB2 := Lib.hid (bel_trans HB.out hU)
          have u0 : (wr.drewN nq).cell? ⟨b, off + k * 2, none⟩ = some (.int .i64 x0) := by simpa using g0
          have u1 : (wr.drewN nq).cell? ⟨b, off + k * 2 + 1, none⟩ = some (.int .i64 x1) := by simpa using g1
          clear hU g0 g1 gl
          generalize wr.drewN nq = U at *
          have FA : Hid ((p + 1) + 1 ≤ maxLen) := Lib.hid (by simp only [maxLen]; omega)
          have FB : Hid (((p + 1) + 1) * 16 ≤ 140737488355328) := Lib.hid (by omega)
          have FC : Hid (w.heap.size ≤ (U.alloc (kv (x0, x1))).heap.size) := Lib.hid (by have := HB2.out.size; simp; omega)
          have one2 : ∀ u ∈ [Value.int .i64 x0, .int .i64 x1], u.oneCell' = true := by simp [Value.oneCell']
          go_wp2_with (at_builtin; refine wpList_append_own_at _ rfl (.tmp 30) (.tmp 35) 26 rfl w.heap.size 29 i0 (.agg #[.int .i64 0, .int .i64 0]) 2 16 Try.underlying26 hi hz0 hz1 hz2 rfl (by decide) (.slice (some ⟨g9, 0, none⟩) (p + 1) c9) (p + 1) (cls ts) rfl (HO2.out.alloc _) ⟨U.heap.size, 0, none⟩ 1 1 [.int .i64 x0, .int .i64 x1] rfl rfl (kv_new U (x0, x1)) one2 FA.out FB.out FC.out ?_; intro v' w1 hown' hgrow hnil hat; have O1 := Lib.hid hown'; have bb1 := bel_own (bel_alloc HB2.out (kv (x0, x1))) hgrow (HO2.out.alloc _); have BB1 := Lib.hid bb1; clear bb1 hown' hgrow hat hnil)
          refine ⟨⟨k + 1, ts ++ [(x0, x1)], by omega, by simp, E.out, ?_, BB1.out⟩, by simp [intOf]; omega⟩
          rw [cls_snoc, List.length_append]
          exact (by have h := O1.out; rw [← HPL.out] at h; exact h)
    · have q1 : ¬ (k : Int) < (n : Int) := by omega
      obtain rfl : k = n := by omega
      go_wp2
      have e : ts = onceG none xs := by rw [HTS.out, List.take_of_length_le (by rw [HL.out]; omega)]
      have ho := HO.out
      rw [e] at ho ⊢
      exact bodyPost_ret (v := .slice a9 (onceG none xs).length c9) (by simp [results, Try.results16, go_sem]) rfl ⟨a9, c9, rfl, Rd.of_own ho (by decide), HB.out⟩
end Go.Proofs.Ytpijaphcknoobaa
