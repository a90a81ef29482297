/- The document's Sorted and into. -/
import Derived.Test.YtpijaphcknoobaaZ1
namespace Go.Proofs.Ytpijaphcknoobaa
set_option linter.unusedSimpArgs false
open Go.RowKit Go.Shelf
set_option linter.unusedVariables false

theorem srt_one (xs : List TT) : Srt (xs.take 1) := by
  cases xs with
  | nil => simp [Srt]
  | cons x xs => simp [Srt]
theorem srt_more {xs : List TT} {k : Nat} {x y : TT} (h1 : xs[k]? = some x) (h2 : xs[k + 1]? = some y) (hs : Srt (xs.take (k + 1))) (hle : x.1 ≤ y.1) : Srt (xs.take (k + 1 + 1)) := by
  rw [take_more h2]
  refine List.pairwise_append.2 ⟨hs, by simp, fun a ha b hb => ?_⟩
  rw [List.mem_singleton] at hb
  subst hb
  have hs2 := hs
  rw [take_more h1] at hs2 ha
  rcases List.mem_append.1 ha with ha | ha
  · have := (List.pairwise_append.1 hs2).2.2 a ha x (by simp)
    omega
  · rw [List.mem_singleton] at ha; subst ha; exact hle
theorem srt_bad {xs : List TT} {k : Nat} {x y : TT} (h1 : xs[k]? = some x) (h2 : xs[k + 1]? = some y) (hlt : y.1 < x.1) : ¬ Srt xs := by
  intro h
  obtain ⟨a1, e1⟩ := List.getElem?_eq_some_iff.1 h1
  obtain ⟨a2, e2⟩ := List.getElem?_eq_some_iff.1 h2
  have := (List.pairwise_iff_getElem.1 h) k (k + 1) a1 a2 (by omega)
  rw [e1, e2] at this
  omega
/-- How Sorted ends. -/
def SrtPost (w : World) (xs : List TT) (e : Ending) (w' : World) : Prop := ∃ b : Bool, e = .returned (.bool b) ∧ (b = true ↔ Srt xs) ∧ Below w.heap.size w w'
set_option maxHeartbeats 2000000 in
theorem sorted_any (A : Option Addr) (xs : List TT) (n c : Nat) (w : World) (hl : xs.length = n) (hn : n ≤ 100000) (hA : RdT w A xs) : Calls Try.prog 15 #[.slice A n c] w (SrtPost w xs) := by
  have HA := Lib.hid hA
  have HL := Lib.hid hl
  clear hA hl
  go_enter Try.func15, Try.ntmps15
  go_wp2
  go_loopw [3] (fun iv wr => ∃ k d : Nat, (k + 1 ≤ n ∨ k = 0) ∧ iv = .int .i64 ((k : Int) + 1) ∧ Srt (xs.take (k + 1)) ∧ wr = w.drewN d) (fun i _ => n + 1 - (intOf i).toNat)
  case atStart => exact ⟨0, 0, by omega, by simp, srt_one xs, rfl⟩
  case round =>
    obtain ⟨k, d, hk, rfl, hs, hwr⟩ := hrel
    have HW := Lib.hid hwr
    have HS := Lib.hid hs
    clear hwr hs
    by_cases h8 : k + 1 < n
    · have i1 : (k : Int) + 1 < (n : Int) := by omega
      have i0 : (0 : Int) ≤ (k : Int) := by omega
      have i9 : (k : Int) ≤ 100000 := by omega
      have i2 : (k : Int) < (n : Int) := by omega
      obtain ⟨x, hx⟩ : ∃ x, xs[k]? = some x := ⟨_, List.getElem?_eq_getElem (by rw [HL.out]; omega)⟩
      obtain ⟨y, hy⟩ : ∃ x, xs[k + 1]? = some x := ⟨_, List.getElem?_eq_getElem (by rw [HL.out]; omega)⟩
      obtain ⟨b, off, rfl, hlt, f0, f1⟩ := rdt_get HA.out hx
      obtain ⟨b2, off2, e2, hlt2, f2, f3⟩ := rdt_get HA.out hy
      cases e2
      have g0 : wr.cell? ⟨b, off + k * 2, none⟩ = some (.int .i64 x.1) := by rw [HW.out]; exact f0
      have g2 : wr.cell? ⟨b, off + (k + 1) * 2, none⟩ = some (.int .i64 y.1) := by rw [HW.out]; exact f2
      have HX := Lib.hid hx
      have HY := Lib.hid hy
      obtain ⟨x0, x1⟩ := x
      obtain ⟨y0, y1⟩ := y
      simp only at g0 g2
      clear f0 f1 f2 f3 hx hy
      by_cases hq : y0 < x0
      · have HBAD := Lib.hid (srt_bad HX.out HY.out hq)
        go_wp2_with fail
        go_quiet (fail)
        go_wp2
        go_ret
        exact ⟨false, rfl, by simpa using HBAD.out, by rw [HW.out, World.drewN_drewN]; exact bel_drewN (Below.refl _ _) _⟩
      · have HM := Lib.hid (srt_more HX.out HY.out HS.out (by simpa using hq))
        go_wp2_with fail
        go_quiet (fail)
        go_wp2
        exact ⟨⟨k + 1, d + nq, by omega, by simp, HM.out, by rw [HW.out, World.drewN_drewN]⟩, by simp [intOf]; omega⟩
    · have i1 : ¬ (k : Int) + 1 < (n : Int) := by omega
      have e : xs.take (k + 1) = xs := List.take_of_length_le (by rw [HL.out]; omega)
      have hs := HS.out
      rw [e] at hs
      have HS2 := Lib.hid hs
      clear e hs
      go_wp2
      go_ret
      exact ⟨true, rfl, by simpa using HS2.out, by rw [HW.out]; exact bel_drewN (Below.refl _ _) d⟩
/-- A list in new memory, with room that is known. -/
def NewRowS (w : World) (xs : List TT) (e : Ending) (w' : World) : Prop := ∃ g c, e = .returned (.slice (some ⟨g, 0, none⟩) xs.length c) ∧ RdT w' (some ⟨g, 0, none⟩) xs ∧ xs.length ≤ c ∧ c ≤ maxLen ∧ Below w.heap.size w w'
theorem cls_drop (xs : List TT) (m : Nat) : cls (xs.drop m) = (cls xs).drop (m * 2) := by
  induction xs generalizing m with
  | nil => simp [cls]
  | cons x xs ih =>
    cases m with
    | zero => simp [cls]
    | succ m => rw [List.drop_succ_cons, cls_cons, show (m + 1) * 2 = m * 2 + 1 + 1 by omega, List.drop_succ_cons, List.drop_succ_cons, ih]
theorem rdt_drop {w : World} {b off : Nat} {xs : List TT} (h : RdT w (some ⟨b, off, none⟩) xs) (m : Nat) : RdT w (some ⟨b, off + m * 2, none⟩) (xs.drop m) := by
  show Rd w w.heap.size _ (cls (xs.drop m))
  rw [cls_drop]
  rcases h with h | ⟨b, off, hA, hlt, hc⟩
  · rw [h]; exact .inl (by simp)
  · cases hA
    refine .inr ⟨b, off + m * 2, rfl, hlt, fun j u hj => ?_⟩
    rw [List.getElem?_drop] at hj
    have := hc _ u hj
    rw [show off + m * 2 + j = off + (m * 2 + j) by omega]; exact this
theorem cls_app (a b : List TT) : cls (a ++ b) = cls a ++ cls b := by simp [cls]
theorem cls_one (xs : List TT) : ∀ u ∈ cls xs, u.oneCell' = true := by
  intro u hu
  obtain ⟨j, hj⟩ := List.mem_iff_getElem?.1 hu
  induction xs generalizing j with
  | nil => simp [cls] at hu
  | cons x xs ih =>
    rw [cls_cons] at hu hj
    match j, hj with
    | 0, hj => simp at hj; subst hj; rfl
    | 1, hj => simp at hj; subst hj; rfl
    | j + 2, hj => exact ih (List.mem_of_getElem? (by simpa using hj)) j (by simpa using hj)
theorem into_fin {w U w3 : World} {xs : List TT} {x : TT} {v3 : Value} {k n : Nat} (h1 : Below w.heap.size w U) (h2 : Below U.heap.size U w3) (hO : w3.ownsRow U.heap.size 29 2 v3 (0 + k + 1 + (n - k)) ((([] ++ cls (xs.take k)) ++ [.int .i64 x.1, .int .i64 x.2]) ++ cls (xs.drop k))) (he : xs.take k ++ x :: xs.drop k = insS xs x) (hk : k ≤ n) (hl : xs.length = n) :
    NewRowS w (insS xs x) (.returned v3) w3 := by
  have hc : ((([] ++ cls (xs.take k)) ++ [.int .i64 x.1, .int .i64 x.2]) ++ cls (xs.drop k)) = cls (insS xs x) := by
    rw [← he, cls_app, cls_cons]; simp
  rw [hc, show 0 + k + 1 + (n - k) = (insS xs x).length by rw [ins_len, hl]; omega] at hO
  obtain ⟨g, cap, rfl, _, _⟩ := hO.form (by rw [ins_len]; omega)
  obtain ⟨a, c', e, h3, h4⟩ := own_shape hO
  cases e
  exact ⟨g, cap, rfl, Rd.of_own hO (by decide), h3, h4, bel_trans h1 h2⟩
set_option maxHeartbeats 4000000 in
set_option maxRecDepth 100000 in
theorem into_any (b off : Nat) (xs : List TT) (x : TT) (n c : Nat) (w : World) (hl : xs.length = n) (hn : n ≤ 1000) (hc : n ≤ c) (hcm : c ≤ maxLen) (hA : RdT w (some ⟨b, off, none⟩) xs) (hs : Srt xs) :
    Calls Try.prog 37 #[.slice (some ⟨b, off, none⟩) n c, .agg #[.int .i64 x.1, .int .i64 x.2]] w (NewRowS w (insS xs x)) := by
  obtain ⟨i0, hi, hz0, hz1, hz2⟩ := info_parts infoE
  have hc9 : c ≤ 9223372036854775807 := Nat.le_trans hcm (by decide)
  have bV : Below w.heap.size w (w.alloc (kv x)) := bel_alloc (Below.refl _ _) _
  have HA := Lib.hid (Rd.later hA bV)
  have HL := Lib.hid hl
  have HS := Lib.hid hs
  have BV := Lib.hid bV
  have HC := Lib.hid hcm
  obtain ⟨x0, x1⟩ := x
  clear hA hl hs bV hcm
  go_enter Try.func37, Try.ntmps37
  go_wp2
  go_loopw [5] (fun iv wr => ∃ k d : Nat, k ≤ n ∧ iv = .int .i64 k ∧ (∀ j y, k ≤ j → xs[j]? = some y → x0 < y.1) ∧ wr = (w.alloc (kv (x0, x1))).drewN d) (fun i _ => (intOf i).toNat)
  case atStart => exact ⟨n, 0, Nat.le_refl _, rfl, fun j y hj hy => by have := (List.getElem?_eq_some_iff.1 hy).1; have := HL.out; omega, rfl⟩
  case round =>
    obtain ⟨k, d, hk, rfl, hp, hwr⟩ := hrel
    have HW := Lib.hid hwr
    have HP := Lib.hid hp
    clear hwr hp
    have cb0 : wr.cell? ⟨w.heap.size, 0, none⟩ = some (.int .i64 x0) := by rw [HW.out]; simp [go_sem]
    have cb1 : wr.cell? ⟨w.heap.size, 1, none⟩ = some (.int .i64 x1) := by rw [HW.out]; simp [go_sem]
    have hwr : Below (w.alloc (kv (x0, x1))).heap.size (w.alloc (kv (x0, x1))) wr := by rw [HW.out]; exact bel_drewN (Below.refl _ _) _
    have hb : ∀ (hcut : k = 0 ∨ ∃ y, xs[k - 1]? = some y ∧ y.1 ≤ x0), xs.take k ++ (x0, x1) :: xs.drop k = insS xs (x0, x1) := fun hcut => cut_ins HS.out (by rw [HL.out]; exact hk) HP.out hcut
    have HCUT := Lib.hid hb
    clear hb
    have HWR := Lib.hid hwr
    have LT : w.heap.size < wr.heap.size := by have := hwr.size; simp at this; omega
    clear hwr
    rcases Nat.eq_zero_or_pos k with rfl | hpos
    · have E := Lib.hid (HCUT.out (.inl rfl))
      go_wp2_with fail
      go_quiet (fail)
      have HVU : Hid (Below (w.alloc (kv (x0, x1))).heap.size (w.alloc (kv (x0, x1))) (wr.drewN nq)) := Lib.hid (bel_trans HWR.out (bel_drewN (Below.refl _ _) nq))
      have cu0 : (wr.drewN nq).cell? ⟨w.heap.size, 0, none⟩ = some (.int .i64 x0) := by simpa using cb0
      have cu1 : (wr.drewN nq).cell? ⟨w.heap.size, 1, none⟩ = some (.int .i64 x1) := by simpa using cb1
      have HBU := Lib.hid (bel_trans BV.out HVU.out)
      clear cb0 cb1
      generalize wr.drewN nq = U at *
      have hU : Below w.heap.size w U := HBU.out
      have RU := Lib.hid (Rd.later HA.out HVU.out)
      have oR : Hid ((U.alloc (.cells #[] 29)).ownsRow U.heap.size 29 2 (.slice (some ⟨U.heap.size, 0, none⟩) 0 0) 0 []) := Lib.hid (World.ownsRow_made U (base := U.heap.size) (e := 29) (size := 2) #[] 0 (by simp) (by simp [maxLen]) (by simp))
      have L1 : Hid ((cls (xs.take 0)).length = 0 * 2) := Lib.hid (by rw [cls_len, List.length_take, HL.out, Nat.min_eq_left hk])
      have L3 : Hid ((cls (xs.drop 0)).length = (n - 0) * 2) := Lib.hid (by have h := cls_len (xs.drop 0); rw [List.length_drop, HL.out] at h; omega)
      have N1 := Lib.hid (rd_adds (Rd.later (rdt_take RU.out 0) (bel_alloc (Below.refl _ _) (.cells #[] 29))))
      have M0 : Hid (0 + 0 ≤ maxLen) := Lib.hid (by simp only [maxLen]; omega)
      have M1 : Hid (0 + 0 + 1 ≤ maxLen) := Lib.hid (by simp only [maxLen]; omega)
      have M2 : Hid (0 + 0 + 1 + (n - 0) ≤ maxLen) := Lib.hid (by simp only [maxLen]; omega)
      have M3 : Hid ((0 + 0) * 16 ≤ 140737488355328 ∧ (0 + 0 + 1) * 16 ≤ 140737488355328 ∧ (0 + 0 + 1 + (n - 0)) * 16 ≤ 140737488355328) := Lib.hid (by omega)
      have S0 : Hid (U.heap.size ≤ (U.alloc (.cells #[] 29)).heap.size) := Lib.hid (by simp)
      have kn : (0 : Int) ≤ (n : Int) := by omega
      have kc : (0 : Int) ≤ (c : Int) := by omega
      go_wp2_with (at_builtin; refine wpList_append_own_at _ rfl (.tmp 24) (.tmp 27) 26 rfl U.heap.size 29 i0 (.agg #[.int .i64 0, .int .i64 0]) 2 16 Try.underlying26 hi hz0 hz1 hz2 rfl (by decide) (.slice (some ⟨U.heap.size, 0, none⟩) 0 0) 0 [] rfl oR.out ⟨b, off, none⟩ 0 c (cls (xs.take 0)) rfl L1.out N1.out (cls_one _) M0.out M3.out.1 S0.out ?_; intro v1 w1 hown1 hg1 hn1 ha1; have O1 := Lib.hid hown1; have hb1 : Below U.heap.size U w1 := grown_bel (bel_alloc (Below.refl _ _) (.cells #[] 29)) hg1 oR.out (Nat.le_refl _) S0.out; have B1 := Lib.hid hb1; have k0 := bel_later hb1 cu0; have k1 := bel_later hb1 cu1; have S1 : Hid (U.heap.size ≤ (w1.alloc (kv (x0, x1))).heap.size) := Lib.hid (by have := hb1.size; simp; omega); clear hown1 hg1 hn1 ha1 hb1; go_wp2_with (at_builtin; refine wpList_append_own_at _ rfl (.tmp 29) (.tmp 31) 26 rfl U.heap.size 29 i0 (.agg #[.int .i64 0, .int .i64 0]) 2 16 Try.underlying26 hi hz0 hz1 hz2 rfl (by decide) v1 (0 + 0) ([] ++ cls (xs.take 0)) rfl (O1.out.alloc _) ⟨w1.heap.size, 0, none⟩ 1 1 [.int .i64 x0, .int .i64 x1] rfl rfl (kv_new w1 (x0, x1)) (by simp [Value.oneCell']) M1.out M3.out.2.1 S1.out ?_; intro v2 w2 hown2 hg2 hn2 ha2; have O2 := Lib.hid hown2; have B2 : Hid (Below U.heap.size U w2) := Lib.hid (grown_bel (bel_trans B1.out (bel_alloc (Below.refl _ _) (kv (x0, x1)))) hg2 (O1.out.alloc _) (Nat.le_refl _) S1.out); clear hown2 hg2 hn2 ha2 k0 k1; have N3 := Lib.hid ((fun W' hb => rd_adds (Rd.later RU.out hb)) w2 B2.out); have S2 : Hid (U.heap.size ≤ w2.heap.size) := Lib.hid B2.out.size; go_wp2_with (at_builtin; refine wpList_append_own_at _ rfl (.tmp 33) (.tmp 36) 26 rfl U.heap.size 29 i0 (.agg #[.int .i64 0, .int .i64 0]) 2 16 Try.underlying26 hi hz0 hz1 hz2 rfl (by decide) v2 (0 + 0 + 1) (([] ++ cls (xs.take 0)) ++ [.int .i64 x0, .int .i64 x1]) rfl O2.out ⟨b, off, none⟩ n c (cls (xs.drop 0)) rfl L3.out N3.out (cls_one _) M2.out M3.out.2.2 S2.out ?_; intro v3 w3 hown3 hg3 hn3 ha3; have O3 := Lib.hid hown3; have B3 : Hid (Below U.heap.size U w3) := Lib.hid (grown_bel B2.out hg3 O2.out (Nat.le_refl _) S2.out); clear hown3 hg3 hn3 ha3)))
      have FIN := Lib.hid (into_fin HBU.out B3.out O3.out E.out hk HL.out)
      exact bodyPost_ret (v := v3) (by simp [results, Try.results37, go_sem]) rfl FIN.out
    · obtain ⟨q, rfl⟩ : ∃ q, k = q + 1 := ⟨k - 1, by omega⟩
      obtain ⟨y, hy⟩ : ∃ y, xs[q]? = some y := ⟨_, List.getElem?_eq_getElem (by rw [HL.out]; omega)⟩
      obtain ⟨b2, off2, e2, hlt, f0, f1⟩ := rdt_get HA.out hy
      cases e2
      have g0 : wr.cell? ⟨b, off + q * 2, none⟩ = some (.int .i64 y.1) := bel_later HWR.out f0
      have q1 : (q : Int) < (n : Int) := by omega
      have q9 : (q : Int) ≤ 1000 := by omega
      have HY := Lib.hid hy
      obtain ⟨y0, y1⟩ := y
      simp only at g0
      clear hy f0 f1 hlt
      by_cases hgo : x0 < y0
      · go_wp2_with fail
        go_quiet (fail)
        go_wp2
        refine ⟨⟨q, d + nq, by omega, by simp, fun j z hj hz => ?_, by rw [HW.out, World.drewN_drewN]⟩, by simp [intOf]⟩
        by_cases e : j = q
        · subst e; have := HY.out; rw [this] at hz; cases hz; exact hgo
        · exact HP.out j z (by omega) hz
      · have E := Lib.hid (HCUT.out (.inr ⟨(y0, y1), HY.out, by simpa using hgo⟩))
        go_wp2_with fail
        go_quiet (fail)
        have HVU : Hid (Below (w.alloc (kv (x0, x1))).heap.size (w.alloc (kv (x0, x1))) (wr.drewN nq)) := Lib.hid (bel_trans HWR.out (bel_drewN (Below.refl _ _) nq))
        have cu0 : (wr.drewN nq).cell? ⟨w.heap.size, 0, none⟩ = some (.int .i64 x0) := by simpa using cb0
        have cu1 : (wr.drewN nq).cell? ⟨w.heap.size, 1, none⟩ = some (.int .i64 x1) := by simpa using cb1
        have HBU := Lib.hid (bel_trans BV.out HVU.out)
        clear cb0 cb1 g0
        generalize wr.drewN nq = U at *
        by_cases hqc : q + 1 = c
        · subst hqc
          obtain rfl : n = q + 1 := by omega
          have hU : Below w.heap.size w U := HBU.out
          have RU := Lib.hid (Rd.later HA.out HVU.out)
          have oR : Hid ((U.alloc (.cells #[] 29)).ownsRow U.heap.size 29 2 (.slice (some ⟨U.heap.size, 0, none⟩) 0 0) 0 []) := Lib.hid (World.ownsRow_made U (base := U.heap.size) (e := 29) (size := 2) #[] 0 (by simp) (by simp [maxLen]) (by simp))
          have L1 : Hid ((cls (xs.take (q + 1))).length = (q + 1) * 2) := Lib.hid (by rw [cls_len, List.length_take, HL.out, Nat.min_eq_left hk])
          have L3 : Hid ((cls (xs.drop (q + 1))).length = 0 * 2) := Lib.hid (by have h := cls_len (xs.drop (q + 1)); rw [List.length_drop, HL.out] at h; omega)
          have N1 := Lib.hid (rd_adds (Rd.later (rdt_take RU.out (q + 1)) (bel_alloc (Below.refl _ _) (.cells #[] 29))))
          have M0 : Hid (0 + (q + 1) ≤ maxLen) := Lib.hid (by simp only [maxLen]; omega)
          have M1 : Hid (0 + (q + 1) + 1 ≤ maxLen) := Lib.hid (by simp only [maxLen]; omega)
          have M2 : Hid (0 + (q + 1) + 1 + 0 ≤ maxLen) := Lib.hid (by simp only [maxLen]; omega)
          have M3 : Hid ((0 + (q + 1)) * 16 ≤ 140737488355328 ∧ (0 + (q + 1) + 1) * 16 ≤ 140737488355328 ∧ (0 + (q + 1) + 1 + 0) * 16 ≤ 140737488355328) := Lib.hid (by omega)
          have S0 : Hid (U.heap.size ≤ (U.alloc (.cells #[] 29)).heap.size) := Lib.hid (by simp)
          go_wp2_with (at_builtin; refine wpList_append_own_at _ rfl (.tmp 24) (.tmp 27) 26 rfl U.heap.size 29 i0 (.agg #[.int .i64 0, .int .i64 0]) 2 16 Try.underlying26 hi hz0 hz1 hz2 rfl (by decide) (.slice (some ⟨U.heap.size, 0, none⟩) 0 0) 0 [] rfl oR.out ⟨b, off, none⟩ (q + 1) (q + 1) (cls (xs.take (q + 1))) rfl L1.out N1.out (cls_one _) M0.out M3.out.1 S0.out ?_; intro v1 w1 hown1 hg1 hn1 ha1; have O1 := Lib.hid hown1; have hb1 : Below U.heap.size U w1 := grown_bel (bel_alloc (Below.refl _ _) (.cells #[] 29)) hg1 oR.out (Nat.le_refl _) S0.out; have B1 := Lib.hid hb1; have k0 := bel_later hb1 cu0; have k1 := bel_later hb1 cu1; have S1 : Hid (U.heap.size ≤ (w1.alloc (kv (x0, x1))).heap.size) := Lib.hid (by have := hb1.size; simp; omega); clear hown1 hg1 hn1 ha1 hb1; go_wp2_with (at_builtin; refine wpList_append_own_at _ rfl (.tmp 29) (.tmp 31) 26 rfl U.heap.size 29 i0 (.agg #[.int .i64 0, .int .i64 0]) 2 16 Try.underlying26 hi hz0 hz1 hz2 rfl (by decide) v1 (0 + (q + 1)) ([] ++ cls (xs.take (q + 1))) rfl (O1.out.alloc _) ⟨w1.heap.size, 0, none⟩ 1 1 [.int .i64 x0, .int .i64 x1] rfl rfl (kv_new w1 (x0, x1)) (by simp [Value.oneCell']) M1.out M3.out.2.1 S1.out ?_; intro v2 w2 hown2 hg2 hn2 ha2; have O2 := Lib.hid hown2; have B2 : Hid (Below U.heap.size U w2) := Lib.hid (grown_bel (bel_trans B1.out (bel_alloc (Below.refl _ _) (kv (x0, x1)))) hg2 (O1.out.alloc _) (Nat.le_refl _) S1.out); clear hown2 hg2 hn2 ha2 k0 k1; have N3 := Lib.hid ((show ∀ (W' : World), Below U.heap.size U W' → ∀ (j : Nat) (u : Value), (cls (xs.drop (q + 1)))[j]? = some u → W'.cell? ((⟨b, off, none⟩ : Addr).add j) = some u from fun W' hb => by rw [List.drop_eq_nil_of_le (by rw [HL.out]; omega)]; intro j u h; simp [cls] at h) w2 B2.out); have S2 : Hid (U.heap.size ≤ w2.heap.size) := Lib.hid B2.out.size; go_wp2_with (at_builtin; refine wpList_append_own_at _ rfl (.tmp 33) (.tmp 36) 26 rfl U.heap.size 29 i0 (.agg #[.int .i64 0, .int .i64 0]) 2 16 Try.underlying26 hi hz0 hz1 hz2 rfl (by decide) v2 (0 + (q + 1) + 1) (([] ++ cls (xs.take (q + 1))) ++ [.int .i64 x0, .int .i64 x1]) rfl O2.out ⟨b, off, none⟩ 0 0 (cls (xs.drop (q + 1))) rfl L3.out N3.out (cls_one _) M2.out M3.out.2.2 S2.out ?_; intro v3 w3 hown3 hg3 hn3 ha3; have O3 := Lib.hid hown3; have B3 : Hid (Below U.heap.size U w3) := Lib.hid (grown_bel B2.out hg3 O2.out (Nat.le_refl _) S2.out); clear hown3 hg3 hn3 ha3)))
          have FIN := Lib.hid (into_fin HBU.out B3.out (by have h := O3.out; rw [Nat.sub_self]; exact h) E.out hk HL.out)
          exact bodyPost_ret (v := v3) (by simp [results, Try.results37, go_sem]) rfl FIN.out
        · have kcc : (q : Int) + 1 < (c : Int) := by omega
          have hU : Below w.heap.size w U := HBU.out
          have RU := Lib.hid (Rd.later HA.out HVU.out)
          have oR : Hid ((U.alloc (.cells #[] 29)).ownsRow U.heap.size 29 2 (.slice (some ⟨U.heap.size, 0, none⟩) 0 0) 0 []) := Lib.hid (World.ownsRow_made U (base := U.heap.size) (e := 29) (size := 2) #[] 0 (by simp) (by simp [maxLen]) (by simp))
          have L1 : Hid ((cls (xs.take (q + 1))).length = (q + 1) * 2) := Lib.hid (by rw [cls_len, List.length_take, HL.out, Nat.min_eq_left hk])
          have L3 : Hid ((cls (xs.drop (q + 1))).length = (n - (q + 1)) * 2) := Lib.hid (by have h := cls_len (xs.drop (q + 1)); rw [List.length_drop, HL.out] at h; omega)
          have N1 := Lib.hid (rd_adds (Rd.later (rdt_take RU.out (q + 1)) (bel_alloc (Below.refl _ _) (.cells #[] 29))))
          have M0 : Hid (0 + (q + 1) ≤ maxLen) := Lib.hid (by simp only [maxLen]; omega)
          have M1 : Hid (0 + (q + 1) + 1 ≤ maxLen) := Lib.hid (by simp only [maxLen]; omega)
          have M2 : Hid (0 + (q + 1) + 1 + (n - (q + 1)) ≤ maxLen) := Lib.hid (by simp only [maxLen]; omega)
          have M3 : Hid ((0 + (q + 1)) * 16 ≤ 140737488355328 ∧ (0 + (q + 1) + 1) * 16 ≤ 140737488355328 ∧ (0 + (q + 1) + 1 + (n - (q + 1))) * 16 ≤ 140737488355328) := Lib.hid (by omega)
          have S0 : Hid (U.heap.size ≤ (U.alloc (.cells #[] 29)).heap.size) := Lib.hid (by simp)
          have kn : (q + 1 : Int) ≤ (n : Int) := by omega
          have kc : (q + 1 : Int) ≤ (c : Int) := by omega
          go_wp2_with (at_builtin; refine wpList_append_own_at _ rfl (.tmp 24) (.tmp 27) 26 rfl U.heap.size 29 i0 (.agg #[.int .i64 0, .int .i64 0]) 2 16 Try.underlying26 hi hz0 hz1 hz2 rfl (by decide) (.slice (some ⟨U.heap.size, 0, none⟩) 0 0) 0 [] rfl oR.out ⟨b, off, none⟩ (q + 1) c (cls (xs.take (q + 1))) rfl L1.out N1.out (cls_one _) M0.out M3.out.1 S0.out ?_; intro v1 w1 hown1 hg1 hn1 ha1; have O1 := Lib.hid hown1; have hb1 : Below U.heap.size U w1 := grown_bel (bel_alloc (Below.refl _ _) (.cells #[] 29)) hg1 oR.out (Nat.le_refl _) S0.out; have B1 := Lib.hid hb1; have k0 := bel_later hb1 cu0; have k1 := bel_later hb1 cu1; have S1 : Hid (U.heap.size ≤ (w1.alloc (kv (x0, x1))).heap.size) := Lib.hid (by have := hb1.size; simp; omega); clear hown1 hg1 hn1 ha1 hb1; go_wp2_with (at_builtin; refine wpList_append_own_at _ rfl (.tmp 29) (.tmp 31) 26 rfl U.heap.size 29 i0 (.agg #[.int .i64 0, .int .i64 0]) 2 16 Try.underlying26 hi hz0 hz1 hz2 rfl (by decide) v1 (0 + (q + 1)) ([] ++ cls (xs.take (q + 1))) rfl (O1.out.alloc _) ⟨w1.heap.size, 0, none⟩ 1 1 [.int .i64 x0, .int .i64 x1] rfl rfl (kv_new w1 (x0, x1)) (by simp [Value.oneCell']) M1.out M3.out.2.1 S1.out ?_; intro v2 w2 hown2 hg2 hn2 ha2; have O2 := Lib.hid hown2; have B2 : Hid (Below U.heap.size U w2) := Lib.hid (grown_bel (bel_trans B1.out (bel_alloc (Below.refl _ _) (kv (x0, x1)))) hg2 (O1.out.alloc _) (Nat.le_refl _) S1.out); clear hown2 hg2 hn2 ha2 k0 k1; have N3 := Lib.hid ((fun W' hb => rd_adds (Rd.later (rdt_drop RU.out (q + 1)) hb)) w2 B2.out); have S2 : Hid (U.heap.size ≤ w2.heap.size) := Lib.hid B2.out.size; go_wp2_with (at_builtin; refine wpList_append_own_at _ rfl (.tmp 33) (.tmp 36) 26 rfl U.heap.size 29 i0 (.agg #[.int .i64 0, .int .i64 0]) 2 16 Try.underlying26 hi hz0 hz1 hz2 rfl (by decide) v2 (0 + (q + 1) + 1) (([] ++ cls (xs.take (q + 1))) ++ [.int .i64 x0, .int .i64 x1]) rfl O2.out ⟨b, off + (q + 1) * 2, none⟩ (n - (q + 1)) (c - (q + 1)) (cls (xs.drop (q + 1))) rfl L3.out N3.out (cls_one _) M2.out M3.out.2.2 S2.out ?_; intro v3 w3 hown3 hg3 hn3 ha3; have O3 := Lib.hid hown3; have B3 : Hid (Below U.heap.size U w3) := Lib.hid (grown_bel B2.out hg3 O2.out (Nat.le_refl _) S2.out); clear hown3 hg3 hn3 ha3)))
          have FIN := Lib.hid (into_fin HBU.out B3.out O3.out E.out hk HL.out)
          exact bodyPost_ret (v := v3) (by simp [results, Try.results37, go_sem]) rfl FIN.out
end Go.Proofs.Ytpijaphcknoobaa
