/- Texts of the proof, one behind the other. -/
import Derived.Test.YtelpkajlejbbgaaGreatDoorTt04
import Derived.Test.YtelpkajlejbbgaaGreatDoorTt03
set_option linter.unusedVariables false
set_option linter.unusedSimpArgs false
namespace Go.Proofs.YtelpkajlejbbgaaGreatDoor
open Go.RowKit Go.Maps
theorem hset {w : World} {g i : Nat} {cs : Array Value} {t : TypeId} {fr : Nat × Nat} (h : w.heap[g]? = some (.cells cs t fr)) (v : Value) : (w.setCell ⟨g, i, none⟩ v).heap[g]? = some (.cells (cs.setIfInBounds i v) t fr) := by
  simp [World.setCell, Array.getElem?_modify, h]
theorem cellh {w : World} {g i : Nat} {cs : Array Value} {t : TypeId} {fr : Nat × Nat} (h : w.heap[g]? = some (.cells cs t fr)) {v : Value} (hv : cs[i]? = some v) : w.cell? ⟨g, i, none⟩ = some v := by
  simp [World.cell?, h, hv]
theorem froh {w : World} {g i : Nat} {cs : Array Value} {t : TypeId} (h : w.heap[g]? = some (.cells cs t (0, 0))) : w.frozen? ⟨g, i, none⟩ = false := by
  simp [World.frozen?, h]
theorem heap_lt {w : World} {g : Nat} {o : Obj} (h : w.heap[g]? = some o) : g < w.heap.size := by
  rcases Nat.lt_or_ge g w.heap.size with h' | h'
  · exact h'
  · simp [Array.getElem?_eq_none h'] at h
theorem set6w {w : World} {g : Nat} {t : TypeId} {a b c d e f : Value} (h : w.heap[g]? = some (.cells #[a, b, c, d, e, f] t (0, 0))) (a' b' c' d' e' f' : Value) : ((((((w.setCell ⟨g, 0, none⟩ a').setCell ⟨g, 1, none⟩ b').setCell ⟨g, 2, none⟩ c').setCell ⟨g, 3, none⟩ d').setCell ⟨g, 4, none⟩ e').setCell ⟨g, 5, none⟩ f').heap[g]? = some (.cells #[a', b', c', d', e', f'] t (0, 0)) :=
  hset (hset (hset (hset (hset (hset h a') b') c') d') e') f'
theorem set5w {w : World} {g : Nat} {t : TypeId} {a b c d e : Value} (h : w.heap[g]? = some (.cells #[a, b, c, d, e] t (0, 0))) (a' b' c' d' e' : Value) : (((((w.setCell ⟨g, 0, none⟩ a').setCell ⟨g, 1, none⟩ b').setCell ⟨g, 2, none⟩ c').setCell ⟨g, 3, none⟩ d').setCell ⟨g, 4, none⟩ e').heap[g]? = some (.cells #[a', b', c', d', e'] t (0, 0)) :=
  hset (hset (hset (hset (hset h a') b') c') d') e'
theorem chg_set {D : Nat → Prop} {w w' : World} {g i : Nat} (h : Chg D w w') (v : Value) (hg : D g) : Chg D w (w'.setCell ⟨g, i, none⟩ v) := h.then (Chg.set _ _ hg)
theorem chg_one {g i : Nat} {w w' : World} (h : Chg (fun x => x = g) w w') (v : Value) : Chg (fun x => x = g) w (w'.setCell ⟨g, i, none⟩ v) := h.then (Chg.set _ _ rfl)
theorem chg6 (w : World) (g : Nat) (a' b' c' d' e' f' : Value) : Chg (fun x => x = g) w ((((((w.setCell ⟨g, 0, none⟩ a').setCell ⟨g, 1, none⟩ b').setCell ⟨g, 2, none⟩ c').setCell ⟨g, 3, none⟩ d').setCell ⟨g, 4, none⟩ e').setCell ⟨g, 5, none⟩ f') :=
  chg_one (chg_one (chg_one (chg_one (chg_one (chg_one (Chg.refl _ _) _) _) _) _) _) _
theorem chg5 (w : World) (g : Nat) (a' b' c' d' e' : Value) : Chg (fun x => x = g) w (((((w.setCell ⟨g, 0, none⟩ a').setCell ⟨g, 1, none⟩ b').setCell ⟨g, 2, none⟩ c').setCell ⟨g, 3, none⟩ d').setCell ⟨g, 4, none⟩ e') :=
  chg_one (chg_one (chg_one (chg_one (chg_one (Chg.refl _ _) _) _) _) _) _
theorem cells6 {w : World} {g : Nat} {t : TypeId} {a b c d e f : Value} (h : w.heap[g]? = some (.cells #[a, b, c, d, e, f] t (0, 0))) : w.cell? ⟨g, 0, none⟩ = some a ∧ w.cell? ⟨g, 1, none⟩ = some b ∧ w.cell? ⟨g, 2, none⟩ = some c ∧ w.cell? ⟨g, 3, none⟩ = some d ∧ w.cell? ⟨g, 4, none⟩ = some e ∧ w.cell? ⟨g, 5, none⟩ = some f :=
  ⟨cellh h rfl, cellh h rfl, cellh h rfl, cellh h rfl, cellh h rfl, cellh h rfl⟩
theorem cells5 {w : World} {g : Nat} {t : TypeId} {a b c d e : Value} (h : w.heap[g]? = some (.cells #[a, b, c, d, e] t (0, 0))) : w.cell? ⟨g, 0, none⟩ = some a ∧ w.cell? ⟨g, 1, none⟩ = some b ∧ w.cell? ⟨g, 2, none⟩ = some c ∧ w.cell? ⟨g, 3, none⟩ = some d ∧ w.cell? ⟨g, 4, none⟩ = some e :=
  ⟨cellh h rfl, cellh h rfl, cellh h rfl, cellh h rfl, cellh h rfl⟩
theorem froz6 {w : World} {g : Nat} {t : TypeId} {a b c d e f : Value} (h : w.heap[g]? = some (.cells #[a, b, c, d, e, f] t (0, 0))) : w.frozen? ⟨g, 0, none⟩ = false ∧ w.frozen? ⟨g, 1, none⟩ = false ∧ w.frozen? ⟨g, 2, none⟩ = false ∧ w.frozen? ⟨g, 3, none⟩ = false ∧ w.frozen? ⟨g, 4, none⟩ = false ∧ w.frozen? ⟨g, 5, none⟩ = false :=
  ⟨froh h, froh h, froh h, froh h, froh h, froh h⟩
theorem froz5 {w : World} {g : Nat} {t : TypeId} {a b c d e : Value} (h : w.heap[g]? = some (.cells #[a, b, c, d, e] t (0, 0))) : w.frozen? ⟨g, 0, none⟩ = false ∧ w.frozen? ⟨g, 1, none⟩ = false ∧ w.frozen? ⟨g, 2, none⟩ = false ∧ w.frozen? ⟨g, 3, none⟩ = false ∧ w.frozen? ⟨g, 4, none⟩ = false :=
  ⟨froh h, froh h, froh h, froh h, froh h⟩
def isB (ws : List ByteArray) (x : ByteArray) (m : Nat) : Bool := decide (ws[0]? = some x) && decide (ws.length = m + 1)
theorem isB_true {ws : List ByteArray} {x : ByteArray} {m : Nat} (h : isB ws x m = true) : ws[0]? = some x ∧ ws.length = m + 1 := by
  unfold isB at h
  simpa using h
theorem isB_other {ws : List ByteArray} {x y : ByteArray} {m k : Nat} (h : isB ws x m = true) (hne : x ≠ y) : isB ws y k = false := by
  have h1 := (isB_true h).1
  unfold isB
  rw [h1]
  simp [hne]
def wdA (ws : List ByteArray) (i : Nat) : ByteArray := (ws[i]?).getD ⟨#[]⟩
theorem wd_at {ws : List ByteArray} {i : Nat} (h : i < ws.length) : ws[i]? = some (wdA ws i) := by
  unfold wdA; rw [List.getElem?_eq_getElem h]; rfl
theorem wd_cell {w : World} {b : Nat} {ws : List ByteArray} (h : ES.Rd w (some ⟨b, 0, none⟩) ws) {i : Nat} (hi : i < ws.length) : w.cell? ⟨b, i, none⟩ = some (.string (wdA ws i)) := by
  obtain ⟨b', off, e, _, h2⟩ := es_at h (wd_at hi)
  cases e
  rw [Nat.zero_add] at h2; exact h2
theorem rd_lt {w : World} {b : Nat} {ws : List ByteArray} (h : ES.Rd w (some ⟨b, 0, none⟩) ws) (hi : 0 < ws.length) : b < w.heap.size := by
  obtain ⟨b', off, e, h1, _⟩ := es_at h (wd_at hi)
  cases e; exact h1
set_option maxHeartbeats 400000 in
set_option maxRecDepth 100000 in
theorem is76 (x : ByteArray) (m : Nat) (M : Int) (hM : M = (m : Int)) (bx b n : Nat) (ws : List ByteArray) (w : World) (hm : m ≤ 10) (hn : ws.length = n) (h0 : 0 < n) (hn2 : n ≤ 4000000) (hb : w.cell? ⟨bx, 0, none⟩ = some (.slice (some ⟨b, 0, none⟩) n n)) (h : ES.Rd w (some ⟨b, 0, none⟩) ws) :
    Calls Tryz.prog 76 #[.string x, .int .i64 M, .pointer (some ⟨bx, 0, none⟩)] w fun e w' => e = .returned (.bool (isB ws x m)) ∧ w = w' := by
  subst hM
  have c0 := wd_cell h (i := 0) (by omega)
  have k0 : (0 : Int) < (n : Int) := by omega
  have wm : IntKind.i64.wrap ((m : Int) + 1) = (m : Int) + 1 := IntWalk.i64_in _ (by omega)
  have hw0 := wd_at (ws := ws) (i := 0) (by omega)
  obtain ⟨y, hy⟩ : ∃ y, wdA ws 0 = y := ⟨_, rfl⟩
  rw [hy] at c0 hw0
  have HI : Hid (isB ws x m = (decide (y = x) && decide (n = m + 1))) := Lib.hid (by unfold isB; rw [hw0, hn]; simp)
  by_cases hyx : y = x
  · have d0 : (y.toList == x.toList) = true := bytes_eq hyx
    have d1 : ((n : Int) == (m : Int) + 1) = decide (n = m + 1) := by
      by_cases e : n = m + 1
      · simp [e]
      · have : ¬ (n : Int) = (m : Int) + 1 := by omega
        simp [e, this]
    have HY := Lib.hid hyx
    clear hy hw0 h hn
    go_enter Tryz.func76, Tryz.ntmps76
    go_wp2
    go_ret
    refine ⟨?_, rfl⟩
    rw [HI.out]
    simp [HY.out]
  · have d0 : (y.toList == x.toList) = false := bytes_ne hyx
    have HY := Lib.hid hyx
    clear hy hw0 h hn
    go_enter Tryz.func76, Tryz.ntmps76
    go_wp2
    go_ret
    refine ⟨?_, rfl⟩
    rw [HI.out]
    simp [HY.out]
set_option maxHeartbeats 400000 in
set_option maxRecDepth 100000 in
theorem is101 (x : ByteArray) (m : Nat) (M : Int) (hM : M = (m : Int)) (bx b n : Nat) (ws : List ByteArray) (w : World) (hm : m ≤ 10) (hn : ws.length = n) (h0 : 0 < n) (hn2 : n ≤ 4000000) (hb : w.cell? ⟨bx, 0, none⟩ = some (.slice (some ⟨b, 0, none⟩) n n)) (h : ES.Rd w (some ⟨b, 0, none⟩) ws) :
    Calls Tryz.prog 101 #[.string x, .int .i64 M, .pointer (some ⟨bx, 0, none⟩)] w fun e w' => e = .returned (.bool (isB ws x m)) ∧ w = w' := by
  subst hM
  have c0 := wd_cell h (i := 0) (by omega)
  have k0 : (0 : Int) < (n : Int) := by omega
  have wm : IntKind.i64.wrap ((m : Int) + 1) = (m : Int) + 1 := IntWalk.i64_in _ (by omega)
  have hw0 := wd_at (ws := ws) (i := 0) (by omega)
  obtain ⟨y, hy⟩ : ∃ y, wdA ws 0 = y := ⟨_, rfl⟩
  rw [hy] at c0 hw0
  have HI : Hid (isB ws x m = (decide (y = x) && decide (n = m + 1))) := Lib.hid (by unfold isB; rw [hw0, hn]; simp)
  by_cases hyx : y = x
  · have d0 : (y.toList == x.toList) = true := bytes_eq hyx
    have d1 : ((n : Int) == (m : Int) + 1) = decide (n = m + 1) := by
      by_cases e : n = m + 1
      · simp [e]
      · have : ¬ (n : Int) = (m : Int) + 1 := by omega
        simp [e, this]
    have HY := Lib.hid hyx
    clear hy hw0 h hn
    go_enter Tryz.func101, Tryz.ntmps101
    go_wp2
    go_ret
    refine ⟨?_, rfl⟩
    rw [HI.out]
    simp [HY.out]
  · have d0 : (y.toList == x.toList) = false := bytes_ne hyx
    have HY := Lib.hid hyx
    clear hy hw0 h hn
    go_enter Tryz.func101, Tryz.ntmps101
    go_wp2
    go_ret
    refine ⟨?_, rfl⟩
    rw [HI.out]
    simp [HY.out]
end Go.Proofs.YtelpkajlejbbgaaGreatDoor
namespace Go.Proofs.YtelpkajlejbbgaaGreatDoor
open Go.RowKit Go.Maps
set_option maxHeartbeats 400000 in
set_option maxRecDepth 100000 in
theorem rfrom_short (t : ByteArray) (h : t = ⟨#[45]⟩ ∨ t = ⟨#[]⟩ ∨ t.size % 2 = 1) (ht : t.size ≤ 1000000) (w : World) :
    Calls Tryz.prog 18 #[.string t] w fun e w' => e = .returned (txtV t) ∧ Below w.heap.size w w' := by
  by_cases h1 : t = ⟨#[45]⟩
  · subst h1
    rw [txt_minus]
    have e1 : ((⟨#[45]⟩ : ByteArray).toList == (⟨#[45]⟩ : ByteArray).toList) = true := bytes_eq rfl
    go_enter Tryz.func18, Tryz.ntmps18
    go_wp2
    refine bodyPost_ret (v := .tuple #[.string ⟨#[]⟩, .int .i64 0]) (by simp [results, Tryz.results18, go_sem]) rfl ⟨rfl, Below.refl _ _⟩
  · have e1 : (t.toList == [45]) = false := lit_ne (fun e => h1 (ba_inj e))
    have HV : Hid (txtV t = .tuple #[.string ⟨#[]⟩, .int .i64 3]) := Lib.hid (by
      unfold txtV
      have : txtB t = none := by
        rcases h with h | h | h
        · exact absurd h h1
        · subst h; decide +kernel
        · by_cases h2 : t = ⟨#[]⟩
          · subst h2; decide +kernel
          · rw [txt_form h1 h2, unP_odd _ _ (Nat.le_refl _) (by rw [ba_len]; exact h)]; rfl
      rw [this])
    by_cases h2 : t = ⟨#[]⟩
    · have e3 : t.size = 0 := by subst h2; rfl
      clear h h1 h2
      go_enter Tryz.func18, Tryz.ntmps18
      go_wp2
      all_goals
        refine bodyPost_ret (v := .tuple #[.string ⟨#[]⟩, .int .i64 3]) (by simp [results, Tryz.results18, go_sem]) rfl ⟨by rw [HV.out], Below.refl _ _⟩
    · have e3 : (t.size : Int).tmod 2 = 1 := by
        rcases h with h | h | h
        · exact absurd h h1
        · exact absurd h h2
        · rw [Int.tmod_eq_emod_of_nonneg (by omega)]; omega
      clear h h1 h2
      go_enter Tryz.func18, Tryz.ntmps18
      go_wp2
      all_goals
        first
        | (refine bodyPost_ret (v := .tuple #[.string ⟨#[]⟩, .int .i64 3]) (by simp [results, Tryz.results18, go_sem]) rfl ⟨by rw [HV.out], Below.refl _ _⟩)
        | (exfalso; omega)
set_option maxHeartbeats 2000000 in
set_option maxRecDepth 100000 in
theorem rfrom_long (t : ByteArray) (h1 : t ≠ ⟨#[45]⟩) (h2 : t ≠ ⟨#[]⟩) (m : Nat) (h3 : t.size = 2 * m) (ht : t.size ≤ 1000000) (w : World) :
    Calls Tryz.prog 18 #[.string t] w fun e w' => e = .returned (txtV t) ∧ Below w.heap.size w w' := by
  have e1 : (t.toList == [45]) = false := lit_ne (fun e => h1 (ba_inj e))
  have HF := Lib.hid (txt_form h1 h2)
  have e3 : (t.size : Int).tmod 2 = 0 := by rw [Int.tmod_eq_emod_of_nonneg (by omega)]; omega
  have e4 : ¬ t.size = 0 := fun e => h2 (ba_inj (List.eq_nil_of_length_eq_zero (by rw [ba_len]; exact e)))
  have e5 : ¬ (t.size : Int) = 0 := by omega
  obtain ⟨v, hv⟩ : ∃ v, txtV t = v := ⟨_, rfl⟩
  rw [hv]
  have HV := Lib.hid hv
  have HM := Lib.hid (And.intro h3 ht)
  clear h1 h2 h3 ht hv
  go_enter Tryz.func18, Tryz.ntmps18
  go_upto_region 7 with fail
  go_loopw [4, 5] (fun bv iv wr => ∃ (j k : Nat) (l : List UInt8), k = 2 * j ∧ j ≤ m ∧ iv = .int .i64 k ∧ Hid (bv = .string ⟨l.toArray⟩) ∧ Hid (l.length = j) ∧ Hid (unP (t.data.toList.take k) = some l) ∧ Below w.heap.size w wr) (fun _ iv _ => t.size - (intOf iv).toNat)
  case atStart => exact ⟨0, 0, [], rfl, by omega, rfl, Lib.hid rfl, Lib.hid rfl, Lib.hid rfl, Below.refl _ w⟩
  case round =>
    obtain ⟨j, k, l, hk, hj, rfl, HBV, HL, HP, hb⟩ := hrel
    obtain ⟨O, hO⟩ : ∃ O : ByteArray, O = ⟨l.toArray⟩ := ⟨_, rfl⟩
    rw [← hO] at HBV
    (have hbv := HBV.out; subst hbv; clear HBV)
    have HO := Lib.hid hO
    have HB := Lib.hid hb
    clear hb hO
    have hM := HM.out
    have HKJ := Lib.hid hk
    by_cases h8 : k < t.size
    · have h9 : k + 1 < t.size := by omega
      have hk1 : (k : Int) < (t.size : Int) := by omega
      have hk2 : (k : Int) + 1 < (t.size : Int) := by omega
      have hk0 : (0 : Int) ≤ (k : Int) := by omega
      have hk3 : (0 : Int) ≤ (k : Int) + 1 := by omega
      have WK : IntKind.i64.wrap ((k : Int) + 1) = (k : Int) + 1 := IntWalk.i64_in _ (by omega)
      have WK2 : IntKind.i64.wrap ((k : Int) + 2) = (k : Int) + 2 := IntWalk.i64_in _ (by omega)
      obtain ⟨x, hx⟩ : ∃ x, t.data.toList[k]? = some x := ⟨_, List.getElem?_eq_getElem (by rw [ba_len]; exact h8)⟩
      obtain ⟨y, hy⟩ : ∃ y, t.data.toList[k + 1]? = some y := ⟨_, List.getElem?_eq_getElem (by rw [ba_len]; exact h9)⟩
      have hx2 : t[k]'h8 = x := by
        have q := (List.getElem?_eq_some_iff.1 hx).2
        rw [← q]; rfl
      have hy2 : t[k + 1]'h9 = y := by
        have q := (List.getElem?_eq_some_iff.1 hy).2
        rw [← q]; rfl
      have ht2 : t.data.toList = t.data.toList.take k ++ x :: y :: t.data.toList.drop (k + 2) := by
        have a1 := List.take_append_drop k t.data.toList
        have a2 : t.data.toList.drop k = x :: y :: t.data.toList.drop (k + 2) := by
          obtain ⟨p1, p2⟩ := List.getElem?_eq_some_iff.1 hx
          obtain ⟨q1, q2⟩ := List.getElem?_eq_some_iff.1 hy
          rw [List.drop_eq_getElem_cons p1, p2, List.drop_eq_getElem_cons q1, q2]
        rw [← a2]; exact a1.symm
      have HT2 := Lib.hid ht2
      clear hx hy ht2 hM hk
      go_upto_region 11 with (first
        | (go_at_call 44; ((with_reducible refine (value_any x _).mono ?_); rintro e w1 ⟨rfl, b1⟩; have B1 := Lib.hid (bel_trans HB.out b1); clear b1))
        | (go_at_call 44; ((with_reducible refine (value_any y _).mono ?_); rintro e w2 ⟨rfl, b1⟩; have B2 := Lib.hid (bel_trans B1.out b1); clear b1))
        | fail)
      cases hq : hexv x with
      | none =>
        have ex := ixV_none hq
        have HE : Hid (v = .tuple #[.string ⟨#[]⟩, .int .i64 3]) := Lib.hid (by
          rw [← HV.out]; unfold txtV; rw [HF.out, HT2.out, unP_app _ _ _ _ (Nat.le_refl _) HP.out, unP_bad (.inl hq)]; rfl)
        simp only [ex]
        clear hq ex
        go_wp2
        refine bodyPost_ret (v := .tuple #[.string ⟨#[]⟩, .int .i64 3]) (by simp [results, Tryz.results18, go_sem]) rfl ⟨by rw [HE.out], B2.out⟩
      | some p =>
        obtain ⟨ex, hp⟩ := ixV_some hq
        cases hr : hexv y with
        | none =>
          have ey := ixV_none hr
          have HE : Hid (v = .tuple #[.string ⟨#[]⟩, .int .i64 3]) := Lib.hid (by
            rw [← HV.out]; unfold txtV; rw [HF.out, HT2.out, unP_app _ _ _ _ (Nat.le_refl _) HP.out, unP_bad (.inr hr)]; rfl)
          simp only [ex, ey]
          clear hq ex hr ey
          go_wp2
          refine bodyPost_ret (v := .tuple #[.string ⟨#[]⟩, .int .i64 3]) (by simp [results, Tryz.results18, go_sem]) rfl ⟨by rw [HE.out], B2.out⟩
        | some q =>
          obtain ⟨ey, hq2⟩ := ixV_some hr
          have HG3 := Lib.hid (unP_good (r := []) hq hr)
          simp only [ex, ey]
          clear hq ex hr ey
          have hp0 : ¬ (p : Int) < 0 := by omega
          have hq0 : ¬ (q : Int) < 0 := by omega
          have wm : IntKind.i64.wrap ((p : Int) * 16) = (p : Int) * 16 := IntWalk.i64_in _ (by omega)
          have wa : IntKind.i64.wrap ((p : Int) * 16 + (q : Int)) = (p : Int) * 16 + (q : Int) := IntWalk.i64_in _ (by omega)
          have wu : IntKind.u8.wrap ((p : Int) * 16 + (q : Int)) = (p : Int) * 16 + (q : Int) := by show ((p : Int) * 16 + (q : Int)) % 256 = _; omega
          have wu2 : ((p : Int) * 16 + (q : Int)) % 256 = (p : Int) * 16 + (q : Int) := by omega
          obtain ⟨S, hS⟩ : ∃ S : ByteArray, S = ⟨[UInt8.ofNat (p * 16 + q)].toArray⟩ := ⟨_, rfl⟩
          have hcv : (convert 55 9 (.slice (some ⟨w2.heap.size, 0, none⟩) 1 1)).run Tryz.prog (w2.alloc (.cells #[.int .u8 ((p : Int) * 16 + (q : Int))] 5)) = .ok (.string S) (w2.alloc (.cells #[.int .u8 ((p : Int) * 16 + (q : Int))] 5)) := by
            have g := run_convert_bytes_back (P := Tryz.prog) (w2.alloc (.cells #[.int .u8 ((p : Int) * 16 + (q : Int))] 5)) 55 9 5 ⟨w2.heap.size, 0, none⟩ 1 [UInt8.ofNat (p * 16 + q)] Tryz.underlying55 Tryz.underlying5 Tryz.underlying9 (fun i hi => by
              have hi0 : i = 0 := by simpa using hi
              subst hi0
              have e : (⟨w2.heap.size, 0, none⟩ : Addr).add 0 = ⟨w2.heap.size, 0, none⟩ := by unfold Addr.add; split <;> simp_all
              rw [e]
              have z := cellh (heap_alloc_new w2 (.cells #[.int .u8 ((p : Int) * 16 + (q : Int))] 5)) (i := 0) rfl
              rw [z]
              have hbyte : ((UInt8.ofNat (p * 16 + q)).toNat : Int) = (p : Int) * 16 + (q : Int) := by rw [UInt8.toNat_ofNat']; omega
              show _ = some (Value.int .u8 ((UInt8.ofNat (p * 16 + q)).toNat : Int))
              rw [hbyte]
              rfl)
            rw [hS]
            exact g
          have hss : S.size = 1 := by rw [hS]; rfl
          have hos : O.size = j := by rw [HO.out, ba_size]; exact HL.out
          have HJ := Lib.hid (show j ≤ 1000000 by have := HM.out; omega)
          have HF2 : Hid (O ++ S = ⟨(l ++ [UInt8.ofNat (p * 16 + q)]).toArray⟩) := Lib.hid (ba_inj (by rw [ba_app, ba_list, HO.out, hS, ba_list, ba_list]))
          have hcat : ¬ 9223372036854775807 < O.size + S.size := by have := HJ.out; omega
          have BW := Lib.hid (bel_alloc B2.out (.cells #[.int .u8 ((p : Int) * 16 + (q : Int))] 5))
          clear hS hss hos
          go_wp2
          have e2j : 2 * (j + 1) = k + 2 := by have := HKJ.out; omega
          refine ⟨⟨_, _, _, _, ⟨j + 1, by have := HM.out; have := HKJ.out; omega, ?_, l ++ [UInt8.ofNat (p * 16 + q)], Lib.hid (by rw [← HF2.out]), Lib.hid (by rw [List.length_append, HL.out]; rfl), Lib.hid (by
              have e : t.data.toList.take (k + 2) = t.data.toList.take k ++ [x, y] := by
                conv => lhs; rw [HT2.out]
                have hlt : (t.data.toList.take k).length = k := by rw [List.length_take, ba_len]; omega
                rw [List.take_append, hlt, List.take_of_length_le (by rw [hlt]; omega), show k + 2 - k = 2 by omega]; rfl
              rw [e2j, e, unP_app _ _ _ _ (Nat.le_refl _) HP.out, HG3.out]; rfl), BW.out⟩, rfl, rfl, rfl, rfl⟩, by simp [intOf]; omega⟩
          congr 1
          have := HKJ.out
          omega
    · have hke : k = t.size := by omega
      have hjm : j = m := by omega
      subst hjm
      have hk1 : ¬ (k : Int) < (t.size : Int) := by omega
      have htk : t.data.toList.take k = t.data.toList := List.take_of_length_le (by rw [ba_len]; omega)
      rw [htk] at HP
      have HE : Hid (v = .tuple #[.string O, .int .i64 0]) := Lib.hid (by
        rw [← HV.out]; unfold txtV; rw [HF.out, HP.out, HO.out]; rfl)
      clear hM hk htk hke
      go_wp2
      refine bodyPost_ret (v := .tuple #[.string O, .int .i64 0]) (by simp [results, Tryz.results18, go_sem]) rfl ⟨by rw [HE.out], HB.out⟩
theorem rfrom_any (t : ByteArray) (ht : t.size ≤ 1000000) (w : World) : Calls Tryz.prog 18 #[.string t] w fun e w' => e = .returned (txtV t) ∧ Below w.heap.size w w' := by
  by_cases h1 : t = ⟨#[45]⟩
  · exact rfrom_short t (.inl h1) ht w
  · by_cases h2 : t = ⟨#[]⟩
    · exact rfrom_short t (.inr (.inl h2)) ht w
    · by_cases h3 : t.size % 2 = 1
      · exact rfrom_short t (.inr (.inr h3)) ht w
      · exact rfrom_long t h1 h2 (t.size / 2) (by omega) ht w
end Go.Proofs.YtelpkajlejbbgaaGreatDoor
namespace Go.Proofs.YtelpkajlejbbgaaGreatDoor
open Go.RowKit Go.Maps
/-- Words in a block. -/
def WB (w : World) (bw : Nat) (ws : List ByteArray) : Prop := ∃ cs, w.heap[bw]? = some (.cells cs 9 (0, 0)) ∧ ∀ (i : Nat) x, ws[i]? = some x → cs[i]? = some (.string x)
theorem WB.cell {w : World} {bw : Nat} {ws : List ByteArray} (h : WB w bw ws) {i : Nat} {x : ByteArray} (hx : ws[i]? = some x) : w.cell? ⟨bw, i, none⟩ = some (.string x) := by
  obtain ⟨cs, h1, h2⟩ := h
  exact cellh h1 (h2 i x hx)
theorem WB.lt {w : World} {bw : Nat} {ws : List ByteArray} (h : WB w bw ws) : bw < w.heap.size := by
  obtain ⟨cs, h1, h2⟩ := h
  exact heap_lt h1
theorem WB.later {w w' : World} {bw : Nat} {ws : List ByteArray} (h : WB w bw ws) (b : Below w.heap.size w w') : WB w' bw ws := by
  obtain ⟨cs, h1, h2⟩ := h
  exact ⟨cs, keep_bel b h1, h2⟩
theorem ok_keep {w w' : World} {b k : Nat} {cs : Array Value} {t : TypeId} {fz : Nat × Nat} (h : Lib.OthersKept 5 (some b) w w') (hk : w.heap[k]? = some (.cells cs t fz)) (hb : k ≠ b) (ht : t ≠ 5) : w'.heap[k]? = some (.cells cs t fz) :=
  h k _ hk (fun e => hb (Option.some.inj e)) (fun c fz' e => by cases e; exact ht rfl)
theorem WB.others {w w' : World} {b bw : Nat} {ws : List ByteArray} (h : WB w bw ws) (o : Lib.OthersKept 5 (some b) w w') (hb : bw ≠ b) : WB w' bw ws := by
  obtain ⟨cs, h1, h2⟩ := h
  exact ⟨cs, ok_keep o h1 hb (by decide), h2⟩
def lineL (ws : List ByteArray) : List UInt8 := Lib.join (ws.map (·.data.toList)) [32] ++ [10]
def partL (ws : List ByteArray) (k : Nat) : List UInt8 := Lib.join ((ws.take k).map (·.data.toList)) [32]
theorem join_snoc : ∀ (ps : List (List UInt8)) (q : List UInt8), ps ≠ [] → Lib.join (ps ++ [q]) [32] = Lib.join ps [32] ++ 32 :: q
  | [], q, h => absurd rfl h
  | [p], q, _ => by
    show Lib.join (p :: q :: []) [32] = _
    rw [join_two, Lib.join_one, Lib.join_one]
  | p :: p2 :: ps, q, _ => by
    show Lib.join (p :: p2 :: (ps ++ [q])) [32] = _
    rw [join_two, join_two]
    have ih := join_snoc (p2 :: ps) q (by simp)
    rw [show p2 :: (ps ++ [q]) = (p2 :: ps) ++ [q] from rfl, ih]
    simp
theorem part_zero (ws : List ByteArray) : partL ws 0 = [] := rfl
theorem part_one {ws : List ByteArray} {x : ByteArray} (h : ws[0]? = some x) : partL ws 1 = x.data.toList := by
  unfold partL
  have e : ws.take 1 = [x] := by rw [List.take_add_one, h]; rfl
  rw [e]
  exact Lib.join_one _ _
theorem part_next {ws : List ByteArray} {k : Nat} {x : ByteArray} (hk : 0 < k) (h : ws[k]? = some x) : partL ws (k + 1) = (partL ws k ++ [32]) ++ x.data.toList := by
  unfold partL
  have hlt := (List.getElem?_eq_some_iff.1 h).1
  rw [List.take_add_one, h]
  show Lib.join ((ws.take k ++ [x]).map _) [32] = _
  rw [List.map_append]
  show Lib.join ((ws.take k).map _ ++ [x.data.toList]) [32] = _
  have hl : ((ws.take k).map (fun x : ByteArray => x.data.toList)).length = k := by rw [List.length_map, List.length_take]; omega
  rw [join_snoc _ _ (by intro e; rw [e] at hl; simp at hl; omega)]
  simp
theorem join_len (m : Nat) : ∀ (ps : List (List UInt8)), (∀ p ∈ ps, p.length ≤ m) → (Lib.join ps [32]).length ≤ ps.length * (m + 1)
  | [], _ => by simp [Lib.join, List.intercalate]
  | [p], h => by rw [Lib.join_one]; have := h p (by simp); simp; omega
  | p :: q :: ps, h => by
    rw [join_two, List.length_append, List.length_cons]
    have h1 := h p (by simp)
    have h2 := join_len m (q :: ps) (fun y hy => h y (by simp at hy ⊢; right; exact hy))
    have e : (p :: q :: ps).length * (m + 1) = (q :: ps).length * (m + 1) + (m + 1) := by rw [List.length_cons (a := p), Nat.succ_mul]
    rw [e]
    simp only [List.length_append, List.length_cons, List.length_nil] at h2 ⊢
    omega
theorem part_len {ws : List ByteArray} {m : Nat} (h : ∀ x ∈ ws, x.size ≤ m) (k : Nat) : (partL ws k).length ≤ ws.length * (m + 1) := by
  unfold partL
  have h1 := join_len m ((ws.take k).map (·.data.toList)) (fun p hp => by
    obtain ⟨x, hx, rfl⟩ := List.mem_map.1 hp
    rw [ba_len]
    exact h x (List.mem_of_mem_take hx))
  refine Nat.le_trans h1 (Nat.mul_le_mul_right _ ?_)
  rw [List.length_map, List.length_take]
  exact Nat.min_le_right _ _
/-- What a printer's call does. -/
structure PK (B b : Nat) (l : List UInt8) (w w' : World) : Prop where
  d : Bd 59 B b l w'
  bl : Below B w w'
  o : Lib.OthersKept 5 (some b) w w'
theorem PK.then {B b : Nat} {l l2 : List UInt8} {w w1 w2 : World} (h : PK B b l w w1) (k : PK B b l2 w1 w2) : PK B b l2 w w2 := ⟨k.d, h.bl.trans k.bl, h.o.trans k.o⟩
theorem ok_bel {b : Nat} {w w' : World} (h : Below w.heap.size w w') : Lib.OthersKept 5 (some b) w w' := fun k o hk _ _ => keep_bel h hk
theorem PK.later {B b : Nat} {l : List UInt8} {w w1 w2 : World} (h : PK B b l w w1) (k : Below w1.heap.size w1 w2) (hB : B ≤ w1.heap.size) : PK B b l w w2 := ⟨h.d.bel k, h.bl.trans (k.mono hB), h.o.trans (ok_bel k)⟩
theorem PK.start {B b : Nat} {l : List UInt8} {w : World} (h : Bd 59 B b l w) : PK B b l w w := ⟨h, Below.refl _ _, Lib.OthersKept.refl _ _ _⟩
theorem mul_le_big {n m : Nat} (h1 : n ≤ 1000000) (h2 : m ≤ 2000001) : n * m ≤ 2000001000000 := Nat.le_trans (Nat.mul_le_mul h1 h2) (by decide)
set_option maxHeartbeats 2000000 in
set_option maxRecDepth 100000 in
theorem line_any (B b bw n c : Nat) (ws : List ByteArray) (l : List UInt8) (w : World) (hn : ws.length = n) (h0 : n ≤ 1000000) (hW : WB w bw ws) (hD : Bd 59 B b l w) (hBw : B ≤ w.heap.size) (hl : l.length ≤ 1048576) (hs : ∀ x ∈ ws, x.size ≤ 2000000) (hb : bw ≠ b) :
    Calls Tryz.prog 24 #[.pointer (some ⟨b, 0, none⟩), .slice (some ⟨bw, 0, none⟩) n c] w fun e w' => e = .returned (.tuple #[]) ∧ PK B b (l ++ lineL ws) w w' := by
  have LEN := Lib.hid (fun k => (show (l ++ partL ws k).length ≤ 3000000000000 by
    rw [List.length_append]
    have := part_len hs k
    have := mul_le_big (n := ws.length) (m := 2000000 + 1) (by omega) (by omega)
    omega))
  have HN := Lib.hid (And.intro hn h0)
  have HW := Lib.hid hW
  have HS := Lib.hid hs
  have HB := Lib.hid (And.intro hb hBw)
  have LA := Lib.hid (len_any B b l w hD)
  have HD := Lib.hid (PK.start hD)
  have k20 : ¬ (1048576 : Int) < (l.length : Int) := by omega
  clear hn h0 hW hD hBw hl hs hb
  go_enter Tryz.func24, Tryz.ntmps24
  go_upto_region 2 with (first
    | (go_at_call 26; ((with_reducible refine LA.out.mono ?_); rintro e w1 ⟨rfl, hw⟩; (have hw2 := hw.symm; subst hw2; clear hw)))
    | fail)
  go_loopw [13] (fun iv wr => ∃ k : Nat, k ≤ n ∧ iv = .int .i64 k ∧ PK B b (l ++ partL ws k) w wr) (fun iv _ => n - (intOf iv).toNat)
  case atStart => exact ⟨0, by omega, rfl, by rw [part_zero, List.append_nil]; exact HD.out⟩
  case round =>
    obtain ⟨k, hk, rfl, hpk⟩ := hrel
    have HP := Lib.hid hpk
    clear hpk
    have HBW := Lib.hid (show B ≤ wr.heap.size from Nat.le_trans HB.out.2 HP.out.bl.size)
    by_cases h8 : k < n
    · have hk1 : (k : Int) < (n : Int) := by omega
      have hk0 : (0 : Int) ≤ (k : Int) := by omega
      have hNN := HN.out
      have WK : IntKind.i64.wrap ((k : Int) + 1) = (k : Int) + 1 := IntWalk.i64_in _ (by omega)
      obtain ⟨x, hx⟩ : ∃ x, ws[k]? = some x := ⟨_, List.getElem?_eq_getElem (by omega)⟩
      have HX := Lib.hid (HS.out x (List.mem_of_getElem? hx))
      have c0 := (HW.out.others HP.out.o HB.out.1).cell hx
      by_cases hz : k = 0
      · subst hz
        have HT := Lib.hid (show l ++ partL ws (0 + 1) = (l ++ partL ws 0) ++ x.data.toList by rw [part_zero, List.append_nil, part_one hx])
        clear hx hNN
        go_wp2_with (first
          | (go_at_call 50; ((with_reducible refine (writeString_any bt59 B b _ x wr HP.out.d (by have := LEN.out 0; have := HX.out; omega) HBW.out).mono ?_); rintro e w2 ⟨rfl, d2, b2, o2⟩; have P2 := Lib.hid (HP.out.then ⟨d2, b2, o2⟩); clear d2 b2 o2))
          | fail)
        exact ⟨⟨0 + 1, by omega, by simp, by rw [HT.out]; exact P2.out⟩, by simp [intOf]; omega⟩
      · have hk9 : (0 : Int) < (k : Int) := by omega
        have HT := Lib.hid (show l ++ partL ws (k + 1) = ((l ++ partL ws k) ++ [32]) ++ x.data.toList by rw [part_next (by omega) hx]; simp [List.append_assoc])
        have HL32 := Lib.hid (show ((l ++ partL ws k) ++ [32]).length ≤ 3000000000001 by rw [List.length_append]; have := LEN.out k; have h1 : ([32] : List UInt8).length = 1 := rfl; omega)
        have W1 := Lib.hid (writeByte_any bt59 B b _ 32 wr HP.out.d (by have := LEN.out k; omega) HBW.out)
        clear hx hNN
        go_wp2_with (first
          | (go_at_call 45; ((refine W1.out.mono ?_); rintro e w2 ⟨rfl, d2, b2, o2⟩; have P2 := Lib.hid (HP.out.then ⟨d2, b2, o2⟩); clear d2 b2 o2))
          | (go_at_call 50; ((with_reducible refine (writeString_any bt59 B b _ x w2 P2.out.d (by have := HL32.out; have := HX.out; omega) (Nat.le_trans HB.out.2 P2.out.bl.size)).mono ?_); rintro e w3 ⟨rfl, d3, b3, o3⟩; have P3 := Lib.hid (P2.out.then ⟨d3, b3, o3⟩); clear d3 b3 o3))
          | fail)
        exact ⟨⟨k + 1, by omega, rfl, by rw [HT.out]; exact P3.out⟩, by simp [intOf]; omega⟩
    · have hke : k = n := by omega
      subst hke
      have hk1 : ¬ (k : Int) < (k : Int) := by omega
      have HT := Lib.hid (show l ++ lineL ws = (l ++ partL ws k) ++ [10] by unfold lineL partL; rw [List.take_of_length_le (by have := HN.out; omega), List.append_assoc])
      have W1 := Lib.hid (writeByte_any bt59 B b _ 10 wr HP.out.d (by have := LEN.out k; omega) HBW.out)
      go_wp2_with (first
        | (go_at_call 45; ((refine W1.out.mono ?_); rintro e w2 ⟨rfl, d2, b2, o2⟩; have P2 := Lib.hid (HP.out.then ⟨d2, b2, o2⟩); clear d2 b2 o2))
        | fail)
      go_end0
      exact ⟨rfl, by rw [HT.out]; exact P2.out⟩
end Go.Proofs.YtelpkajlejbbgaaGreatDoor
