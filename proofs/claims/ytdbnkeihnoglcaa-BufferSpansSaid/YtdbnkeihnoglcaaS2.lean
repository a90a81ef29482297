/- The law BufferSpans answers true. -/
import Derived.Test.YtdbnkeihnoglcaaB1
import Derived.Test.YtdbnkeihnoglcaaS1
namespace Go.Proofs.Ytdbnkeihnoglcaa
set_option linter.unusedSimpArgs false
open Go.RowKit Go.Maps
set_option linter.unusedVariables false
def fromK (f : MG → ByteArray) (F : ByteArray) (ys : List MG) (k : Nat) : Bool := (ys.take k).any fun x => (f x).toList == F.toList
theorem fromK_next (f : MG → ByteArray) (F : ByteArray) {ys : List MG} {k : Nat} {x : MG} (h : ys[k]? = some x) : fromK f F ys (k + 1) = (fromK f F ys k || ((f x).toList == F.toList)) := by
  unfold fromK; rw [List.take_add_one, h]; simp
theorem fromK_all (f : MG → ByteArray) (F : ByteArray) {ys : List MG} (h : ∃ x ∈ ys, F = f x) : fromK f F ys ys.length = true := by
  unfold fromK
  rw [List.take_of_length_le (Nat.le_refl _), List.any_eq_true]
  obtain ⟨x, hx, e⟩ := h
  exact ⟨x, hx, by rw [e]; simp⟩
theorem least_has {F T : ByteArray} {ys : List MG} (h : Least F T ys) {x : MG} (hx : x ∈ ys) {s : ByteArray} (ht : touB x s = true) : has F T s = true :=
  has_mono (h.lo x hx) (h.hi x hx) (tou_has ht)
theorem right_mem {ys : List MG} (h : rightB ys = true) {x : MG} (hx : x ∈ ys) : rcX x = true := by
  obtain ⟨i, hi, e⟩ := List.mem_iff_getElem.1 hx
  have q := right_at h hi
  have hx2 : ys[i]? = some x := by rw [List.getElem?_eq_getElem hi, e]
  cases i with
  | zero => rw [rcI_zero hx2] at q; exact q
  | succ j =>
    obtain ⟨p, hp⟩ : ∃ p, ys[j]? = some p := ⟨_, List.getElem?_eq_getElem (by omega)⟩
    rw [rcI_succ hp hx2, Bool.and_eq_true] at q
    exact q.1
theorem least_wi {F T : ByteArray} {ys : List MG} (h : Least F T ys) (hr : rightB ys = true) : ys.all (wiR F T) = true := by
  rw [List.all_eq_true]
  intro x hx
  have k := (kd_ok (right_mem hr hx)).2.1
  unfold wiR
  rw [k, sb_mono (h.lo x hx) (h.hi x hx) k, h.lo x hx, h.hi x hx]
  rfl
set_option maxHeartbeats 1000000 in
theorem bspan_none (A : Option Addr) (cap : Nat) (w : World) :
    Calls Try.prog 30 #[.slice A 0 cap] w fun e w' => e = .returned (BV (emptyS, emptyS) false) ∧ Below w.heap.size w w' := by
  have H0 := Lib.hid (alb w (rgc emptyS emptyS))
  have z0 := Lib.hid (heap_alloc_new w (rgc emptyS emptyS))
  obtain ⟨d0, d1, f0, f1⟩ := has_two z0.out
  go_enter Try.func30, Try.ntmps30
  go_wp2
  refine bodyPost_ret (v := BV (emptyS, emptyS) false) (by simp [results, Try.results30, go_sem, d0, d1, f0, f1]) rfl ⟨rfl, ?_⟩
  first
    | exact H0.out
    | exact Below.setCell (Below.setCell H0.out (p := ⟨_, _, none⟩) (Nat.le_refl _) _) (p := ⟨_, _, none⟩) (Nat.le_refl _) _
set_option maxRecDepth 100000 in
set_option maxHeartbeats 8000000 in
theorem spans_no (A : Option Addr) (m cap : Nat) (ys : List MG) (s : ByteArray) (n : Nat) (w : World) (hmn : min n 30 = m) (hnc : n ≤ cap) (hc : cap ≤ 9223372036854775807) (hl : ys.length = m) (hA : EG.Rd w A ys) (ho : OkA ys) (hq : rightB ys = false ∨ m = 0) :
    Calls Try.prog 7 #[.slice A n cap, .string s] w fun r w' => r = .returned (.bool true) ∧ Below w.heap.size w w' := by
  have hm : m ≤ 1000 := by have := min_le30 n; omega
  have AF := Lib.hid (few_any A n cap w hnc hc)
  rw [hmn] at AF
  have AQ := Lib.hid (rright_all A m cap ys w hl hm hA ho)
  rcases hq with hq | hq
  · rw [hq] at AQ
    clear hl hA ho hmn hnc hc hq
    go_enter Try.func7, Try.ntmps7
    go_wp2_with (first
      | (go_at_call 8; ((with_reducible refine AF.out.mono ?_); rintro e w1 ⟨rfl, rfl⟩))
      | (go_at_call 10; ((with_reducible refine AQ.out.mono ?_); rintro e w2 ⟨rfl, b2⟩; have B1 := Lib.hid b2; clear b2))
      | (go_at_call 11; ((with_reducible refine (live_true _).mono ?_); rintro e w3 ⟨rfl, b3⟩; have B3 := Lib.hid (bel_trans B1.out b3); clear b3))
      | fail)
    go_ret
    exact ⟨rfl, B3.out⟩
  · subst hq
    have e : ys = [] := List.eq_nil_of_length_eq_zero hl
    have e2 : rightB ys = true := by rw [e]; rfl
    rw [e2] at AQ
    clear hl hA ho hmn hnc hc e2 e hm
    go_enter Try.func7, Try.ntmps7
    go_wp2_with (first
      | (go_at_call 8; ((with_reducible refine AF.out.mono ?_); rintro e w1 ⟨rfl, rfl⟩))
      | (go_at_call 10; ((with_reducible refine AQ.out.mono ?_); rintro e w2 ⟨rfl, b2⟩; have B1 := Lib.hid b2; clear b2))
      | (go_at_call 30; ((with_reducible refine (bspan_none A cap _).mono ?_); rintro e w3 ⟨rfl, b3⟩; have B3 := Lib.hid (bel_alloc (bel_trans B1.out b3) (rgc emptyS emptyS)); have Z3 := Lib.hid (heap_alloc_new w3 (rgc emptyS emptyS)); clear b3))
      | (go_at_call 11; ((with_reducible refine (live_true _).mono ?_); rintro e w4 ⟨rfl, b4⟩; have B4 := Lib.hid (bel_trans B3.out b4); obtain ⟨c0, c1, -, -⟩ := has_two (keep_bel b4 Z3.out); clear b4))
      | fail)
    go_ret
    exact ⟨rfl, B4.out⟩
set_option maxRecDepth 100000 in
set_option maxHeartbeats 8000000 in
theorem spans_yes (A : Option Addr) (m cap : Nat) (ys : List MG) (s : ByteArray) (n : Nat) (w : World) (hmn : min n 30 = m) (hnc : n ≤ cap) (hc : cap ≤ 9223372036854775807) (hl : ys.length = m) (hA : EG.Rd w A ys) (ho : OkA ys) (hq : rightB ys = true) (hm0 : m ≠ 0) :
    Calls Try.prog 7 #[.slice A n cap, .string s] w fun r w' => r = .returned (.bool true) ∧ Below w.heap.size w w' := by
  have hm : m ≤ 1000 := by have := min_le30 n; omega
  have hmc : m ≤ cap := by omega
  have AF := Lib.hid (few_any A n cap w hnc hc)
  rw [hmn] at AF
  have AQ := Lib.hid (rright_all A m cap ys w hl hm hA ho)
  rw [hq] at AQ
  have hne : ys ≠ [] := by intro e; rw [e] at hl; exact hm0 (by simpa using hl.symm)
  have HLE := Lib.hid (span_least hne)
  have AS : Hid (∀ W, Below w.heap.size w W → Calls Try.prog 30 #[.slice A m cap] W fun e w' => e = .returned (BV (spanL ys) true) ∧ Below W.heap.size W w') := Lib.hid (fun W hW => by
    have hA2 := hA.later hW
    cases ys with
    | nil => exact absurd rfl hne
    | cons x0 rest =>
      obtain ⟨b, off, rfl, _, _⟩ := eg_at hA2 (i := 0) rfl
      have hr : m = rest.length + 1 := by rw [← hl]; rfl
      rw [hr]
      exact bspan_some b off cap rest.length x0 rest W rfl (by omega) (by omega) hA2 ho)
  obtain ⟨⟨F, T⟩, hFT⟩ : ∃ q, spanL ys = q := ⟨_, rfl⟩
  rw [hFT] at AS HLE
  have HL := Lib.hid hl
  have HO := Lib.hid ho
  have HA := Lib.hid (fun W (hW : Below w.heap.size w W) => hA.later hW)
  have AW : Hid (∀ W, Below w.heap.size w W → Calls Try.prog 17 #[.slice A m cap, .agg #[.string F, .string T]] W fun r w' => r = .returned (.bool true) ∧ Below W.heap.size W w') := Lib.hid (fun W hW => by
    have q := withinA_any F T A m cap ys W hl hm (hA.later hW) ho
    rw [least_wi HLE.out hq] at q
    exact q)
  have m1 : ¬ ((m : Int) = 0) := by omega
  have m2 : ((m : Int) == 0) = false := by rw [beq_eq_false_iff_ne]; omega
  clear hl hA ho hmn hnc hc hq hne hFT hm0
  go_enter Try.func7, Try.ntmps7
  go_wp2_with (first
    | (go_at_call 8; ((with_reducible refine AF.out.mono ?_); rintro e w1 ⟨rfl, rfl⟩))
    | (go_at_call 10; ((with_reducible refine AQ.out.mono ?_); rintro e w2 ⟨rfl, b2⟩; have B1 := Lib.hid b2; clear b2))
    | (go_at_call 30; ((with_reducible refine (AS.out _ B1.out).mono ?_); rintro e w3 ⟨rfl, b3⟩; have B3 := Lib.hid (bel_alloc (bel_trans B1.out b3) (rgc F T)); have Z3 := Lib.hid (heap_alloc_new w3 (rgc F T)); clear b3))
    | fail)
  go_loopw [7, 8, 9] (fun p q iv wr => ∃ (k : Nat), k ≤ m ∧ iv = .int .i64 k ∧ p = .bool (fromK spF F ys k) ∧ q = .bool (fromK spT T ys k) ∧ Below w.heap.size w wr ∧ Hid (wr.heap[w3.heap.size]? = some (rgc F T))) (fun _ _ i _ => m - (intOf i).toNat)
  case atStart => exact ⟨0, by omega, rfl, rfl, rfl, B3.out, Z3⟩
  case round =>
    obtain ⟨k, hk, rfl, rfl, rfl, hb, ZR⟩ := hrel
    have HB := Lib.hid hb
    clear hb
    by_cases h8 : k < m
    · have hk1 : (k : Int) < (m : Int) := by omega
      have hk0 : (0 : Int) ≤ (k : Int) := by omega
      obtain ⟨x, hx⟩ : ∃ x, ys[k]? = some x := ⟨_, List.getElem?_eq_getElem (by rw [HL.out]; omega)⟩
      obtain ⟨b, off, rfl, hlt, g0, g1, g2, g3, g4, g5⟩ := eg_at (HA.out _ HB.out) hx
      have HOX := Lib.hid (HO.out.get hx)
      have HN1 := Lib.hid (fromK_next spF F hx)
      have HN2 := Lib.hid (fromK_next spT T hx)
      have HT := Lib.hid (fun (ht : touB x s = true) => least_has HLE.out (List.mem_of_getElem? hx) ht)
      have AT := Lib.hid (rtouches_any x s)
      have AH := Lib.hid (rholds_any F T s)
      clear hx hlt
      obtain ⟨p, hp⟩ : ∃ p, fromK spF F ys k = p := ⟨_, rfl⟩
      obtain ⟨q, hq⟩ : ∃ q, fromK spT T ys k = q := ⟨_, rfl⟩
      obtain ⟨t, ht⟩ : ∃ t, touB x s = t := ⟨_, rfl⟩
      obtain ⟨h, hh⟩ : ∃ h, has F T s = h := ⟨_, rfl⟩
      rw [hp] at HN1 ⊢
      rw [hq] at HN2 ⊢
      rw [ht] at HT AT
      rw [hh] at HT AH
      clear hp hq ht hh
      cases p <;> cases q <;> cases t
      all_goals
        try (have hh := HT.out rfl; subst hh)
        clear HT
        go_wp2_with (first
          | (go_at_call 31; ((with_reducible refine (rspan_any x HOX.out _).mono ?_); rintro e w4 ⟨rfl, b4⟩; have B4 := Lib.hid (bel_alloc (bel_trans HB.out b4) (rgc (spF x) (spT x))); have Z4 := Lib.hid (keep_bel (bel_alloc b4 (rgc (spF x) (spT x))) ZR.out); obtain ⟨c0, c1, -, -⟩ := has_two Z4.out; obtain ⟨d0, d1, -, -⟩ := has_two (heap_alloc_new w4 (rgc (spF x) (spT x))); have L4 := Lib.hid (bel_alloc b4 (rgc (spF x) (spT x))); replace g0 := bel_later L4.out g0; replace g1 := bel_later L4.out g1; replace g2 := bel_later L4.out g2; replace g3 := bel_later L4.out g3; replace g4 := bel_later L4.out g4; replace g5 := bel_later L4.out g5; clear b4 L4))
          | (go_at_call 32; ((with_reducible refine (AT.out _).mono ?_); rintro e w5 ⟨rfl, b5⟩; have B5 := Lib.hid (bel_trans B4.out b5); have Z5 := Lib.hid (keep_bel b5 Z4.out); clear c0 c1; obtain ⟨c0, c1, -, -⟩ := has_two Z5.out; clear b5))
          | (go_at_call 29; ((with_reducible refine (AH.out _).mono ?_); rintro e w6 ⟨rfl, b6⟩; have B6 := Lib.hid (bel_trans B5.out b6); have Z6 := Lib.hid (keep_bel b6 Z5.out); clear b6))
          | fail)
        first
          | exact ⟨⟨k + 1, by omega, by simp, by rw [HN1.out]; simp, by rw [HN2.out]; simp, B6.out, Z6⟩, by simp [intOf]; omega⟩
          | exact ⟨⟨k + 1, by omega, by simp, by rw [HN1.out]; simp, by rw [HN2.out]; simp, B5.out, Z5⟩, by simp [intOf]; omega⟩
    · have hk1 : ¬ (k : Int) < (m : Int) := by omega
      have hkm : k = m := by omega
      have f1 : fromK spF F ys k = true := by rw [hkm, ← HL.out]; exact fromK_all _ _ HLE.out.lo1
      have f2 : fromK spT T ys k = true := by rw [hkm, ← HL.out]; exact fromK_all _ _ HLE.out.hi1
      rw [f1, f2]
      clear f1 f2 hkm
      obtain ⟨c0, c1, -, -⟩ := has_two ZR.out
      go_wp2_with (first
        | (go_at_call 11; ((with_reducible refine (live_true _).mono ?_); rintro e w4 ⟨rfl, b4⟩; have B4 := Lib.hid (bel_trans HB.out b4); obtain ⟨d0, d1, -, -⟩ := has_two (keep_bel b4 ZR.out); clear b4))
        | (go_at_call 17; ((with_reducible refine (AW.out _ B4.out).mono ?_); rintro e w5 ⟨rfl, b5⟩; have B5 := Lib.hid (bel_trans B4.out b5); clear b5))
        | fail)
      go_ret
      exact ⟨rfl, B5.out⟩
theorem spans_law (A : Option Addr) (n cap : Nat) (xs : List MG) (s : ByteArray) (w : World) (hnc : n ≤ cap) (hc : cap ≤ maxLen) (hl : xs.length = n) (hA : EG.Rd w A xs) (ho : OkA xs) :
    Calls Try.prog 7 #[.slice A n cap, .string s] w fun r w' => r = .returned (.bool true) ∧ Below w.heap.size w w' := by
  have hc2 : cap ≤ 9223372036854775807 := by unfold maxLen at hc; omega
  have h1 : (xs.take (min n 30)).length = min n 30 := by rw [List.length_take, hl]; omega
  have h2 : OkA (xs.take (min n 30)) := fun x hx => ho x (List.mem_of_mem_take hx)
  cases hq : rightB (xs.take (min n 30))
  · exact spans_no A _ cap _ s n w rfl hnc hc2 h1 (hA.take _) h2 (.inl hq)
  · by_cases h0 : min n 30 = 0
    · exact spans_no A _ cap _ s n w rfl hnc hc2 h1 (hA.take _) h2 (.inr h0)
    · exact spans_yes A _ cap _ s n w rfl hnc hc2 h1 (hA.take _) h2 hq h0
end Go.Proofs.Ytdbnkeihnoglcaa
