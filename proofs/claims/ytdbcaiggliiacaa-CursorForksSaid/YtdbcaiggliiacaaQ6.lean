/- The document's Took: all keys lie in the range. -/
import Derived.Test.YtdbcaiggliiacaaQ5
namespace Go.Proofs.Ytdbcaiggliiacaa
set_option linter.unusedSimpArgs false
open Go.RowKit Go.Maps
set_option linter.unusedVariables false
set_option maxRecDepth 10000 in
set_option maxHeartbeats 4000000 in
/-- Keys that do not rise. -/
theorem rtook_ord {w : World} {A : Option Addr} {xs : List RC} (h : EQ.Rd w A xs) (q cap : Nat) (hq : xs.length = q) (hq2 : q ≤ 1000000) (p : Nat) (f t : ByteArray) (hk : lk xs ((p : Int) + 1) = some (f, t, false)) (B : Option Addr) (n c : Nat) (l : List TT) (most : Int)
    (hl : l.length = n) (hn : n ≤ 1000000) (hB : RdT w B l) (h2 : ¬ most < 1) (h3 : ¬ most < (n : Int)) (h4 : okl f t l) (h5 : ¬ ris l) :
    Calls Try.prog 25 #[.slice A q cap, .int .i64 ((p : Int) + 1), .slice B n c, .int .i64 most] w fun r w' => r = .returned (.tuple #[.slice A q cap, .bool false, .int .i64 16]) ∧ Below w.heap.size w w' := by
  have IS := Lib.hid (is_some h hk q cap hq hq2)
  obtain ⟨p', hp', hp, hx⟩ := lk_in hk
  obtain rfl : p' = p := by omega
  have HXS := Lib.hid h
  have HQL := Lib.hid hq
  obtain ⟨b, off, rfl, hlt, c0, c1, c2, c3⟩ := eq_at h hx
  simp only at c0 c1 c2 c3
  have i0 : (0 : Int) ≤ (p' : Int) := by omega
  have i1 : (p' : Int) < (q : Int) := by omega
  have i4 : (p' : Int) + 1 - 1 = (p' : Int) := by omega
  have BW := Lib.hid (alb w (RB f t false))
  have Z0 : Hid ((w.alloc (RB f t false)).heap[w.heap.size]? = some (.cells #[.string f, .string t, .bool false, .bool false] 67 (0, 0))) := Lib.hid (heap_alloc_new w _)
  have HL := Lib.hid hl
  have HB := Lib.hid hB
  have HN := Lib.hid h4
  have RS : Hid (∀ W, RdT W B l → Calls Try.prog 15 #[.slice B n c] W fun e w' => e = .returned (.bool false) ∧ Below W.heap.size W w') := Lib.hid (fun W hW => (refRises_any B n c l W HL.out (by omega) hW).mono (fun e w' h => by
    obtain ⟨⟨q, rfl, hq⟩, h2⟩ := h
    refine ⟨?_, h2⟩
    have : q = false := by cases q <;> simp_all [h5]
    rw [this]))
  clear h hk hx hq hp hp' hl hB h4
  go_enter Try.func25, Try.ntmps25
  go_wp2_with (first
    | (go_at_call 26; ((with_reducible refine IS.out.mono ?_); rintro e w1 ⟨rfl, rfl⟩))
    | fail)
  go_loopw [12] (fun iv wr => ∃ k : Nat, k ≤ n ∧ iv = .int .i64 k ∧ Below (w.alloc (RB f t false)).heap.size (w.alloc (RB f t false)) wr) (fun i _ => n - (intOf i).toNat)
  case atStart => exact ⟨0, by omega, rfl, Below.refl _ _⟩
  case round =>
    obtain ⟨k, hk, rfl, hb⟩ := hrel
    have BR := Lib.hid hb
    clear hb
    obtain ⟨z0, z1, z2⟩ := cells4f (keep_bel BR.out Z0.out)
    by_cases h8 : k < n
    · have hk1 : (k : Int) < (n : Int) := by omega
      have hk0 : (0 : Int) ≤ (k : Int) := by omega
      obtain ⟨x, hx⟩ : ∃ x, l[k]? = some x := ⟨_, List.getElem?_eq_getElem (by rw [HL.out]; omega)⟩
      obtain ⟨b9, o9, rfl, hlt9, g0, g1⟩ := rdt_get (rdt_later HB.out (bel_trans BW.out BR.out)) hx
      have HH : Hid (∀ W, Calls Try.prog 14 #[.agg #[.string f, .string t], .string x.1] W fun e w' => e = .returned (.bool true) ∧ Below W.heap.size W w') := Lib.hid (fun W => by
        have := rholds_any f t x.1 W
        rw [HN.out x (List.mem_of_getElem? hx)] at this; exact this)
      obtain ⟨x0, x1⟩ := x
      simp only at g0 g1 HH
      clear hx hlt9
      go_wp2_with fail
      go_region_law (first
        | (go_simp; go_at_call 14; ((with_reducible refine (HH.out _).mono ?_); rintro e w5 ⟨rfl, b5⟩; have B5 := Lib.hid (bel_trans BR.out (bel_dr b5)); clear b5))
        | fail)
      all_goals
        go_wp2
        exact ⟨⟨k + 1, by omega, by simp, B5.out⟩, by simp [intOf]; omega⟩
    · have hk1 : ¬ (k : Int) < (n : Int) := by omega
      have B2 := Lib.hid (bel_trans BW.out BR.out)
      go_wp2_with (first
        | (go_at_call 15; ((with_reducible refine (RS.out _ (rdt_later HB.out B2.out)).mono ?_); rintro e w6 ⟨rfl, b6⟩; have B6 := Lib.hid (bel_trans B2.out b6); obtain ⟨y0, y1, y2⟩ := cells4f (keep_bel b6 (keep_bel BR.out Z0.out)); clear b6))
        | fail)
      exact bodyPost_ret (v := .tuple #[.slice (some ⟨b, off, none⟩) q cap, .bool false, .int .i64 16]) (by simp [results, Try.results25, go_sem]) rfl ⟨rfl, B6.out⟩
set_option maxRecDepth 10000 in
set_option maxHeartbeats 4000000 in
/-- A short chunk, or one at the end. -/
theorem rtook_end_true {w : World} {A : Option Addr} {xs : List RC} (h : EQ.Rd w A xs) (q cap : Nat) (hq : xs.length = q) (hq2 : q ≤ 1000000) (p : Nat) (f t : ByteArray) (hk : lk xs ((p : Int) + 1) = some (f, t, true)) (B : Option Addr) (n c : Nat) (l : List TT) (most : Int)
    (hl : l.length = n) (hn : n ≤ 1000000) (hB : RdT w B l) (h2 : ¬ most < 1) (h3 : ¬ most < (n : Int)) (h4 : okl f t l) (h5 : ris l) (h6 : n = 0) :
    Calls Try.prog 25 #[.slice A q cap, .int .i64 ((p : Int) + 1), .slice B n c, .int .i64 most] w (QP w (xs.set p (⟨#[]⟩, ⟨#[]⟩, true, false)) (fun _ => [.bool true, .int .i64 0])) := by
  have IS := Lib.hid (is_some h hk q cap hq hq2)
  obtain ⟨p', hp', hp, hx⟩ := lk_in hk
  obtain rfl : p' = p := by omega
  have HXS := Lib.hid h
  have HQL := Lib.hid hq
  obtain ⟨b, off, rfl, hlt, c0, c1, c2, c3⟩ := eq_at h hx
  simp only at c0 c1 c2 c3
  have i0 : (0 : Int) ≤ (p' : Int) := by omega
  have i1 : (p' : Int) < (q : Int) := by omega
  have i4 : (p' : Int) + 1 - 1 = (p' : Int) := by omega
  have BW := Lib.hid (alb w (RB f t true))
  have Z0 : Hid ((w.alloc (RB f t true)).heap[w.heap.size]? = some (.cells #[.string f, .string t, .bool true, .bool false] 67 (0, 0))) := Lib.hid (heap_alloc_new w _)
  have HL := Lib.hid hl
  have HB := Lib.hid hB
  have HN := Lib.hid h4
  have RS : Hid (∀ W, RdT W B l → Calls Try.prog 15 #[.slice B n c] W fun e w' => e = .returned (.bool true) ∧ Below W.heap.size W w') := Lib.hid (fun W hW => (refRises_any B n c l W HL.out (by omega) hW).mono (fun e w' h => by
    obtain ⟨⟨q, rfl, hq⟩, h2⟩ := h
    refine ⟨?_, h2⟩
    have : q = true := by cases q <;> simp_all
    rw [this]))
  have j6 : ¬ (0 : Int) < (n : Int) := by omega
  clear h6
  clear h hk hx hq hp hp' hl hB h4
  go_enter Try.func25, Try.ntmps25
  go_wp2_with (first
    | (go_at_call 26; ((with_reducible refine IS.out.mono ?_); rintro e w1 ⟨rfl, rfl⟩))
    | fail)
  go_loopw [12] (fun iv wr => ∃ k : Nat, k ≤ n ∧ iv = .int .i64 k ∧ Below (w.alloc (RB f t true)).heap.size (w.alloc (RB f t true)) wr) (fun i _ => n - (intOf i).toNat)
  case atStart => exact ⟨0, by omega, rfl, Below.refl _ _⟩
  case round =>
    obtain ⟨k, hk, rfl, hb⟩ := hrel
    have BR := Lib.hid hb
    clear hb
    obtain ⟨z0, z1, z2⟩ := cells4f (keep_bel BR.out Z0.out)
    by_cases h8 : k < n
    · exfalso; omega
    · have hk1 : ¬ (k : Int) < (n : Int) := by omega
      have B2 := Lib.hid (bel_trans BW.out BR.out)
      go_wp2_with (first
        | (go_at_call 15; ((with_reducible refine (RS.out _ (rdt_later HB.out B2.out)).mono ?_); rintro e w6 ⟨rfl, b6⟩; have B6 := Lib.hid (bel_trans B2.out b6); obtain ⟨y0, y1, y2⟩ := cells4f (keep_bel b6 (keep_bel BR.out Z0.out)); clear b6))
        | (go_at_call 39; ((with_reducible refine (with_any (HXS.out.later B6.out) q cap HQL.out hq2 p' (by omega) ⟨#[]⟩ ⟨#[]⟩ true false).mono ?_); rintro e w9 ⟨a9, c9, rfl, r9, h9, b9'⟩; have R9 := Lib.hid r9; have H9 := Lib.hid h9; have B9 := Lib.hid (bel_trans B6.out b9'); have S9 := Lib.hid B6.out.size; clear r9 h9 b9'))
        | fail)
      exact bodyPost_ret (v := .tuple #[.slice (some a9) q c9, .bool true, .int .i64 0]) (by simp [results, Try.results25, go_sem]) rfl ⟨a9, q, c9, rfl, by rw [List.length_set, HQL.out], R9.out, fun h => Nat.le_trans S9.out (H9.out h), B9.out⟩
set_option maxRecDepth 10000 in
set_option maxHeartbeats 4000000 in
/-- A short chunk, or one at the end. -/
theorem rtook_end_false {w : World} {A : Option Addr} {xs : List RC} (h : EQ.Rd w A xs) (q cap : Nat) (hq : xs.length = q) (hq2 : q ≤ 1000000) (p : Nat) (f t : ByteArray) (hk : lk xs ((p : Int) + 1) = some (f, t, false)) (B : Option Addr) (n c : Nat) (l : List TT) (most : Int)
    (hl : l.length = n) (hn : n ≤ 1000000) (hB : RdT w B l) (h2 : ¬ most < 1) (h3 : ¬ most < (n : Int)) (h4 : okl f t l) (h5 : ris l) (h6 : (n : Int) < most) :
    Calls Try.prog 25 #[.slice A q cap, .int .i64 ((p : Int) + 1), .slice B n c, .int .i64 most] w (QP w (xs.set p (⟨#[]⟩, ⟨#[]⟩, true, false)) (fun _ => [.bool true, .int .i64 0])) := by
  have IS := Lib.hid (is_some h hk q cap hq hq2)
  obtain ⟨p', hp', hp, hx⟩ := lk_in hk
  obtain rfl : p' = p := by omega
  have HXS := Lib.hid h
  have HQL := Lib.hid hq
  obtain ⟨b, off, rfl, hlt, c0, c1, c2, c3⟩ := eq_at h hx
  simp only at c0 c1 c2 c3
  have i0 : (0 : Int) ≤ (p' : Int) := by omega
  have i1 : (p' : Int) < (q : Int) := by omega
  have i4 : (p' : Int) + 1 - 1 = (p' : Int) := by omega
  have BW := Lib.hid (alb w (RB f t false))
  have Z0 : Hid ((w.alloc (RB f t false)).heap[w.heap.size]? = some (.cells #[.string f, .string t, .bool false, .bool false] 67 (0, 0))) := Lib.hid (heap_alloc_new w _)
  have HL := Lib.hid hl
  have HB := Lib.hid hB
  have HN := Lib.hid h4
  have RS : Hid (∀ W, RdT W B l → Calls Try.prog 15 #[.slice B n c] W fun e w' => e = .returned (.bool true) ∧ Below W.heap.size W w') := Lib.hid (fun W hW => (refRises_any B n c l W HL.out (by omega) hW).mono (fun e w' h => by
    obtain ⟨⟨q, rfl, hq⟩, h2⟩ := h
    refine ⟨?_, h2⟩
    have : q = true := by cases q <;> simp_all
    rw [this]))
  clear h hk hx hq hp hp' hl hB h4
  go_enter Try.func25, Try.ntmps25
  go_wp2_with (first
    | (go_at_call 26; ((with_reducible refine IS.out.mono ?_); rintro e w1 ⟨rfl, rfl⟩))
    | fail)
  go_loopw [12] (fun iv wr => ∃ k : Nat, k ≤ n ∧ iv = .int .i64 k ∧ Below (w.alloc (RB f t false)).heap.size (w.alloc (RB f t false)) wr) (fun i _ => n - (intOf i).toNat)
  case atStart => exact ⟨0, by omega, rfl, Below.refl _ _⟩
  case round =>
    obtain ⟨k, hk, rfl, hb⟩ := hrel
    have BR := Lib.hid hb
    clear hb
    obtain ⟨z0, z1, z2⟩ := cells4f (keep_bel BR.out Z0.out)
    by_cases h8 : k < n
    · have hk1 : (k : Int) < (n : Int) := by omega
      have hk0 : (0 : Int) ≤ (k : Int) := by omega
      obtain ⟨x, hx⟩ : ∃ x, l[k]? = some x := ⟨_, List.getElem?_eq_getElem (by rw [HL.out]; omega)⟩
      obtain ⟨b9, o9, rfl, hlt9, g0, g1⟩ := rdt_get (rdt_later HB.out (bel_trans BW.out BR.out)) hx
      have HH : Hid (∀ W, Calls Try.prog 14 #[.agg #[.string f, .string t], .string x.1] W fun e w' => e = .returned (.bool true) ∧ Below W.heap.size W w') := Lib.hid (fun W => by
        have := rholds_any f t x.1 W
        rw [HN.out x (List.mem_of_getElem? hx)] at this; exact this)
      obtain ⟨x0, x1⟩ := x
      simp only at g0 g1 HH
      clear hx hlt9
      go_wp2_with fail
      go_region_law (first
        | (go_simp; go_at_call 14; ((with_reducible refine (HH.out _).mono ?_); rintro e w5 ⟨rfl, b5⟩; have B5 := Lib.hid (bel_trans BR.out (bel_dr b5)); clear b5))
        | fail)
      all_goals
        go_wp2
        exact ⟨⟨k + 1, by omega, by simp, B5.out⟩, by simp [intOf]; omega⟩
    · have hk1 : ¬ (k : Int) < (n : Int) := by omega
      have B2 := Lib.hid (bel_trans BW.out BR.out)
      go_wp2_with (first
        | (go_at_call 15; ((with_reducible refine (RS.out _ (rdt_later HB.out B2.out)).mono ?_); rintro e w6 ⟨rfl, b6⟩; have B6 := Lib.hid (bel_trans B2.out b6); obtain ⟨y0, y1, y2⟩ := cells4f (keep_bel b6 (keep_bel BR.out Z0.out)); clear b6))
        | (go_at_call 39; ((with_reducible refine (with_any (HXS.out.later B6.out) q cap HQL.out hq2 p' (by omega) ⟨#[]⟩ ⟨#[]⟩ true false).mono ?_); rintro e w9 ⟨a9, c9, rfl, r9, h9, b9'⟩; have R9 := Lib.hid r9; have H9 := Lib.hid h9; have B9 := Lib.hid (bel_trans B6.out b9'); have S9 := Lib.hid B6.out.size; clear r9 h9 b9'))
        | fail)
      exact bodyPost_ret (v := .tuple #[.slice (some a9) q c9, .bool true, .int .i64 0]) (by simp [results, Try.results25, go_sem]) rfl ⟨a9, q, c9, rfl, by rw [List.length_set, HQL.out], R9.out, fun h => Nat.le_trans S9.out (H9.out h), B9.out⟩
set_option maxRecDepth 10000 in
set_option maxHeartbeats 4000000 in
/-- A chunk as long as may be. -/
theorem rtook_past {w : World} {A : Option Addr} {xs : List RC} (h : EQ.Rd w A xs) (q cap : Nat) (hq : xs.length = q) (hq2 : q ≤ 1000000) (p : Nat) (f t : ByteArray) (hk : lk xs ((p : Int) + 1) = some (f, t, false)) (B : Option Addr) (n c : Nat) (l : List TT) (most : Int)
    (hl : l.length = n) (hn : n ≤ 1000000) (hB : RdT w B l) (h2 : ¬ most < 1) (h3 : ¬ most < (n : Int)) (h4 : okl f t l) (h5 : ris l) (h6 : ¬ (n : Int) < most) (hs : (lastE l).size + 1 ≤ 9223372036854775807) (h7 : sb (A0 (lastE l)) t = false) :
    Calls Try.prog 25 #[.slice A q cap, .int .i64 ((p : Int) + 1), .slice B n c, .int .i64 most] w (QP w (xs.set p (⟨#[]⟩, ⟨#[]⟩, true, false)) (fun _ => [.bool true, .int .i64 0])) := by
  have IS := Lib.hid (is_some h hk q cap hq hq2)
  obtain ⟨p', hp', hp, hx⟩ := lk_in hk
  obtain rfl : p' = p := by omega
  have HXS := Lib.hid h
  have HQL := Lib.hid hq
  obtain ⟨b, off, rfl, hlt, c0, c1, c2, c3⟩ := eq_at h hx
  simp only at c0 c1 c2 c3
  have i0 : (0 : Int) ≤ (p' : Int) := by omega
  have i1 : (p' : Int) < (q : Int) := by omega
  have i4 : (p' : Int) + 1 - 1 = (p' : Int) := by omega
  have BW := Lib.hid (alb w (RB f t false))
  have Z0 : Hid ((w.alloc (RB f t false)).heap[w.heap.size]? = some (.cells #[.string f, .string t, .bool false, .bool false] 67 (0, 0))) := Lib.hid (heap_alloc_new w _)
  have HL := Lib.hid hl
  have HB := Lib.hid hB
  have HN := Lib.hid h4
  have hlast := last_at (w := w) hl (show 0 < n by omega) hB
  have HLA := Lib.hid hlast
  have HSZ := Lib.hid hs
  obtain ⟨y, hy⟩ : ∃ y, y = lastE l := ⟨_, rfl⟩
  rw [← hy] at HLA HSZ
  have RR : Hid (∀ W, Calls Try.prog 12 #[.agg #[.string (A0 y), .string t]] W fun e w' => e = .returned (.bool false) ∧ Below W.heap.size W w') := Lib.hid (fun W => by
    have := rright_any (A0 y) t W
    rw [hy, h7] at this; rw [hy]; exact this)
  have hz9 : ¬ 9223372036854775807 < y.size + 1 := by have := HSZ.out; omega
  have HY := Lib.hid hy
  clear hlast hs hy h7
  have RS : Hid (∀ W, RdT W B l → Calls Try.prog 15 #[.slice B n c] W fun e w' => e = .returned (.bool true) ∧ Below W.heap.size W w') := Lib.hid (fun W hW => (refRises_any B n c l W HL.out (by omega) hW).mono (fun e w' h => by
    obtain ⟨⟨q, rfl, hq⟩, h2⟩ := h
    refine ⟨?_, h2⟩
    have : q = true := by cases q <;> simp_all
    rw [this]))
  clear h hk hx hq hp hp' hl hB h4
  go_enter Try.func25, Try.ntmps25
  go_wp2_with (first
    | (go_at_call 26; ((with_reducible refine IS.out.mono ?_); rintro e w1 ⟨rfl, rfl⟩))
    | fail)
  go_loopw [12] (fun iv wr => ∃ k : Nat, k ≤ n ∧ iv = .int .i64 k ∧ Below (w.alloc (RB f t false)).heap.size (w.alloc (RB f t false)) wr) (fun i _ => n - (intOf i).toNat)
  case atStart => exact ⟨0, by omega, rfl, Below.refl _ _⟩
  case round =>
    obtain ⟨k, hk, rfl, hb⟩ := hrel
    have BR := Lib.hid hb
    clear hb
    obtain ⟨z0, z1, z2⟩ := cells4f (keep_bel BR.out Z0.out)
    by_cases h8 : k < n
    · have hk1 : (k : Int) < (n : Int) := by omega
      have hk0 : (0 : Int) ≤ (k : Int) := by omega
      obtain ⟨x, hx⟩ : ∃ x, l[k]? = some x := ⟨_, List.getElem?_eq_getElem (by rw [HL.out]; omega)⟩
      obtain ⟨b9, o9, rfl, hlt9, g0, g1⟩ := rdt_get (rdt_later HB.out (bel_trans BW.out BR.out)) hx
      have HH : Hid (∀ W, Calls Try.prog 14 #[.agg #[.string f, .string t], .string x.1] W fun e w' => e = .returned (.bool true) ∧ Below W.heap.size W w') := Lib.hid (fun W => by
        have := rholds_any f t x.1 W
        rw [HN.out x (List.mem_of_getElem? hx)] at this; exact this)
      obtain ⟨x0, x1⟩ := x
      simp only at g0 g1 HH
      clear hx hlt9
      go_wp2_with fail
      go_region_law (first
        | (go_simp; go_at_call 14; ((with_reducible refine (HH.out _).mono ?_); rintro e w5 ⟨rfl, b5⟩; have B5 := Lib.hid (bel_trans BR.out (bel_dr b5)); clear b5))
        | fail)
      all_goals
        go_wp2
        exact ⟨⟨k + 1, by omega, by simp, B5.out⟩, by simp [intOf]; omega⟩
    · have hk1 : ¬ (k : Int) < (n : Int) := by omega
      have B2 := Lib.hid (bel_trans BW.out BR.out)
      obtain ⟨b8, o8, rfl, g8, hlt8⟩ := HLA.out
      have n1 : (n : Int) - 1 < (n : Int) := by omega
      have n2 : (0 : Int) ≤ (n : Int) - 1 := by omega
      have n5 : (1 : Int) ≤ (n : Int) := by omega
      have n3 : ((n : Int) - 1).toNat = n - 1 := by omega
      have n4 : IntKind.i64.wrap ((n : Int) - 1) = (n : Int) - 1 := IntWalk.i64_in _ (by omega)
      go_wp2_with (first
        | (go_at_call 15; ((with_reducible refine (RS.out _ (rdt_later HB.out B2.out)).mono ?_); rintro e w6 ⟨rfl, b6⟩; have B6 := Lib.hid (bel_trans B2.out b6); obtain ⟨y0, y1, y2⟩ := cells4f (keep_bel b6 (keep_bel BR.out Z0.out)); have g6 := bel_later B6.out g8; clear b6))
        | fail)
      have y1a := bel_later (alb w6 (.cells #[.string ⟨#[]⟩, .string ⟨#[]⟩] 29)) y1
      have g6a := bel_later (alb w6 (.cells #[.string ⟨#[]⟩, .string ⟨#[]⟩] 29)) g6
      go_region_law (fail)
      all_goals
        have B8 := Lib.hid (bel_trans B6.out ((alb w6 (.cells #[.string (A0 y), .string t] 29)).drew))
        have zz : (w6.alloc (.cells #[.string (A0 y), .string t] 29)).drew.heap[w6.heap.size]? = some (.cells #[.string (A0 y), .string t] 29 (0, 0)) := heap_alloc_new w6 _
        obtain ⟨v0, v1⟩ := cells2 zz
        have ZZ := Lib.hid zz
        clear zz y0 y1 y2 y1a g6a g6
        generalize (w6.alloc (.cells #[.string (A0 y), .string t] 29)).drew = w9 at *
        go_wp2_with (first
          | (go_at_call 12; ((with_reducible refine (RR.out _).mono ?_); rintro e wa ⟨rfl, ba⟩; have BA := Lib.hid (bel_trans B8.out ba); obtain ⟨u0, u1⟩ := cells2 (keep_bel ba ZZ.out); clear ba))
          | (go_at_call 39; ((with_reducible refine (with_any (HXS.out.later BA.out) q cap HQL.out hq2 p' (by omega) ⟨#[]⟩ ⟨#[]⟩ true false).mono ?_); rintro e w9 ⟨a9, c9, rfl, r9, h9, b9'⟩; have R9 := Lib.hid r9; have H9 := Lib.hid h9; have B9 := Lib.hid (bel_trans BA.out b9'); have S9 := Lib.hid BA.out.size; clear r9 h9 b9'))
          | fail)
        exact bodyPost_ret (v := .tuple #[.slice (some a9) q c9, .bool true, .int .i64 0]) (by simp [results, Try.results25, go_sem]) rfl ⟨a9, q, c9, rfl, by rw [List.length_set, HQL.out], R9.out, fun h => Nat.le_trans S9.out (H9.out h), B9.out⟩
set_option maxRecDepth 10000 in
set_option maxHeartbeats 4000000 in
/-- A chunk as long as may be. -/
theorem rtook_more {w : World} {A : Option Addr} {xs : List RC} (h : EQ.Rd w A xs) (q cap : Nat) (hq : xs.length = q) (hq2 : q ≤ 1000000) (p : Nat) (f t : ByteArray) (hk : lk xs ((p : Int) + 1) = some (f, t, false)) (B : Option Addr) (n c : Nat) (l : List TT) (most : Int)
    (hl : l.length = n) (hn : n ≤ 1000000) (hB : RdT w B l) (h2 : ¬ most < 1) (h3 : ¬ most < (n : Int)) (h4 : okl f t l) (h5 : ris l) (h6 : ¬ (n : Int) < most) (hs : (lastE l).size + 1 ≤ 9223372036854775807) (h7 : sb (A0 (lastE l)) t = true) :
    Calls Try.prog 25 #[.slice A q cap, .int .i64 ((p : Int) + 1), .slice B n c, .int .i64 most] w (QP w (xs.set p (A0 (lastE l), t, false, false)) (fun _ => [.bool false, .int .i64 0])) := by
  have IS := Lib.hid (is_some h hk q cap hq hq2)
  obtain ⟨p', hp', hp, hx⟩ := lk_in hk
  obtain rfl : p' = p := by omega
  have HXS := Lib.hid h
  have HQL := Lib.hid hq
  obtain ⟨b, off, rfl, hlt, c0, c1, c2, c3⟩ := eq_at h hx
  simp only at c0 c1 c2 c3
  have i0 : (0 : Int) ≤ (p' : Int) := by omega
  have i1 : (p' : Int) < (q : Int) := by omega
  have i4 : (p' : Int) + 1 - 1 = (p' : Int) := by omega
  have BW := Lib.hid (alb w (RB f t false))
  have Z0 : Hid ((w.alloc (RB f t false)).heap[w.heap.size]? = some (.cells #[.string f, .string t, .bool false, .bool false] 67 (0, 0))) := Lib.hid (heap_alloc_new w _)
  have HL := Lib.hid hl
  have HB := Lib.hid hB
  have HN := Lib.hid h4
  have hlast := last_at (w := w) hl (show 0 < n by omega) hB
  have HLA := Lib.hid hlast
  have HSZ := Lib.hid hs
  obtain ⟨y, hy⟩ : ∃ y, y = lastE l := ⟨_, rfl⟩
  rw [← hy] at HLA HSZ
  have RR : Hid (∀ W, Calls Try.prog 12 #[.agg #[.string (A0 y), .string t]] W fun e w' => e = .returned (.bool true) ∧ Below W.heap.size W w') := Lib.hid (fun W => by
    have := rright_any (A0 y) t W
    rw [hy, h7] at this; rw [hy]; exact this)
  have hz9 : ¬ 9223372036854775807 < y.size + 1 := by have := HSZ.out; omega
  have HY := Lib.hid hy
  clear hlast hs hy h7
  have RS : Hid (∀ W, RdT W B l → Calls Try.prog 15 #[.slice B n c] W fun e w' => e = .returned (.bool true) ∧ Below W.heap.size W w') := Lib.hid (fun W hW => (refRises_any B n c l W HL.out (by omega) hW).mono (fun e w' h => by
    obtain ⟨⟨q, rfl, hq⟩, h2⟩ := h
    refine ⟨?_, h2⟩
    have : q = true := by cases q <;> simp_all
    rw [this]))
  clear h hk hx hq hp hp' hl hB h4
  go_enter Try.func25, Try.ntmps25
  go_wp2_with (first
    | (go_at_call 26; ((with_reducible refine IS.out.mono ?_); rintro e w1 ⟨rfl, rfl⟩))
    | fail)
  go_loopw [12] (fun iv wr => ∃ k : Nat, k ≤ n ∧ iv = .int .i64 k ∧ Below (w.alloc (RB f t false)).heap.size (w.alloc (RB f t false)) wr) (fun i _ => n - (intOf i).toNat)
  case atStart => exact ⟨0, by omega, rfl, Below.refl _ _⟩
  case round =>
    obtain ⟨k, hk, rfl, hb⟩ := hrel
    have BR := Lib.hid hb
    clear hb
    obtain ⟨z0, z1, z2⟩ := cells4f (keep_bel BR.out Z0.out)
    by_cases h8 : k < n
    · have hk1 : (k : Int) < (n : Int) := by omega
      have hk0 : (0 : Int) ≤ (k : Int) := by omega
      obtain ⟨x, hx⟩ : ∃ x, l[k]? = some x := ⟨_, List.getElem?_eq_getElem (by rw [HL.out]; omega)⟩
      obtain ⟨b9, o9, rfl, hlt9, g0, g1⟩ := rdt_get (rdt_later HB.out (bel_trans BW.out BR.out)) hx
      have HH : Hid (∀ W, Calls Try.prog 14 #[.agg #[.string f, .string t], .string x.1] W fun e w' => e = .returned (.bool true) ∧ Below W.heap.size W w') := Lib.hid (fun W => by
        have := rholds_any f t x.1 W
        rw [HN.out x (List.mem_of_getElem? hx)] at this; exact this)
      obtain ⟨x0, x1⟩ := x
      simp only at g0 g1 HH
      clear hx hlt9
      go_wp2_with fail
      go_region_law (first
        | (go_simp; go_at_call 14; ((with_reducible refine (HH.out _).mono ?_); rintro e w5 ⟨rfl, b5⟩; have B5 := Lib.hid (bel_trans BR.out (bel_dr b5)); clear b5))
        | fail)
      all_goals
        go_wp2
        exact ⟨⟨k + 1, by omega, by simp, B5.out⟩, by simp [intOf]; omega⟩
    · have hk1 : ¬ (k : Int) < (n : Int) := by omega
      have B2 := Lib.hid (bel_trans BW.out BR.out)
      obtain ⟨b8, o8, rfl, g8, hlt8⟩ := HLA.out
      have n1 : (n : Int) - 1 < (n : Int) := by omega
      have n2 : (0 : Int) ≤ (n : Int) - 1 := by omega
      have n5 : (1 : Int) ≤ (n : Int) := by omega
      have n3 : ((n : Int) - 1).toNat = n - 1 := by omega
      have n4 : IntKind.i64.wrap ((n : Int) - 1) = (n : Int) - 1 := IntWalk.i64_in _ (by omega)
      go_wp2_with (first
        | (go_at_call 15; ((with_reducible refine (RS.out _ (rdt_later HB.out B2.out)).mono ?_); rintro e w6 ⟨rfl, b6⟩; have B6 := Lib.hid (bel_trans B2.out b6); obtain ⟨y0, y1, y2⟩ := cells4f (keep_bel b6 (keep_bel BR.out Z0.out)); have g6 := bel_later B6.out g8; clear b6))
        | fail)
      have y1a := bel_later (alb w6 (.cells #[.string ⟨#[]⟩, .string ⟨#[]⟩] 29)) y1
      have g6a := bel_later (alb w6 (.cells #[.string ⟨#[]⟩, .string ⟨#[]⟩] 29)) g6
      go_region_law (fail)
      all_goals
        have B8 := Lib.hid (bel_trans B6.out ((alb w6 (.cells #[.string (A0 y), .string t] 29)).drew))
        have zz : (w6.alloc (.cells #[.string (A0 y), .string t] 29)).drew.heap[w6.heap.size]? = some (.cells #[.string (A0 y), .string t] 29 (0, 0)) := heap_alloc_new w6 _
        obtain ⟨v0, v1⟩ := cells2 zz
        have ZZ := Lib.hid zz
        clear zz y0 y1 y2 y1a g6a g6
        generalize (w6.alloc (.cells #[.string (A0 y), .string t] 29)).drew = w9 at *
        go_wp2_with (first
          | (go_at_call 12; ((with_reducible refine (RR.out _).mono ?_); rintro e wa ⟨rfl, ba⟩; have BA := Lib.hid (bel_trans B8.out ba); obtain ⟨u0, u1⟩ := cells2 (keep_bel ba ZZ.out); clear ba))
          | (go_at_call 39; ((with_reducible refine (with_any (HXS.out.later BA.out) q cap HQL.out hq2 p' (by omega) (A0 y) t false false).mono ?_); rintro e w9 ⟨a9, c9, rfl, r9, h9, b9'⟩; have R9 := Lib.hid r9; have H9 := Lib.hid h9; have B9 := Lib.hid (bel_trans BA.out b9'); have S9 := Lib.hid BA.out.size; clear r9 h9 b9'))
          | fail)
        rw [← HY.out]
        exact bodyPost_ret (v := .tuple #[.slice (some a9) q c9, .bool false, .int .i64 0]) (by simp [results, Try.results25, go_sem]) rfl ⟨a9, q, c9, rfl, by rw [List.length_set, HQL.out], R9.out, fun h => Nat.le_trans S9.out (H9.out h), B9.out⟩
end Go.Proofs.Ytdbcaiggliiacaa
