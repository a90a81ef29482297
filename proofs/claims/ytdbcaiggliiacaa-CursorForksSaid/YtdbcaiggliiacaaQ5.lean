/- The document's Took: the look at the keys, and what becomes of the cursor. -/
import Derived.Test.YtdbcaiggliiacaaQ4
namespace Go.Proofs.Ytdbcaiggliiacaa
set_option linter.unusedSimpArgs false
open Go.RowKit Go.Maps
set_option linter.unusedVariables false
theorem cells4f {W : World} {g : Nat} {u v x y : Value} {t : TypeId} (z : W.heap[g]? = some (.cells #[u, v, x, y] t (0, 0))) :
    W.cell? ⟨g, 0, none⟩ = some u ∧ W.cell? ⟨g, 1, none⟩ = some v ∧ W.cell? ⟨g, 2, none⟩ = some x := by
  simp [World.cell?, z]
set_option maxRecDepth 10000 in
set_option maxHeartbeats 4000000 in
/-- A chunk with a key that the range does not have. -/
theorem rtook_far {w : World} {A : Option Addr} {xs : List RC} (h : EQ.Rd w A xs) (q cap : Nat) (hq : xs.length = q) (hq2 : q ≤ 1000000) (p : Nat) (f t : ByteArray) (hk : lk xs ((p : Int) + 1) = some (f, t, false)) (B : Option Addr) (n c : Nat) (l : List TT) (most : Int)
    (hl : l.length = n) (hn : n ≤ 1000000) (hB : RdT w B l) (h2 : ¬ most < 1) (h3 : ¬ most < (n : Int)) (h4 : ¬ okl f t l) :
    Calls Try.prog 25 #[.slice A q cap, .int .i64 ((p : Int) + 1), .slice B n c, .int .i64 most] w fun r w' => r = .returned (.tuple #[.slice A q cap, .bool false, .int .i64 16]) ∧ Below w.heap.size w w' := by
  have IS := Lib.hid (is_some h hk q cap hq hq2)
  obtain ⟨p', hp', hp, hx⟩ := lk_in hk
  obtain rfl : p' = p := by omega
  obtain ⟨b, off, rfl, hlt, c0, c1, c2, c3⟩ := eq_at h hx
  simp only at c0 c1 c2 c3
  have i0 : (0 : Int) ≤ (p' : Int) := by omega
  have i1 : (p' : Int) < (q : Int) := by omega
  have i4 : (p' : Int) + 1 - 1 = (p' : Int) := by omega
  have BW := Lib.hid (alb w (RB f t false))
  have Z0 : Hid ((w.alloc (RB f t false)).heap[w.heap.size]? = some (.cells #[.string f, .string t, .bool false, .bool false] 67 (0, 0))) := Lib.hid (heap_alloc_new w _)
  have HL := Lib.hid hl
  have HB := Lib.hid hB
  have HN := Lib.hid h4
  clear h hk hx hq hp hp' hl hB h4
  go_enter Try.func25, Try.ntmps25
  go_wp2_with (first
    | (go_at_call 26; ((with_reducible refine IS.out.mono ?_); rintro e w1 ⟨rfl, rfl⟩))
    | fail)
  go_loopw [12] (fun iv wr => ∃ k : Nat, k ≤ n ∧ iv = .int .i64 k ∧ okl f t (l.take k) ∧ Below (w.alloc (RB f t false)).heap.size (w.alloc (RB f t false)) wr) (fun i _ => n - (intOf i).toNat)
  case atStart => exact ⟨0, by omega, rfl, by intro x hx; simp at hx, Below.refl _ _⟩
  case round =>
    obtain ⟨k, hk, rfl, ht, hb⟩ := hrel
    have HT := Lib.hid ht
    have BR := Lib.hid hb
    have h8 : k < n := by
      rcases Nat.lt_or_ge k n with h | h
      · exact h
      · exfalso
        rw [List.take_of_length_le (by rw [HL.out]; exact h)] at ht
        exact HN.out ht
    clear ht hb
    have hk1 : (k : Int) < (n : Int) := by omega
    have hk0 : (0 : Int) ≤ (k : Int) := by omega
    obtain ⟨x, hx⟩ : ∃ x, l[k]? = some x := ⟨_, List.getElem?_eq_getElem (by rw [HL.out]; omega)⟩
    have e : l.take (k + 1) = l.take k ++ [x] := by
      obtain ⟨h1, e1⟩ := List.getElem?_eq_some_iff.1 hx
      rw [List.take_succ_eq_append_getElem h1, e1]
    obtain ⟨b9, o9, rfl, hlt9, g0, g1⟩ := rdt_get (rdt_later HB.out (bel_trans BW.out BR.out)) hx
    obtain ⟨z0, z1, z2⟩ := cells4f (keep_bel BR.out Z0.out)
    have HH := Lib.hid (fun W => rholds_any f t x.1 W)
    obtain ⟨x0, x1⟩ := x
    simp only at g0 g1 HH
    have HE := Lib.hid e
    clear hx hlt9 e
    cases hh : has f t x0 with
    | true =>
      rw [hh] at HH
      have HO : Hid (okl f t (l.take (k + 1))) := Lib.hid (by
        rw [HE.out]
        intro y hy
        rcases List.mem_append.1 hy with hy | hy
        · exact HT.out y hy
        · simp at hy; subst hy; exact hh)
      clear hh
      go_wp2_with fail
      go_region_law (first
        | (go_simp; go_at_call 14; ((with_reducible refine (HH.out _).mono ?_); rintro e w5 ⟨rfl, b5⟩; have B5 := Lib.hid (bel_trans BR.out (bel_dr b5)); clear b5))
        | fail)
      all_goals
        go_wp2
        exact ⟨⟨k + 1, by omega, by simp, HO.out, B5.out⟩, by simp [intOf]; omega⟩
    | false =>
      rw [hh] at HH
      clear hh
      go_wp2_with fail
      go_region_law (first
        | (go_simp; go_at_call 14; ((with_reducible refine (HH.out _).mono ?_); rintro e w5 ⟨rfl, b5⟩; have B5 := Lib.hid (bel_trans BW.out (bel_trans BR.out (bel_dr b5))); clear b5))
        | fail)
      all_goals
        go_wp2
        exact bodyPost_ret (v := .tuple #[.slice (some ⟨b, off, none⟩) q cap, .bool false, .int .i64 16]) (by simp [results, Try.results25, go_sem]) rfl ⟨rfl, B5.out⟩
end Go.Proofs.Ytdbcaiggliiacaa
