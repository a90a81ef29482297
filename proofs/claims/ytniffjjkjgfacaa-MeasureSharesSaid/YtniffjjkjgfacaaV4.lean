/- The least, the middle and the greatest of numbers. -/
import Derived.Test.YtniffjjkjgfacaaV3
namespace Go.Proofs.Ytniffjjkjgfacaa
set_option linter.unusedSimpArgs false
open Go.RowKit Go.Maps Go.Shelf
set_option linter.unusedVariables false
theorem srt_len (xs : List Int) : (srt xs).length = xs.length := by simp [srt]
def spA (xs : List Int) : Int := (srt xs).getD 0 0
def spB (xs : List Int) : Int := (srt xs).getD (xs.length / 2) 0
def spC (xs : List Int) : Int := (srt xs).getD (xs.length - 1) 0
theorem srt_at (xs : List Int) {i : Nat} (h : i < xs.length) : (srt xs)[i]? = some ((srt xs).getD i 0) := by
  rw [List.getD_eq_getElem?_getD, List.getElem?_eq_getElem (by rw [srt_len]; exact h)]
  rfl
theorem fv_lt {w : World} {A : Option Addr} {n c : Nat} {xs : List Int} (hA : EI.Rd w A xs) (o : Obj) : ∀ g, FV w.heap.size A xs g → g < (w.alloc o).heap.size := by
  rintro g (rfl | ⟨h0, a, ha, rfl⟩)
  · simp
  · obtain ⟨x, hx⟩ : ∃ x, xs[0]? = some x := ⟨_, List.getElem?_eq_getElem h0⟩
    obtain ⟨b, off, e, hlt, _⟩ := ei_at hA hx
    rw [ha] at e; cases e
    simp; omega
set_option maxRecDepth 10000 in
set_option maxHeartbeats 2000000 in
theorem spread_some (A : Option Addr) (n c : Nat) (xs : List Int) (w : World) (hl : xs.length = n) (hn : n ≤ 1000) (h0 : 0 < n) (hA : EI.Rd w A xs) :
    Calls Try.prog 9 #[.slice A n c] w fun e w' => e = .returned (.tuple #[.int .i64 (spA xs), .int .i64 (spB xs), .int .i64 (spC xs)]) ∧ Below w.heap.size w w' := by
  have b1 := alb w (.cells #[.slice A n c] 26)
  have S1 := Lib.hid (sorted_any (enters_of Try.func31 (by kernel_rfl) rfl) (values_seq w.heap.size A n c xs hl (by omega)) (by omega) (by omega) (w.alloc (.cells #[.slice A n c] 26)) ⟨Boxed.new w 26 _, hA.later b1⟩ (fun W W' h b => ⟨boxed_later h.1 b, h.2.later b⟩) (fv_lt (n := n) (c := c) hA _))
  rw [hl] at S1
  have g1 := srt_at xs (i := 0) (by omega)
  have g2 := srt_at xs (i := n / 2) (by omega)
  have g3 := srt_at xs (i := n - 1) (by omega)
  have HS : Hid (spA xs = (srt xs).getD 0 0 ∧ spB xs = (srt xs).getD (n / 2) 0 ∧ spC xs = (srt xs).getD (n - 1) 0) := Lib.hid (by rw [← hl]; exact ⟨rfl, rfl, rfl⟩)
  have RDX : Hid (∀ W A', EI.Rd W A' (srt xs) → ∃ b off, A' = some ⟨b, off, none⟩ ∧ W.cell? ⟨b, off, none⟩ = some (.int .i64 (spA xs)) ∧ W.cell? ⟨b, off + n / 2, none⟩ = some (.int .i64 (spB xs)) ∧ W.cell? ⟨b, off + (n - 1), none⟩ = some (.int .i64 (spC xs))) := Lib.hid (fun W A' h => by
    obtain ⟨b, off, rfl, _, c1⟩ := ei_at h g1
    obtain ⟨b2, off2, e2, _, c2⟩ := ei_at h g2
    cases e2
    obtain ⟨b3, off3, e3, _, c3⟩ := ei_at h g3
    cases e3
    rw [HS.out.1, HS.out.2.1, HS.out.2.2]
    exact ⟨b, off, rfl, by simpa using c1, c2, c3⟩)
  have a0 : ¬ (n : Int) = 0 := by omega
  obtain ⟨m, hm⟩ : ∃ m, m = n / 2 := ⟨_, rfl⟩
  obtain ⟨q, hq⟩ : ∃ q, q = n - 1 := ⟨_, rfl⟩
  rw [← hm, ← hq] at RDX
  have m1 : (n : Int) / 2 = (m : Int) := by omega
  have m2 : (n : Int).tdiv 2 = (m : Int) := by rw [Int.tdiv_eq_ediv_of_nonneg (by omega)]; exact m1
  have q1 : (n : Int) - 1 = (q : Int) := by omega
  have m3 : (m : Int) < (n : Int) := by omega
  have q3 : (q : Int) < (n : Int) := by omega
  have n3 : (0 : Int) < (n : Int) := by omega
  have m4 : (0 : Int) ≤ (m : Int) := by omega
  have q4 : (0 : Int) ≤ (q : Int) := by omega
  have m5 : IntKind.i64.wrap (m : Int) = (m : Int) := IntWalk.i64_in _ (by omega)
  have q5 : IntKind.i64.wrap (q : Int) = (q : Int) := IntWalk.i64_in _ (by omega)
  have B0 := Lib.hid b1
  clear hA hl g1 g2 g3 hm hq b1 HS
  go_enter Try.func9, Try.ntmps9
  go_wp2_with (first
    | (go_at_call 19; ((with_reducible refine (values_at _ _ _ _).mono ?_); rintro e w1 ⟨rfl, rfl⟩))
    | (go_at_call 18; ((with_reducible refine S1.out.mono ?_); rintro e w2 ⟨A', c', rfl, r2, b2⟩; have B2 := Lib.hid (bel_trans B0.out b2); obtain ⟨b, off, rfl, c1, c2, c3⟩ := RDX.out w2 A' r2; clear r2 b2))
    | fail)
  clear S1 RDX
  go_quiet (fail)
  go_wp2
  exact bodyPost_ret (v := .tuple #[.int .i64 (spA xs), .int .i64 (spB xs), .int .i64 (spC xs)]) (by simp [results, Try.results9, go_sem]) rfl ⟨rfl, bel_drewN B2.out _⟩
theorem spread_any (A : Option Addr) (n c : Nat) (xs : List Int) (w : World) (hl : xs.length = n) (hn : n ≤ 1000) (hA : EI.Rd w A xs) :
    Calls Try.prog 9 #[.slice A n c] w fun e w' => e = .returned (.tuple #[.int .i64 (spA xs), .int .i64 (spB xs), .int .i64 (spC xs)]) ∧ Below w.heap.size w w' := by
  by_cases h : 0 < n
  · exact spread_some A n c xs w hl hn h hA
  · obtain rfl : n = 0 := by omega
    obtain rfl : xs = [] := List.eq_nil_of_length_eq_zero hl
    have e : spA [] = 0 ∧ spB [] = 0 ∧ spC [] = 0 := by simp [spA, spB, spC, srt]
    rw [e.1, e.2.1, e.2.2]
    clear hA hl e h hn
    go_enter Try.func9, Try.ntmps9
    go_wp2
    exact bodyPost_ret (v := .tuple #[.int .i64 0, .int .i64 0, .int .i64 0]) (by simp [results, Try.results9, go_sem]) rfl ⟨rfl, Below.refl _ _⟩
end Go.Proofs.Ytniffjjkjgfacaa
