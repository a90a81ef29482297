/- Numbers as they count in a machine's room: clip, sum, times. -/
import Derived.Test.YtifikngmddfahaaRows
import Derived.Test.YtifikngmddfahaaL0
namespace Go.Proofs.Ytifikngmddfahaa
set_option linter.unusedSimpArgs false
open Go.RowKit
set_option linter.unusedVariables false

/-- A number as it counts here. -/
def clp (n : Int) : Int := max 0 (min n 2147483647)
theorem clp_lo (n : Int) : 0 ≤ clp n := by unfold clp; omega
theorem clp_hi (n : Int) : clp n ≤ 2147483647 := by unfold clp; omega
theorem clp_mono {m n : Int} (h : m ≤ n) : clp m ≤ clp n := by unfold clp; omega
theorem clp_id {n : Int} (h0 : 0 ≤ n) (h1 : n ≤ 2147483647) : clp n = n := by unfold clp; omega

set_option maxHeartbeats 1000000 in
theorem clip_any (n : Int) (w : World) :
    Calls Try.prog 21 #[.int .i64 n] w fun e w' => e = .returned (.int .i64 (clp n)) ∧ w = w' := by
  go_enter Try.func21, Try.ntmps21
  go_wp2
  all_goals
    go_ret
    refine ⟨?_, rfl⟩
    simp [clp]
    omega

def sumF (l : List Int) : Int := l.foldl (fun a n => clp (a + clp n)) 0
def timesF (l : List Int) : Int := l.foldl (fun a n => clp (a * clp n)) 1
theorem sum_snoc (l : List Int) (n : Int) : sumF (l ++ [n]) = clp (sumF l + clp n) := by simp [sumF]
theorem times_snoc (l : List Int) (n : Int) : timesF (l ++ [n]) = clp (timesF l * clp n) := by simp [timesF]
theorem fold_rng (f : Int → Int → Int) : ∀ (l : List Int) (a : Int), 0 ≤ a → a ≤ 2147483647 → 0 ≤ l.foldl (fun a n => clp (f a n)) a ∧ l.foldl (fun a n => clp (f a n)) a ≤ 2147483647
  | [], a, h0, h1 => ⟨h0, h1⟩
  | x :: l, a, h0, h1 => fold_rng f l _ (clp_lo _) (clp_hi _)
theorem sum_rng (l : List Int) : 0 ≤ sumF l ∧ sumF l ≤ 2147483647 := fold_rng (fun a n => a + clp n) l 0 (by omega) (by omega)
theorem times_rng (l : List Int) : 0 ≤ timesF l ∧ timesF l ≤ 2147483647 := fold_rng (fun a n => a * clp n) l 1 (by omega) (by omega)
theorem mul_rng {a b : Int} (a0 : 0 ≤ a) (a1 : a ≤ 2147483647) (b0 : 0 ≤ b) (b1 : b ≤ 2147483647) : 0 ≤ a * b ∧ a * b ≤ 4611686014132420609 := by
  refine ⟨Int.mul_nonneg a0 b0, ?_⟩
  have := Int.mul_le_mul a1 b1 b0 (by omega : (0 : Int) ≤ 2147483647)
  omega

set_option maxRecDepth 100000 in
set_option maxHeartbeats 2000000 in
theorem sum_any (A : Option Addr) (n c : Nat) (l : List Int) (w : World) (hl : l.length = n) (hn : n ≤ 1000000) (hA : Rd w w.heap.size A (l.map (Value.int .i64))) :
    Calls Try.prog 22 #[.slice A n c] w fun e w' => e = .returned (.int .i64 (sumF l)) ∧ w = w' := by
  have HL := Lib.hid hl
  clear hl
  go_enter Try.func22, Try.ntmps22
  go_wp2
  go_loop [3, 8] (fun av iv => ∃ k : Nat, k ≤ n ∧ iv = .int .i64 k ∧ av = .int .i64 (sumF (l.take k))) (fun _ i => n - (intOf i).toNat)
  case atStart => exact ⟨0, by omega, rfl, by simp [sumF]⟩
  case round =>
    obtain ⟨k, hk, rfl, rfl⟩ := hrel
    by_cases h8 : k = n
    · have he : l.take k = l := by rw [h8, ← HL.out]; exact List.take_length
      rw [he]
      have hkn : ¬ (k : Int) < (n : Int) := by omega
      clear he hA
      go_wp2_with fail
      go_ret
      exact ⟨rfl, rfl⟩
    · have hkn : k < n := by omega
      have hk1 : (k : Int) < (n : Int) := by omega
      have hk0 : (0 : Int) ≤ (k : Int) := by omega
      have hkl : k < l.length := by rw [HL.out]; exact hkn
      have gk : (l.map (Value.int .i64))[k]? = some (.int .i64 l[k]) := by rw [List.getElem?_map, List.getElem?_eq_getElem hkl]; rfl
      obtain ⟨b, off, rfl, hlt, hc⟩ := hA.get gk
      have ts : sumF (l.take (k + 1)) = clp (sumF (l.take k) + clp l[k]) := by rw [List.take_succ_eq_append_getElem hkl, sum_snoc]
      obtain ⟨s0, s1⟩ := sum_rng (l.take k)
      have c0 := clp_lo l[k]
      have c1 := clp_hi l[k]
      obtain ⟨x, hx⟩ : ∃ x, x = l[k] := ⟨_, rfl⟩
      rw [← hx] at hc ts c0 c1
      obtain ⟨s, hs⟩ : ∃ s, s = sumF (l.take k) := ⟨_, rfl⟩
      rw [← hs] at s0 s1 ts ⊢
      have TS := Lib.hid ts
      clear hA gk hx hs ts
      go_wp2_with fail
      refine (clip_any x _).mono ?_
      rintro e w1 ⟨rfl, rfl⟩
      obtain ⟨y, hy⟩ : ∃ y, y = clp x := ⟨_, rfl⟩
      rw [← hy] at c0 c1 ⊢
      have HY := Lib.hid hy
      clear hy
      go_wp2_with fail
      refine (clip_any (s + y) _).mono ?_
      rintro e w1 ⟨rfl, rfl⟩
      go_wp2
      exact ⟨⟨k + 1, by omega, by simp, by rw [TS.out, ← HY.out]⟩, by simp [intOf]; omega⟩
set_option maxRecDepth 100000 in
set_option maxHeartbeats 2000000 in
theorem times_any (A : Option Addr) (n c : Nat) (l : List Int) (w : World) (hl : l.length = n) (hn : n ≤ 1000000) (hA : Rd w w.heap.size A (l.map (Value.int .i64))) :
    Calls Try.prog 23 #[.slice A n c] w fun e w' => e = .returned (.int .i64 (timesF l)) ∧ w = w' := by
  have HL := Lib.hid hl
  clear hl
  go_enter Try.func23, Try.ntmps23
  go_wp2
  go_loop [3, 8] (fun av iv => ∃ k : Nat, k ≤ n ∧ iv = .int .i64 k ∧ av = .int .i64 (timesF (l.take k))) (fun _ i => n - (intOf i).toNat)
  case atStart => exact ⟨0, by omega, rfl, by simp [timesF]⟩
  case round =>
    obtain ⟨k, hk, rfl, rfl⟩ := hrel
    by_cases h8 : k = n
    · have he : l.take k = l := by rw [h8, ← HL.out]; exact List.take_length
      rw [he]
      have hkn : ¬ (k : Int) < (n : Int) := by omega
      clear he hA
      go_wp2_with fail
      go_ret
      exact ⟨rfl, rfl⟩
    · have hkn : k < n := by omega
      have hk1 : (k : Int) < (n : Int) := by omega
      have hk0 : (0 : Int) ≤ (k : Int) := by omega
      have hkl : k < l.length := by rw [HL.out]; exact hkn
      have gk : (l.map (Value.int .i64))[k]? = some (.int .i64 l[k]) := by rw [List.getElem?_map, List.getElem?_eq_getElem hkl]; rfl
      obtain ⟨b, off, rfl, hlt, hc⟩ := hA.get gk
      have ts : timesF (l.take (k + 1)) = clp (timesF (l.take k) * clp l[k]) := by rw [List.take_succ_eq_append_getElem hkl, times_snoc]
      obtain ⟨s0, s1⟩ := times_rng (l.take k)
      have c0 := clp_lo l[k]
      have c1 := clp_hi l[k]
      obtain ⟨x, hx⟩ : ∃ x, x = l[k] := ⟨_, rfl⟩
      rw [← hx] at hc ts c0 c1
      obtain ⟨s, hs⟩ : ∃ s, s = timesF (l.take k) := ⟨_, rfl⟩
      rw [← hs] at s0 s1 ts ⊢
      have TS := Lib.hid ts
      clear hA gk hx hs ts
      go_wp2_with fail
      refine (clip_any x _).mono ?_
      rintro e w1 ⟨rfl, rfl⟩
      obtain ⟨y, hy⟩ : ∃ y, y = clp x := ⟨_, rfl⟩
      rw [← hy] at c0 c1 ⊢
      obtain ⟨m0, m1⟩ := mul_rng s0 s1 c0 c1
      have HY := Lib.hid hy
      have mw : wrap64 (s * y) = s * y := by unfold wrap64; omega
      clear hy
      go_wp2_with fail
      refine (clip_any (s * y) _).mono ?_
      rintro e w1 ⟨rfl, rfl⟩
      clear mw
      go_wp2
      exact ⟨⟨k + 1, by omega, by simp, by rw [TS.out, ← HY.out]⟩, by simp [intOf]; omega⟩
end Go.Proofs.Ytifikngmddfahaa
