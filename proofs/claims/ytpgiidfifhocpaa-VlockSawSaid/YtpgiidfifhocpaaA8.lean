/- Contracts of the calls that make a number of a lock word, and back. -/
import Derived.Test.YtpgiidfifhocpaaA4
import Derived.IntWalk
namespace Go.Proofs.Ytpgiidfifhocpaa
set_option linter.unusedSimpArgs false
open Go.RowKit
set_option linter.unusedVariables false

theorem and127 (u : Int) (h1 : 0 ≤ u) (h2 : u < 18446744073709551616) : bits .and .u64 u 127 = u % 128 := by
  rw [u64_and u 127 h1 h2 (by omega) (by omega)]
  have e : (127 : Int).toNat = 2 ^ 7 - 1 := by decide
  rw [e, Nat.and_two_pow_sub_one_eq_mod]
  omega
theorem nat_and128 (n : Nat) : n &&& 2 ^ 7 = if n / 2 ^ 7 % 2 = 1 then 2 ^ 7 else 0 := by
  apply Nat.eq_of_testBit_eq
  intro i
  rw [Nat.testBit_and, Nat.testBit_two_pow]
  by_cases h : 7 = i
  · subst h
    rw [Nat.testBit_eq_decide_div_mod_eq]
    by_cases k : n / 2 ^ 7 % 2 = 1
    · rw [if_pos k, Nat.testBit_two_pow]; simp [k]
    · rw [if_neg k]; simp [k]
  · have e : decide (7 = i) = false := by simp [h]
    rw [e, Bool.and_false]
    split
    · rw [Nat.testBit_two_pow]; simp [h]
    · simp
theorem and128 (u : Int) (h1 : 0 ≤ u) (h2 : u < 18446744073709551616) : bits .and .u64 u 128 = if u / 128 % 2 = 1 then 128 else 0 := by
  rw [u64_and u 128 h1 h2 (by omega) (by omega)]
  have e : (128 : Int).toNat = 2 ^ 7 := by decide
  rw [e, nat_and128]
  by_cases h : u.toNat / 2 ^ 7 % 2 = 1
  · have k : u / 128 % 2 = 1 := by omega
    rw [if_pos h, if_pos k]; rfl
  · have k : ¬ u / 128 % 2 = 1 := by omega
    rw [if_neg h, if_neg k]; rfl
theorem or_low (v o : Int) (h1 : 0 ≤ v) (h2 : v ≤ 1099511627776) (h3 : 0 ≤ o) (h4 : o < 256) : bits .or .u64 (v * 256) o = v * 256 + o := by
  rw [u64_or (v * 256) o (by omega) (by omega) h3 (by omega)]
  have e : (v * 256).toNat = 2 ^ 8 * v.toNat := by omega
  rw [e, ← Nat.two_pow_add_eq_or_of_lt (by omega : o.toNat < 2 ^ 8)]
  omega
theorem or_gone (v : Int) (h1 : 0 ≤ v) (h2 : v ≤ 1099511627776) : bits .or .u64 (v * 256) 128 = v * 256 + 128 := or_low v 128 h1 h2 (by omega) (by omega)

theorem right_facts (v o : Int) (g : Bool) (h : rightB v o g = true) : 0 ≤ v ∧ v ≤ 1099511627776 ∧ 0 ≤ o ∧ o ≤ 64 ∧ (g = true → o = 0) := by
  unfold rightB at h
  cases g <;> simp at h <;> refine ⟨by omega, by omega, by omega, by omega, ?_⟩ <;> intro k <;> first | (cases k; done) | omega

def packN (v o : Int) (g : Bool) : Int := if rightB v o g then v * 256 + o + (if g then 128 else 0) else 0
def packE (v o : Int) (g : Bool) : Int := if rightB v o g then 0 else 2
def goneB (u : Int) : Bool := decide (u / 128 % 2 = 1)
def unpackF (u : Int) : Q := if rightB (u / 256) (u % 128) (goneB u) then (u / 256, u % 128, goneB u, 0) else (0, 0, false, 3)
abbrev pv (n e : Int) : Value := .tuple #[.int .u64 n, .int .i64 e]

set_option maxHeartbeats 1000000 in
theorem pack_any (v o : Int) (g : Bool) (w : World) :
    Calls Try.prog 25 #[.agg #[.int .i64 v, .int .i64 o, .bool g]] w fun e w' => e = .returned (pv (packN v o g) (packE v o g)) ∧ Below w.heap.size w w' := by
  cases h : rightB v o g
  · have e1 : packN v o g = 0 := by simp [packN, h]
    have e2 : packE v o g = 2 := by simp [packE, h]
    rw [e1, e2]; clear e1 e2
    go_enter Try.func25, Try.ntmps25
    go_wp2_with fail
    refine (right_any _ _ _ _).mono ?_
    rintro e w1 ⟨rfl, hb⟩
    go_wp2_with fail
    go_ret2
    exact ⟨rfl, ((Below.refl _ _).alloc (Nat.le_refl _) _).trans (hb.mono (by simp))⟩
  · obtain ⟨b1, b2, b3, b4, b5⟩ := right_facts v o g h
    cases g
    · have e1 : packN v o false = v * 256 + o := by simp [packN, h]
      have e2 : packE v o false = 0 := by simp [packE, h]
      have hO := or_low v o b1 b2 b3 (by omega)
      rw [e1, e2]; clear e1 e2 b5
      go_enter Try.func25, Try.ntmps25
      go_wp2_with fail
      refine (right_any _ _ _ _).mono ?_
      rintro e w1 ⟨rfl, hb⟩
      have c0 := cell_later (a := ⟨w.heap.size, 0, none⟩) (v := .int .i64 v) hb (by simp [go_sem])
      have c1 := cell_later (a := ⟨w.heap.size, 1, none⟩) (v := .int .i64 o) hb (by simp [go_sem])
      have c2 := cell_later (a := ⟨w.heap.size, 2, none⟩) (v := .bool false) hb (by simp [go_sem])
      go_wp2_with fail
      go_ret2
      exact ⟨rfl, ((Below.refl _ _).alloc (Nat.le_refl _) _).trans (hb.mono (by simp))⟩
    · have ho : o = 0 := b5 rfl
      subst ho
      have e1 : packN v 0 true = v * 256 + 128 := by simp [packN, h]
      have e2 : packE v 0 true = 0 := by simp [packE, h]
      have hO := or_low v 0 b1 b2 (by omega) (by omega)
      have hG := or_gone v b1 b2
      rw [Int.add_zero] at hO
      rw [e1, e2]; clear e1 e2 b5
      go_enter Try.func25, Try.ntmps25
      go_wp2_with fail
      refine (right_any _ _ _ _).mono ?_
      rintro e w1 ⟨rfl, hb⟩
      have c0 := cell_later (a := ⟨w.heap.size, 0, none⟩) (v := .int .i64 v) hb (by simp [go_sem])
      have c1 := cell_later (a := ⟨w.heap.size, 1, none⟩) (v := .int .i64 0) hb (by simp [go_sem])
      have c2 := cell_later (a := ⟨w.heap.size, 2, none⟩) (v := .bool true) hb (by simp [go_sem])
      go_wp2_with fail
      go_ret2
      exact ⟨rfl, ((Below.refl _ _).alloc (Nat.le_refl _) _).trans (hb.mono (by simp))⟩
set_option maxHeartbeats 1000000 in
theorem rpack_any (v o : Int) (g : Bool) (w : World) :
    Calls Try.prog 26 #[.agg #[.int .i64 v, .int .i64 o, .bool g]] w fun e w' => e = .returned (pv (packN v o g) (packE v o g)) ∧ Below w.heap.size w w' := by
  cases h : rightB v o g
  · have e1 : packN v o g = 0 := by simp [packN, h]
    have e2 : packE v o g = 2 := by simp [packE, h]
    rw [e1, e2]; clear e1 e2
    go_enter Try.func26, Try.ntmps26
    go_wp2_with fail
    refine (rright_any _ _ _ _).mono ?_
    rintro e w1 ⟨rfl, hb⟩
    go_wp2_with fail
    go_ret2
    exact ⟨rfl, ((Below.refl _ _).alloc (Nat.le_refl _) _).trans (hb.mono (by simp))⟩
  · obtain ⟨b1, b2, b3, b4, b5⟩ := right_facts v o g h
    cases g
    · have e1 : packN v o false = v * 256 + o := by simp [packN, h]
      have e2 : packE v o false = 0 := by simp [packE, h]
      rw [e1, e2]; clear e1 e2 b5
      go_enter Try.func26, Try.ntmps26
      go_wp2_with fail
      refine (rright_any _ _ _ _).mono ?_
      rintro e w1 ⟨rfl, hb⟩
      have c0 := cell_later (a := ⟨w.heap.size, 0, none⟩) (v := .int .i64 v) hb (by simp [go_sem])
      have c1 := cell_later (a := ⟨w.heap.size, 1, none⟩) (v := .int .i64 o) hb (by simp [go_sem])
      have c2 := cell_later (a := ⟨w.heap.size, 2, none⟩) (v := .bool false) hb (by simp [go_sem])
      go_wp2_with fail
      go_ret2
      exact ⟨rfl, ((Below.refl _ _).alloc (Nat.le_refl _) _).trans (hb.mono (by simp))⟩
    · have ho : o = 0 := b5 rfl
      subst ho
      have e1 : packN v 0 true = v * 256 + 128 := by simp [packN, h]
      have e2 : packE v 0 true = 0 := by simp [packE, h]
      rw [e1, e2]; clear e1 e2 b5
      go_enter Try.func26, Try.ntmps26
      go_wp2_with fail
      refine (rright_any _ _ _ _).mono ?_
      rintro e w1 ⟨rfl, hb⟩
      have c0 := cell_later (a := ⟨w.heap.size, 0, none⟩) (v := .int .i64 v) hb (by simp [go_sem])
      have c1 := cell_later (a := ⟨w.heap.size, 1, none⟩) (v := .int .i64 0) hb (by simp [go_sem])
      have c2 := cell_later (a := ⟨w.heap.size, 2, none⟩) (v := .bool true) hb (by simp [go_sem])
      go_wp2_with fail
      go_ret2
      exact ⟨rfl, ((Below.refl _ _).alloc (Nat.le_refl _) _).trans (hb.mono (by simp))⟩

set_option maxHeartbeats 1000000 in
theorem unpack_any (u : Int) (w : World) (h1 : 0 ≤ u) (h2 : u < 18446744073709551616) :
    Calls Try.prog 27 #[.int .u64 u] w fun e w' => e = .returned (qv (unpackF u)) ∧ Below w.heap.size w w' := by
  have hA := and127 u h1 h2
  have hB := and128 u h1 h2
  cases hg : goneB u
  · have k : ¬ u / 128 % 2 = 1 := by unfold goneB at hg; simpa using hg
    rw [if_neg k] at hB
    clear k
    cases h : rightB (u / 256) (u % 128) false
    · have e : unpackF u = (0, 0, false, 3) := by simp [unpackF, hg, h]
      rw [e]; clear e
      go_enter Try.func27, Try.ntmps27
      go_wp2_with fail
      refine (right_any _ _ _ _).mono ?_
      rintro e w1 ⟨rfl, hb⟩
      obtain ⟨c0, c1, c2, c3, c4, c5⟩ := keep3 hb w.heap.size (.int .i64 0) (.int .i64 0) (.bool false) (by simp [go_sem]) (by simp [go_sem]) (by simp [go_sem]) (by simp [go_sem]) (by simp [go_sem]) (by simp [go_sem])
      go_wp2_with fail
      refine bodyPost_ret (v := qv (0, 0, false, 3)) (by simp [results, Try.results27, go_sem, c0, c1, c2]) rfl ⟨rfl, (((((Below.refl _ _).alloc (Nat.le_refl _) _).alloc (by simp) _).trans (hb.mono (by simp; try omega))).setCell (by simp) _ |>.setCell (by simp) _).setCell (by simp) _⟩
    · have e : unpackF u = (u / 256, u % 128, false, 0) := by simp [unpackF, hg, h]
      rw [e]; clear e
      go_enter Try.func27, Try.ntmps27
      go_wp2_with fail
      refine (right_any _ _ _ _).mono ?_
      rintro e w1 ⟨rfl, hb⟩
      obtain ⟨c0, c1, c2, c3, c4, c5⟩ := keep3 hb w.heap.size (.int .i64 0) (.int .i64 0) (.bool false) (by simp [go_sem]) (by simp [go_sem]) (by simp [go_sem]) (by simp [go_sem]) (by simp [go_sem]) (by simp [go_sem])
      obtain ⟨d0, d1, d2, d3, d4, d5⟩ := keep3 hb (w.heap.size + 1) (.int .i64 (u / 256)) (.int .i64 (u % 128)) (.bool false) (by simp [go_sem]) (by simp [go_sem]) (by simp [go_sem]) (by simp [go_sem]) (by simp [go_sem]) (by simp [go_sem])
      go_wp2_with fail
      refine bodyPost_ret (v := qv (u / 256, u % 128, false, 0)) (by simp [results, Try.results27, go_sem, c0, c1, c2]) rfl ⟨rfl, (((((Below.refl _ _).alloc (Nat.le_refl _) _).alloc (by simp) _).trans (hb.mono (by simp; try omega))).setCell (by simp) _ |>.setCell (by simp) _).setCell (by simp) _⟩
  · have k : u / 128 % 2 = 1 := by unfold goneB at hg; simpa using hg
    rw [if_pos k] at hB
    clear k
    cases h : rightB (u / 256) (u % 128) true
    · have e : unpackF u = (0, 0, false, 3) := by simp [unpackF, hg, h]
      rw [e]; clear e
      go_enter Try.func27, Try.ntmps27
      go_wp2_with fail
      refine (right_any _ _ _ _).mono ?_
      rintro e w1 ⟨rfl, hb⟩
      obtain ⟨c0, c1, c2, c3, c4, c5⟩ := keep3 hb w.heap.size (.int .i64 0) (.int .i64 0) (.bool false) (by simp [go_sem]) (by simp [go_sem]) (by simp [go_sem]) (by simp [go_sem]) (by simp [go_sem]) (by simp [go_sem])
      go_wp2_with fail
      refine bodyPost_ret (v := qv (0, 0, false, 3)) (by simp [results, Try.results27, go_sem, c0, c1, c2]) rfl ⟨rfl, (((((Below.refl _ _).alloc (Nat.le_refl _) _).alloc (by simp) _).trans (hb.mono (by simp; try omega))).setCell (by simp) _ |>.setCell (by simp) _).setCell (by simp) _⟩
    · have e : unpackF u = (u / 256, u % 128, true, 0) := by simp [unpackF, hg, h]
      rw [e]; clear e
      go_enter Try.func27, Try.ntmps27
      go_wp2_with fail
      refine (right_any _ _ _ _).mono ?_
      rintro e w1 ⟨rfl, hb⟩
      obtain ⟨c0, c1, c2, c3, c4, c5⟩ := keep3 hb w.heap.size (.int .i64 0) (.int .i64 0) (.bool false) (by simp [go_sem]) (by simp [go_sem]) (by simp [go_sem]) (by simp [go_sem]) (by simp [go_sem]) (by simp [go_sem])
      obtain ⟨d0, d1, d2, d3, d4, d5⟩ := keep3 hb (w.heap.size + 1) (.int .i64 (u / 256)) (.int .i64 (u % 128)) (.bool true) (by simp [go_sem]) (by simp [go_sem]) (by simp [go_sem]) (by simp [go_sem]) (by simp [go_sem]) (by simp [go_sem])
      go_wp2_with fail
      refine bodyPost_ret (v := qv (u / 256, u % 128, true, 0)) (by simp [results, Try.results27, go_sem, c0, c1, c2]) rfl ⟨rfl, (((((Below.refl _ _).alloc (Nat.le_refl _) _).alloc (by simp) _).trans (hb.mono (by simp; try omega))).setCell (by simp) _ |>.setCell (by simp) _).setCell (by simp) _⟩

theorem unpackF_no (u : Int) (h1 : 0 ≤ u) (h : 1099511627776 < u / 256 ∨ 64 < u % 128 ∨ (u / 128 % 2 = 1 ∧ 0 < u % 128)) : unpackF u = (0, 0, false, 3) := by
  have e : rightB (u / 256) (u % 128) (goneB u) = false := by
    unfold rightB goneB
    rcases h with h | h | ⟨h, k⟩
    · simp; omega
    · simp; omega
    · simp [h]; omega
  simp [unpackF, e]
theorem unpackF_yes (u : Int) (h1 : 0 ≤ u) (h2 : u / 256 ≤ 1099511627776) (h3 : u % 128 ≤ 64) (h4 : u / 128 % 2 = 1 → u % 128 ≤ 0) : unpackF u = (u / 256, u % 128, goneB u, 0) := by
  have e : rightB (u / 256) (u % 128) (goneB u) = true := by
    unfold rightB goneB
    by_cases k : u / 128 % 2 = 1
    · have := h4 k; simp [k]; omega
    · simp [k]; omega
  simp [unpackF, e]
set_option maxHeartbeats 1000000 in
theorem runpack_any (u : Int) (w : World) (h1 : 0 ≤ u) (h2 : u < 18446744073709551616) :
    Calls Try.prog 28 #[.int .u64 u] w fun e w' => e = .returned (qv (unpackF u)) ∧ Below w.heap.size w w' := by
  go_enter Try.func28, Try.ntmps28
  go_wp2_with fail
  · rw [unpackF_no u h1 (by omega)]
    refine bodyPost_ret (v := qv (0, 0, false, 3)) (by simp [results, Try.results28, go_sem]) rfl ⟨rfl, (Below.refl _ _).alloc (Nat.le_refl _) _⟩
  · rw [unpackF_yes u h1 (by omega) (by omega) (by omega)]
    refine bodyPost_ret (v := qv (u / 256, u % 128, goneB u, 0)) (by simp [results, Try.results28, go_sem, goneB] <;> first | omega | assumption | simp_all) rfl ⟨rfl, (Below.refl _ _).alloc (Nat.le_refl _) _⟩
  · rw [unpackF_yes u h1 (by omega) (by omega) (by omega)]
    refine bodyPost_ret (v := qv (u / 256, u % 128, goneB u, 0)) (by simp [results, Try.results28, go_sem, goneB] <;> first | omega | assumption | simp_all) rfl ⟨rfl, (Below.refl _ _).alloc (Nat.le_refl _) _⟩
  · rw [unpackF_no u h1 (by omega)]
    refine bodyPost_ret (v := qv (0, 0, false, 3)) (by simp [results, Try.results28, go_sem]) rfl ⟨rfl, (Below.refl _ _).alloc (Nat.le_refl _) _⟩
  · rw [unpackF_no u h1 (by omega)]
    refine bodyPost_ret (v := qv (0, 0, false, 3)) (by simp [results, Try.results28, go_sem]) rfl ⟨rfl, (Below.refl _ _).alloc (Nat.le_refl _) _⟩
end Go.Proofs.Ytpgiidfifhocpaa
