/- The word functions: Num's walk for a number that has bytes. -/
import Derived.Test.YteiifcmdpoonmaaW5
namespace Go.Proofs.Yteiifcmdpoonmaa
set_option linter.unusedSimpArgs false
open Go.RowKit
set_option linter.unusedVariables false

theorem shr_step (n : Int) (i : Nat) (hi : i < 5) : n / 128 ^ i / 128 = n / 128 ^ (i + 1) := by
  rcases (by omega : i = 0 ∨ i = 1 ∨ i = 2 ∨ i = 3 ∨ i = 4) with rfl | rfl | rfl | rfl | rfl <;> (simp only [Nat.reduceAdd, Int.reducePow]; omega)
theorem top_step (n : Int) (i : Nat) (h0 : 0 ≤ n) (h1 : n ≤ 2147483647) (hi : i ≤ 4) (h : 128 ≤ n / 128 ^ i) : i < 4 := by
  rcases (by omega : i = 0 ∨ i = 1 ∨ i = 2 ∨ i = 3 ∨ i = 4) with rfl | rfl | rfl | rfl | rfl
  all_goals first
    | omega
    | (simp only [Int.reducePow] at h; omega)
theorem digit_step (m : Int) (h0 : 0 ≤ m) : bits BinOp.or IntKind.u8 (m % 256) 128 = m % 128 + 128 := by
  rw [or128 _ (by omega) (by omega)]; omega

theorem num_conv (B : Nat) (wr : World) (n m : Int) (i : Nat) (hi : i ≤ 4) (hm : m = n / 128 ^ i) (m0 : 0 ≤ m) (m8 : m < 128)
    (hc : ∀ j, j < 5 → wr.cell? ⟨B, j, none⟩ = some (.int .u8 (if j < i then nd n j else 0))) :
    (convert 51 9 (.slice (some ⟨B, 0, none⟩) (i + 1) 5)).run Try.prog (wr.setCell ⟨B, i, none⟩ (.int .u8 m)) = .ok (.string (numS n i)) (wr.setCell ⟨B, i, none⟩ (.int .u8 m)) := by
  have hl : ((List.range i).map (ndb n) ++ [UInt8.ofNat (n / 128 ^ i).toNat]).length = i + 1 := by simp
  have k := run_convert_bytes_back (P := Try.prog) (wr.setCell ⟨B, i, none⟩ (.int .u8 m)) 51 9 5 ⟨B, 0, none⟩ 5 ((List.range i).map (ndb n) ++ [UInt8.ofNat (n / 128 ^ i).toNat]) Try.underlying51 Try.underlying5 Try.underlying9 (fun j hj => ?_)
  · rw [hl] at k
    exact k
  · rw [hl] at hj
    have h := hc j (by omega)
    have ad : (⟨B, 0, none⟩ : Addr).add j = ⟨B, j, none⟩ := by
      by_cases z : j = 0
      · subst z; simp [Addr.add]
      · simp [Addr.add, z]
    rw [ad]
    by_cases q : j = i
    · subst q
      have t : ((UInt8.ofNat (n / 128 ^ j).toNat).toNat : Int) = m := by rw [UInt8.toNat_ofNat', ← hm]; omega
      rw [World.cell?_setCell_same (h := h), List.getElem_append_right (by simp)]
      simp only [List.length_map, List.length_range, Nat.sub_self, List.getElem_cons_zero, t]
    · have q2 : i ≠ j := fun h => q h.symm
      have q3 : j < i := by omega
      rw [if_pos q3] at h
      rw [List.getElem_append_left (by simp; exact q3)]
      simp [go_sem, q, q2, h, ndb_nat]

set_option maxHeartbeats 2000000 in
theorem num_in (n : Int) (w : World) (h0 : 0 ≤ n) (h1 : n ≤ 2147483647) :
    Calls Try.prog 27 #[.int .i64 n] w fun e w' => e = .returned (.string (numS n (numI n))) ∧ Below w.heap.size w w' := by
  go_enter Try.func27, Try.ntmps27
  go_wp2
  go_loopw [0, 4] (fun v p wr => ∃ i : Nat, ∃ m : Int, i ≤ 4 ∧ p = .int .i64 i ∧ v = .int .i64 m ∧ m = n / 128 ^ i ∧ 0 ≤ m ∧ (∀ j, j < i → 128 ≤ n / 128 ^ j) ∧ (∀ j, j < 5 → wr.cell? ⟨w.heap.size, j, none⟩ = some (.int .u8 (if j < i then nd n j else 0))) ∧ (∀ j, j < 5 → wr.frozen? ⟨w.heap.size, j, none⟩ = false) ∧ Below w.heap.size w wr) (fun v _ _ => (intOf v).toNat)
  case atStart =>
    refine ⟨0, n, by omega, rfl, rfl, by rw [Int.pow_zero, Int.ediv_one], h0, fun j hj => by omega, fun j hj => ?_, fun j hj => ?_, (Below.refl _ _).alloc (Nat.le_refl _) _⟩
    · rcases (by omega : j = 0 ∨ j = 1 ∨ j = 2 ∨ j = 3 ∨ j = 4) with rfl | rfl | rfl | rfl | rfl <;> simp [go_sem]
    · simp [go_sem]
  case round =>
    obtain ⟨i, m, hi, rfl, rfl, hm, m0, hb, hc, hf, hB⟩ := hrel
    have hi5 : (i : Int) < 5 := by omega
    have c := hc i (by omega)
    have f := hf i (by omega)
    simp only [Nat.lt_irrefl, if_false] at c
    have HC := Lib.hid hc
    have HF := Lib.hid hf
    have HM := Lib.hid hm
    have HBB := Lib.hid hb
    by_cases h8 : 128 ≤ m
    · have hi4 := top_step n i h0 h1 hi (by rw [← hm]; exact h8)
      have hd := digit_step m m0
      have hs := shr_step n i (by omega)
      rw [← hm] at hs
      have HS := Lib.hid hs
      clear hc hf hm hs hb
      go_wp2
      have e := HM.out
      refine ⟨⟨i + 1, m / 128, by omega, by simp, rfl, HS.out, by omega, fun j hj => ?_, fun j hj => ?_, fun j hj => ?_, hB.setCell (Nat.le_refl _) _⟩, by simp [intOf]; omega⟩
      · by_cases q : j = i
        · subst q; rw [← e]; exact h8
        · exact HBB.out j (by omega)
      · have h := HC.out j hj
        by_cases q : j = i
        · subst q
          simp [go_sem, c, nd, e]
        · have e' : (j < i + 1) = (j < i) := by simp; omega
          have e2 : i ≠ j := fun h => q h.symm
          simp only [e']
          simp [go_sem, q, e2, h]
      · have h := HF.out j hj
        simp [go_sem, h]
    · have hI := numI_eq n i h0 h1 hi (by rw [← hm]; omega) hb
      have hm8 : m < 128 := by omega
      have HI := Lib.hid hI
      have hv := num_conv w.heap.size wr n m i hi hm m0 hm8 hc
      clear hc hf hm hb hI
      rcases (by omega : i = 0 ∨ i = 1 ∨ i = 2 ∨ i = 3 ∨ i = 4) with rfl | rfl | rfl | rfl | rfl
      all_goals
        simp only [Nat.reduceAdd] at hv
        go_wp2
        go_ret
        refine ⟨by rw [HI.out]; rfl, hB.setCell (Nat.le_refl _) _⟩
end Go.Proofs.Yteiifcmdpoonmaa
