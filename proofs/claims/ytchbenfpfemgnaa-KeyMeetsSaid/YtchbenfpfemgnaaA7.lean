/- The law KeyMeets answers true. -/
import Derived.Test.YtchbenfpfemgnaaA5
import Derived.Test.YtchbenfpfemgnaaA6
namespace Go.Proofs.Ytchbenfpfemgnaa
set_option linter.unusedSimpArgs false
open Go.RowKit
set_option linter.unusedVariables false

theorem lt_irr (a : ByteArray) : lt a a = false := bl_irr _
theorem not_lt_max (a b s : ByteArray) : (!lt s (maxS a b)) = (!lt s a && !lt s b) := by
  unfold maxS
  cases h : lt a b
  · simp only [Bool.false_eq_true, if_false]
    cases k : lt s a
    · have : lt s b = false := by
        cases k2 : lt s b with
        | false => rfl
        | true =>
          exfalso
          rcases bl_tri a.toList b.toList with x | x | x
          · unfold lt at h; rw [h] at x; cases x
          · unfold lt at k k2; rw [x, k2] at k; cases k
          · have := bl_trans _ _ _ k2 x; unfold lt at k; rw [k] at this; cases this
      simp [this]
    · simp
  · simp only [if_true]
    cases k : lt s b
    · have : lt s a = false := by
        cases k2 : lt s a with
        | false => rfl
        | true => exfalso; have := bl_trans _ _ _ k2 h; unfold lt at k; rw [k] at this; cases this
      simp [this]
    · simp
theorem sb_first (a b s : ByteArray) : sb s (firstS a b) = (sb s a && sb s b) := by
  unfold firstS
  cases h : bef b a
  · simp only [Bool.false_eq_true, if_false]
    unfold bef sb emp lt at *
    cases ea : a.toList.isEmpty <;> cases eb : b.toList.isEmpty <;> simp_all
    intro k
    rcases bl_tri a.toList b.toList with x | x | x
    · exact bl_trans _ _ _ k x
    · rw [← x]; exact k
    · rw [h] at x; cases x
  · simp only [if_true]
    unfold bef sb emp lt at *
    cases ea : a.toList.isEmpty <;> cases eb : b.toList.isEmpty <;> simp_all
    intro k
    exact bl_trans _ _ _ k h
theorem has_none (f t s : ByteArray) (h : sb f t = false) : has f t s = false := by
  unfold sb emp lt at h
  unfold has sb emp lt
  simp only [Bool.or_eq_false_iff] at h
  obtain ⟨h1, h2⟩ := h
  cases k : Op.bytesLess s.toList f.toList
  · cases k2 : Op.bytesLess s.toList t.toList
    · simp [h1]
    · exfalso
      rcases bl_tri s.toList f.toList with x | x | x
      · rw [k] at x; cases x
      · rw [x, h2] at k2; cases k2
      · have := bl_trans _ _ _ x k2; rw [h2] at this; cases this
  · simp
theorem has_meetE (a0 a1 b0 b1 s : ByteArray) : (has a0 a1 s && has b0 b1 s) = ((meetE a0 a1 b0 b1).2.2 && has (meetE a0 a1 b0 b1).1 (meetE a0 a1 b0 b1).2.1 s) := by
  have e : (has a0 a1 s && has b0 b1 s) = has (maxS a0 b0) (firstS a1 b1) s := by
    unfold has; rw [not_lt_max, sb_first]
    cases lt s a0 <;> cases lt s b0 <;> cases sb s a1 <;> cases sb s b1 <;> rfl
  rw [e]
  unfold meetE
  cases h : sb (maxS a0 b0) (firstS a1 b1)
  · simp [has_none _ _ s h]
  · simp
theorem has_list (a0 a1 b0 b1 s : ByteArray) (h : a0.toList = b0.toList) (k : a1.toList = b1.toList) : has a0 a1 s = has b0 b1 s := by
  unfold has sb emp lt; rw [h, k]
theorem has_meet (a0 a1 b0 b1 s : ByteArray) (h1 : sb a0 a1 = true) (h2 : sb b0 b1 = true) : (has a0 a1 s && has b0 b1 s) = ((meetF a0 a1 b0 b1).2.2 && has (meetF a0 a1 b0 b1).1 (meetF a0 a1 b0 b1).2.1 s) := by
  unfold meetF
  rw [if_pos ⟨h1, h2⟩]
  by_cases h : a0.toList = b0.toList ∧ a1.toList = b1.toList
  · rw [if_pos h, ← has_list a0 a1 b0 b1 s h.1 h.2]; simp
  · rw [if_neg h]; exact has_meetE a0 a1 b0 b1 s
theorem within_has (a0 a1 b0 b1 s : ByteArray) (h1 : sb a0 a1 = true) (h2 : sb b0 b1 = true) (hw : withinB a0 a1 b0 b1 = true) (ha : has a0 a1 s = true) : has b0 b1 s = true := by
  have k := has_meet a0 a1 b0 b1 s h1 h2
  unfold withinB at hw
  simp only [Bool.and_eq_true, beq_iff_eq] at hw
  rw [has_list _ _ _ _ s hw.2.1 hw.2.2, hw.1, ha] at k
  simpa using k

set_option maxHeartbeats 4000000 in
theorem meets_walk (a0 a1 b0 b1 s : ByteArray) (w : World) :
    Calls Try.prog 5 #[.agg #[.string a0, .string a1], .agg #[.string b0, .string b1], .string s] w fun e w' => e = .returned (.bool true) ∧ Below w.heap.size w w' := by
  cases h1 : sb a0 a1
  · go_enter Try.func5, Try.ntmps5
    go_wp2_with fail
    refine (rright_at _ _ _).mono ?_
    rintro e w1 ⟨rfl, rfl⟩
    go_wp2_with fail
    refine (live_any _).mono ?_
    rintro e w1 ⟨rfl, hb⟩
    go_wp2_with fail
    go_ret
    exact ⟨rfl, ((((Below.refl _ _).alloc (Nat.le_refl _) _).alloc (by simp) _).alloc (by simp; omega) _).trans (hb.mono (by simp; omega))⟩
  · cases h2 : sb b0 b1
    · go_enter Try.func5, Try.ntmps5
      go_wp2_with fail
      refine (rright_at _ _ _).mono ?_
      rintro e w1 ⟨rfl, rfl⟩
      go_wp2_with fail
      refine (rright_at _ _ _).mono ?_
      rintro e w1 ⟨rfl, rfl⟩
      go_wp2_with fail
      refine (live_any _).mono ?_
      rintro e w1 ⟨rfl, hb⟩
      go_wp2_with fail
      go_ret
      exact ⟨rfl, (((((Below.refl _ _).alloc (Nat.le_refl _) _).alloc (by simp) _).alloc (by simp; omega) _).alloc (by simp; omega) _).trans (hb.mono (by simp; omega))⟩
    · have hin := has_meet a0 a1 b0 b1 s h1 h2
      have hwi := within_has a0 a1 b0 b1 s h1 h2
      obtain ⟨m0, m1, ok, hm⟩ : ∃ m0 m1 ok, meetF a0 a1 b0 b1 = (m0, m1, ok) := ⟨_, _, _, rfl⟩
      have C := meet_any a0 a1 b0 b1
      rw [hm] at C hin
      simp only at hin
      clear hm
      have C' := Lib.hid C
      clear C
      cases ha : has a0 a1 s <;> cases hb : has b0 b1 s <;> cases hc : has m0 m1 s <;> cases ok <;> cases wi : withinB a0 a1 b0 b1
      all_goals
        rw [ha, hb, hc] at hin
        first
          | (cases hin; done)
          | (exfalso; have := hwi wi ha; rw [hb] at this; cases this; done)
          | skip
      all_goals
        clear hin hwi
        go_enter Try.func5, Try.ntmps5
        go_wp2_with fail
        refine (rright_at _ _ _).mono ?_
        rintro e w1 ⟨rfl, rfl⟩
        go_wp2_with fail
        refine (rright_at _ _ _).mono ?_
        rintro e w1 ⟨rfl, rfl⟩
        go_wp2_with fail
        refine at_world (fun W0 hW => ?_)
        have c0 : W0.cell? ⟨w.heap.size, 0, none⟩ = some (.string a0) := by rw [hW]; simp [go_sem]
        have c1 : W0.cell? ⟨w.heap.size, 1, none⟩ = some (.string a1) := by rw [hW]; simp [go_sem]
        have c2 : W0.cell? ⟨w.heap.size + 1, 0, none⟩ = some (.string b0) := by rw [hW]; simp [go_sem]
        have c3 : W0.cell? ⟨w.heap.size + 1, 1, none⟩ = some (.string b1) := by rw [hW]; simp [go_sem]
        have hz : w.heap.size + 1 < W0.heap.size := by rw [hW]; simp; try omega
        have hB : Below w.heap.size w W0 := by rw [hW]; exact ((((Below.refl _ _).alloc (Nat.le_refl _) _).alloc (by simp) _).alloc (by simp; omega) _).alloc (by simp; omega) _
        clear hW
        refine (C'.out _).mono ?_
        rintro e w1 ⟨rfl, hb1⟩
        replace c0 := cell_later hb1 c0
        replace c1 := cell_later hb1 c1
        replace c2 := cell_later hb1 c2
        replace c3 := cell_later hb1 c3
        replace hz : w.heap.size + 1 < w1.heap.size := Nat.lt_of_lt_of_le hz hb1.size
        replace hB := hB.trans (hb1.mono hB.size)
        have hz0 : w.heap.size < w1.heap.size := by omega
        clear hb1
        go_wp2_with fail
        refine at_world (fun W2 hW => ?_)
        replace c0 : W2.cell? ⟨w.heap.size, 0, none⟩ = some (.string a0) := by rw [hW, World.cell?_alloc_lt (h := by simp; omega)]; exact c0
        replace c1 : W2.cell? ⟨w.heap.size, 1, none⟩ = some (.string a1) := by rw [hW, World.cell?_alloc_lt (h := by simp; omega)]; exact c1
        replace c2 : W2.cell? ⟨w.heap.size + 1, 0, none⟩ = some (.string b0) := by rw [hW, World.cell?_alloc_lt (h := by simp; omega)]; exact c2
        replace c3 : W2.cell? ⟨w.heap.size + 1, 1, none⟩ = some (.string b1) := by rw [hW, World.cell?_alloc_lt (h := by simp; omega)]; exact c3
        have d0 : W2.cell? ⟨w1.heap.size, 0, none⟩ = some (.string m0) := by rw [hW]; simp [go_sem]
        have d1 : W2.cell? ⟨w1.heap.size, 1, none⟩ = some (.string m1) := by rw [hW]; simp [go_sem]
        replace hB : Below w.heap.size w W2 := by rw [hW]; exact hB.alloc hB.size _
        clear hW hz hz0
        go_wp2_with (first
          | (go_at_call 21; refine (holds_any _ _ _ _).mono ?_; rintro e w' ⟨rfl, hb1⟩; replace c0 := cell_later hb1 c0; replace c1 := cell_later hb1 c1; replace c2 := cell_later hb1 c2; replace c3 := cell_later hb1 c3; replace d0 := cell_later hb1 d0; replace d1 := cell_later hb1 d1; replace hB := hB.trans (hb1.mono hB.size); clear hb1)
          | (go_at_call 10; refine (live_any _).mono ?_; rintro e w' ⟨rfl, hb1⟩; replace c0 := cell_later hb1 c0; replace c1 := cell_later hb1 c1; replace c2 := cell_later hb1 c2; replace c3 := cell_later hb1 c3; replace d0 := cell_later hb1 d0; replace d1 := cell_later hb1 d1; replace hB := hB.trans (hb1.mono hB.size); clear hb1)
          | (go_at_call 23; refine (within_any _ _ _ _ _).mono ?_; rintro e w' ⟨rfl, hb1⟩; replace c0 := cell_later hb1 c0; replace c1 := cell_later hb1 c1; replace c2 := cell_later hb1 c2; replace c3 := cell_later hb1 c3; replace d0 := cell_later hb1 d0; replace d1 := cell_later hb1 d1; replace hB := hB.trans (hb1.mono hB.size); clear hb1))
        go_ret
        exact ⟨rfl, hB⟩
end Go.Proofs.Ytchbenfpfemgnaa
