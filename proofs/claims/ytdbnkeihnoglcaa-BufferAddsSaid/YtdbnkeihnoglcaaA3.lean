/- Contracts of the key functions: within, and what the document says that two ranges have in common. -/
import Derived.Test.YtdbnkeihnoglcaaA2
import Derived.Lib.Hide
import Derived.Deep.RegionHeld3
import Derived.Deep.RegionHeld3
namespace Go.Proofs.Ytdbnkeihnoglcaa
set_option linter.unusedSimpArgs false
open Go.RowKit
set_option linter.unusedVariables false

def withinB (a0 a1 b0 b1 : ByteArray) : Bool := (meetF a0 a1 b0 b1).2.2 && ((meetF a0 a1 b0 b1).1.toList == a0.toList && (meetF a0 a1 b0 b1).2.1.toList == a1.toList)

set_option maxHeartbeats 1000000 in
theorem within_any (a0 a1 b0 b1 : ByteArray) (w : World) :
    Calls Try.prog 45 #[.agg #[.string a0, .string a1], .agg #[.string b0, .string b1]] w fun e w' => e = .returned (.bool (withinB a0 a1 b0 b1)) ∧ Below w.heap.size w w' := by
  obtain ⟨m0, m1, ok, hm⟩ : ∃ m0 m1 ok, meetF a0 a1 b0 b1 = (m0, m1, ok) := ⟨_, _, _, rfl⟩
  have hw : withinB a0 a1 b0 b1 = (ok && (m0.toList == a0.toList && m1.toList == a1.toList)) := by simp [withinB, hm]
  rw [hw]
  have C := meet_any a0 a1 b0 b1
  rw [hm] at C
  clear hw hm
  have C' := Lib.hid C
  clear C
  cases ok
  all_goals
    go_enter Try.func45, Try.ntmps45
    go_wp2_with fail
    refine (C'.out _).mono ?_
    rintro e w1 ⟨rfl, hb⟩
    have c0 := cell_later (a := ⟨w.heap.size, 0, none⟩) (v := .string a0) hb (by simp [go_sem])
    have c1 := cell_later (a := ⟨w.heap.size, 1, none⟩) (v := .string a1) hb (by simp [go_sem])
    have hz : w.heap.size < w1.heap.size := by have := hb.size; simp at this; omega
    have hB : Below w.heap.size w w1 := (((Below.refl _ _).alloc (Nat.le_refl _) _).alloc (by simp) _).trans (hb.mono (by simp; omega))
    clear hb
    go_wp2_with fail
    all_goals
      go_ret
      refine ⟨?_, by first | exact hB | exact hB.alloc hB.size _⟩
      simp_all
set_option maxHeartbeats 1000000 in
theorem rwithin_any (a0 a1 b0 b1 : ByteArray) (w : World) :
    Calls Try.prog 46 #[.agg #[.string a0, .string a1], .agg #[.string b0, .string b1]] w fun e w' => e = .returned (.bool (sb a0 a1 && (sb b0 b1 && (!lt a0 b0 && !bef b1 a1)))) ∧ Below w.heap.size w w' := by
  unfold lt
  cases h1 : sb a0 a1
  · go_enter Try.func46, Try.ntmps46
    go_wp2_with (first | (go_at_call 28; refine (rright_at _ _ _).mono ?_; rintro e w' ⟨rfl, rfl⟩) | (go_at_call 62; refine (rbefore_any _ _ _).mono ?_; rintro e w' ⟨rfl, rfl⟩))
    go_ret
    exact ⟨by simp, (((Below.refl _ _).alloc (Nat.le_refl _) _).alloc (by simp; try omega) _).alloc (by simp; try omega) _⟩
  · cases h2 : sb b0 b1
    · go_enter Try.func46, Try.ntmps46
      go_wp2_with (first | (go_at_call 28; refine (rright_at _ _ _).mono ?_; rintro e w' ⟨rfl, rfl⟩) | (go_at_call 62; refine (rbefore_any _ _ _).mono ?_; rintro e w' ⟨rfl, rfl⟩))
      go_ret
      exact ⟨by simp, ((((Below.refl _ _).alloc (Nat.le_refl _) _).alloc (by simp; try omega) _).alloc (by simp; try omega) _).alloc (by simp; try omega) _⟩
    · cases h3 : Op.bytesLess a0.toList b0.toList
      all_goals
        go_enter Try.func46, Try.ntmps46
        go_wp2_with (first | (go_at_call 28; refine (rright_at _ _ _).mono ?_; rintro e w' ⟨rfl, rfl⟩) | (go_at_call 62; refine (rbefore_any _ _ _).mono ?_; rintro e w' ⟨rfl, rfl⟩))
        all_goals
          go_ret
          exact ⟨by simp, ((((Below.refl _ _).alloc (Nat.le_refl _) _).alloc (by simp; try omega) _).alloc (by simp; try omega) _).alloc (by simp; try omega) _⟩

end Go.Proofs.Ytdbnkeihnoglcaa
