/- What live asks: plain facts. -/
import Derived.Test.YtdbnkeihnoglcaaN3
import Derived.Test.YtdbnkeihnoglcaaR7
namespace Go.Proofs.Ytdbnkeihnoglcaa
set_option linter.unusedSimpArgs false
open Go.RowKit Go.Maps
set_option linter.unusedVariables false
abbrev kA : ByteArray := ⟨#[97]⟩
abbrev kC : ByteArray := ⟨#[99]⟩
abbrev kD : ByteArray := ⟨#[100]⟩
abbrev kF : ByteArray := ⟨#[102]⟩
abbrev kZ : ByteArray := ⟨#[122]⟩
abbrev l1 : MG := ⟨4, 1, kA, kZ, emptyS, 0⟩
abbrev l2 : MG := ⟨1, 2, kD, emptyS, emptyS, 0⟩
abbrev l3 : MG := ⟨4, 1, kC, kF, emptyS, 0⟩
abbrev l4 : MG := ⟨4, 1, kA, kC, emptyS, 0⟩
abbrev l5 : MG := ⟨4, 1, kF, kZ, emptyS, 0⟩
theorem live_ord : ¬ ordM l2 l1 < 0 := by
  have : ordM l2 l1 = 1 := rfl
  rw [this]; omega
theorem live_ok : OkA [l1, l2] := by
  intro x hx
  simp at hx
  rcases hx with rfl | rfl <;> refine ⟨?_, ?_, ?_⟩ <;> decide
theorem live_ok3 : OkA [l3, l2] := by
  intro x hx
  simp at hx
  rcases hx with rfl | rfl <;> refine ⟨?_, ?_, ?_⟩ <;> decide
theorem live_for : forL kC kF [l1, l2] = [l3, l2] := by
  have e1 : clipM l1 kC kF = (l3, true) := by
    simp [clipM, isPt, meetF, meetE, sb, emp, lt, maxS, firstS, bef, toList_eq, Op.bytesLess, overM]
  have e2 : clipM l2 kC kF = (l2, true) := by
    simp [clipM, isPt, sb, has, emp, lt, toList_eq, Op.bytesLess]
  simp [forL, e1, e2]
theorem live_rest : resL kC kF [l1, l2] = [l4, l5] := by
  have e1 : clipM l1 kC kF = (l3, true) := by
    simp [clipM, isPt, meetF, meetE, sb, emp, lt, maxS, firstS, bef, toList_eq, Op.bytesLess, overM]
  have e2 : clipM l2 kC kF = (l2, true) := by
    simp [clipM, isPt, sb, has, emp, lt, toList_eq, Op.bytesLess]
  simp [resL, restM, restQ, e1, e2, isPt, lt, bef, emp, toList_eq, Op.bytesLess, overM]
theorem live_right : rightB [l1, l2] = true := by
  refine right_yes (fun i hi => ?_)
  have : i = 0 ∨ i = 1 := by simp at hi; omega
  rcases this with rfl | rfl
  · rw [rcI_zero rfl]; simp [rcX, isPt, sb, spF, spT, emp, lt, toList_eq, Op.bytesLess]
  · rw [rcI_succ (p := l1) (x := l2) rfl rfl]; simp [rcX, rcP, aheadM, isPt, sb, spF, spT, emp, lt, toList_eq, Op.bytesLess]
theorem live_bytes : byN [l3, l2] = 35 := rfl
theorem live_new : newN [l1, l2] = 2 := rfl
end Go.Proofs.Ytdbnkeihnoglcaa
