/- The document's check of an operation that a source made. -/
import Derived.Test.YtnchpfmpjpnciaaC3
import Derived.Test.YtnchpfmpjpnciaaA9
namespace Go.Proofs.Ytnchpfmpjpnciaa
set_option linter.unusedSimpArgs false
open Go.RowKit Go.Maps Go.Shelf
set_option linter.unusedVariables false
theorem RdB.to {w : World} {D : Nat → Prop} {A : Option Addr} {l : List Value} (h : RdB w D A l) : RdV w 0 A l := by
  rcases h with h | ⟨g, h1, _, h3, h4⟩
  · exact .inl h
  · exact .inr ⟨g, h1, Nat.zero_le _, h3, h4⟩
theorem ask_any (c2 c3 c4 c5 c6 c7 c8 : Int) (w : World) (h8 : 3 ≤ c8) (S : Int) (B : Option Addr) (c : Nat) {D : Nat → Prop} (h : RdB w D B (oR S)) :
    Calls Try.prog 32 #[.agg (ocell S B c).toArray, .agg #[.int .i64 4, .int .i64 16, .int .i64 c2, .int .i64 c3, .int .i64 c4, .int .i64 c5, .int .i64 c6, .int .i64 c7, .int .i64 c8]] w fun e w' => e = .returned (.int .i64 0) ∧ Below w.heap.size w w' := by
  have hr := h.to
  have hb := bl_range S 8 (by omega)
  unfold oR oL at hr
  unfold ocell oK oY oN oL
  generalize bl S 8 = n at *
  generalize bs S 8 = S1 at *
  by_cases h2 : n < 2
  · rw [show opL n S1 = 0 by unfold opL; rw [if_neg (by omega)], show opK n = 1 by unfold opK; rw [if_pos h2], show opY n S1 = keyB S1 4 2 by unfold opY; rw [if_pos h2], show opN n S1 = 0 by unfold opN; rw [if_neg (by omega), if_neg (by omega)]]
    have hk : (keyB S1 4 2).size ≤ 2 := by have := keyB_le S1 4 2 (by omega); omega
    have q := ask_get c2 c3 c4 c5 c6 c7 c8 w B c (keyB S1 4 2) (keyB_ne _ _ _) hk
    exact q
  · by_cases h5 : n < 5
    · have hL := opL_le n S1
      rw [show opK n = 2 by unfold opK; rw [if_neg h2, if_pos h5], show opY n S1 = ⟨#[]⟩ by unfold opY; rw [if_neg h2, if_neg (by omega)], show opN n S1 = 0 by unfold opN; rw [if_neg (by omega), if_neg (by omega)]]
      have q := ask_send c2 c3 c4 c5 c6 c7 c8 w 0 B (bs S1 3) (opL n S1) c hr hL
      exact q
    · have e0 : opL n S1 = 0 := by unfold opL; rw [if_neg (by omega)]
      rw [e0]
      by_cases h6 : n = 5
      · rw [show opK n = 3 by unfold opK; rw [if_neg h2, if_neg h5, if_pos h6], show opY n S1 = keyB S1 4 1 by unfold opY; rw [if_neg h2, if_pos h6], show opN n S1 = bl (keyS S1 4 1) 3 + 1 by unfold opN; rw [if_pos h6]]
        have hk : (keyB S1 4 1).size ≤ 2 := by have := keyB_le S1 4 1 (by omega); omega
        have hx := bl_range (keyS S1 4 1) 3 (by omega)
        have q := ask_look c2 c3 c4 c5 c6 c7 c8 w B c (keyB S1 4 1) (bl (keyS S1 4 1) 3 + 1) hk (by omega) h8
        exact q
      · rw [show opY n S1 = ⟨#[]⟩ by unfold opY; rw [if_neg h2, if_neg h6]]
        by_cases h7 : n = 6
        · rw [show opK n = 4 by unfold opK; rw [if_neg h2, if_neg h5, if_neg h6, if_pos h7], show opN n S1 = 0 by unfold opN; rw [if_neg h6, if_neg (by omega)]]
          have q := ask_open c2 c3 c4 c5 c6 c7 c8 w B c
          exact q
        · rw [show opK n = 5 by unfold opK; rw [if_neg h2, if_neg h5, if_neg h6, if_neg h7], show opN n S1 = 1 by unfold opN; rw [if_neg h6, if_pos (by omega)]]
          have q := ask_next c2 c3 c4 c5 c6 c7 c8 w B c
          exact q
end Go.Proofs.Ytnchpfmpjpnciaa
