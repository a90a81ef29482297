/- The law KeyBetween answers true, whichever texts. -/
import Derived.Test.YtchbenfpfemgnaaB3
namespace Go.Proofs.Ytchbenfpfemgnaa
set_option linter.unusedSimpArgs false
open Go.RowKit
set_option linter.unusedVariables false

set_option maxHeartbeats 1000000 in
theorem between_walk (a b : ByteArray) (w : World) (ha : a.size ≤ maxLen) (hb : b.size ≤ maxLen) :
    Calls Try.prog 7 #[.string a, .string b] w fun e w' => e = .returned (.bool true) ∧ Below w.heap.size w w' := by
  have ha' := ha
  have hb' := hb
  unfold maxLen at ha' hb'
  by_cases h1 : 300 < a.size ∨ 300 < b.size
  · by_cases h2 : 300 < a.size
    · clear h1
      have h3 : (300 : Int) < (a.size : Int) := by omega
      go_enter Try.func7, Try.ntmps7
      go_wp2_with fail
      refine (live_any _).mono ?_
      rintro e w1 ⟨rfl, hB⟩
      go_wp2_with fail
      go_ret
      exact ⟨rfl, hB⟩
    · have h3 : decide ((300 : Int) < (a.size : Int)) = false := by simp; omega
      have h4 : (300 : Int) < (b.size : Int) := by omega
      clear h1
      go_enter Try.func7, Try.ntmps7
      go_wp2_with fail
      refine (live_any _).mono ?_
      rintro e w1 ⟨rfl, hB⟩
      go_wp2_with fail
      go_ret
      exact ⟨rfl, hB⟩
  · have s1 : a.size ≤ 300 := by omega
    have s2 : b.size ≤ 300 := by omega
    have h3 : decide ((300 : Int) < (a.size : Int)) = false := by simp; omega
    have h4 : decide ((300 : Int) < (b.size : Int)) = false := by simp; omega
    clear h1
    obtain ⟨t1, t2⟩ := shN_le a.toList b.toList
    rw [len_eq] at t1 t2
    have t3 := shN_take a.toList b.toList
    have t4 : ∀ (x : shN a.toList b.toList < a.size) (y : shN a.toList b.toList < b.size), a[shN a.toList b.toList] ≠ b[shN a.toList b.toList] := by
      intro x y
      have x' : shN a.toList b.toList < a.toList.length := by rw [len_eq]; exact x
      have y' : shN a.toList b.toList < b.toList.length := by rw [len_eq]; exact y
      have := shN_ne a.toList b.toList x' y'
      rw [get_toList a _ x x', get_toList b _ y y'] at this
      exact this
    have hpre : (a.extract 0 (shN a.toList b.toList)).toList = (b.extract 0 (shN a.toList b.toList)).toList := by rw [ext_list, ext_list]; exact t3
    have SH := Lib.hid (fun w => shared_any a b w ha hb)
    cases hL : Op.bytesLess a.toList b.toList
    · have B1 := Lib.hid (fun w => between_no a b w (by unfold lt; exact hL))
      have hL2 : (!Op.bytesLess a.toList b.toList) = true := by simp [hL]
      have hs : emptyS.toList = [] := by rw [toList_eq]
      generalize shN a.toList b.toList = n at *
      by_cases p1 : n < a.size
      · by_cases p2 : n < b.size
        · exact btw_no_a a b emptyS w n h3 h4 (by omega) (by omega) (by omega) (by simp; omega) (by simp; omega) (by simp; omega) (by simp; omega) (by simp; try omega) hpre B1 SH (by omega) (by omega) p1 p2 (by rw [beq_eq_false_iff_ne]; intro h; exact t4 p1 p2 (UInt8.toNat_inj.1 (by omega))) hL2 hs
        · exact btw_no_b a b emptyS w n h3 h4 (by omega) (by omega) (by omega) (by simp; omega) (by simp; omega) (by simp; omega) (by simp; omega) (by simp; try omega) hpre B1 SH (by omega) (by simp; omega) p1 (by simp; omega) hL2 hs
      · exact btw_no_c a b emptyS w n h3 h4 (by omega) (by omega) (by omega) (by simp; omega) (by simp; omega) (by simp; omega) (by simp; omega) (by simp; try omega) hpre B1 SH (by simp; omega) (by simp; omega) hL2 hs
    · have B1 := Lib.hid (fun w => between_lt a b w ha hb (by unfold lt; exact hL))
      have B2 := Lib.hid (fun w => rbetween_lt a b w hb hL)
      have hL2 : (!Op.bytesLess a.toList b.toList) = false := by simp [hL]
      have hn : shN a.toList b.toList < b.size := by have := shN_lt _ _ hL; rw [len_eq] at this; exact this
      have m1 : Op.bytesLess a.toList (b.extract 0 (shN a.toList b.toList + 1)).toList = true := by rw [ext_list]; exact pre_yes _ _ hL
      have g : (Op.bytesLess (b.extract 0 (shN a.toList b.toList + 1)).toList b.toList || (b.extract 0 (shN a.toList b.toList + 1)).toList == b.toList) = true := by
        rw [bl_le, ext_list, take_le]; rfl
      have m4 : ((b.extract 0 (shN a.toList b.toList + 1)).size : Int) = (shN a.toList b.toList : Int) + 1 := by rw [← len_eq, ext_list, List.length_take, len_eq]; omega
      generalize b.extract 0 (shN a.toList b.toList + 1) = s at *
      generalize shN a.toList b.toList = n at *
      by_cases p1 : n < a.size
      · by_cases p2 : n < b.size
        · exact btw_yes_a a b s w n h3 h4 (by omega) (by omega) (by omega) (by simp; omega) (by simp; omega) (by simp; omega) (by simp; omega) (by simp; try omega) hpre B1 SH (by omega) (by omega) p1 p2 (by rw [beq_eq_false_iff_ne]; intro h; exact t4 p1 p2 (UInt8.toNat_inj.1 (by omega))) hL2 m1 g m4 (by omega) B2
        · exact btw_yes_b a b s w n h3 h4 (by omega) (by omega) (by omega) (by simp; omega) (by simp; omega) (by simp; omega) (by simp; omega) (by simp; try omega) hpre B1 SH (by omega) (by simp; omega) p1 (by simp; omega) hL2 m1 g m4 (by omega) B2
      · exact btw_yes_c a b s w n h3 h4 (by omega) (by omega) (by omega) (by simp; omega) (by simp; omega) (by simp; omega) (by simp; omega) (by simp; try omega) hpre B1 SH (by simp; omega) (by simp; omega) hL2 m1 g m4 (by omega) B2
end Go.Proofs.Ytchbenfpfemgnaa
