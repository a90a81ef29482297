/- What may be asked: a message, whatever it is. -/
import Derived.Test.YtifikngmddfahaaB3
import Derived.Test.YtifikngmddfahaaB4
import Derived.Test.YtifikngmddfahaaB5
import Derived.Test.YtifikngmddfahaaB7
namespace Go.Proofs.Ytifikngmddfahaa
set_option linter.unusedSimpArgs false
open Go.RowKit
set_option linter.unusedVariables false

/-- What a message is answered. -/
def mF (k dl a0 a1 : Int) (key too val : ByteArray) : Int :=
  if k = 1 then (if ¬ too.toList = [] then 3 else if ¬ dl = 0 then 3 else if a1 < (val.size : Int) then 6 else if rightS key a0 = true then 0 else 6)
  else if k = 2 then (if ¬ too.toList = [] then 3 else if ¬ val.toList = [] then 3 else if ¬ dl = 0 then 3 else if rightS key a0 = true then 0 else 6)
  else if k = 3 then (if ¬ too.toList = [] then 3 else if ¬ val.toList = [] then 3 else if rightS key a0 = true then 0 else 6)
  else if k = 4 then (if ¬ val.toList = [] then 3 else if ¬ dl = 0 then 3 else if a0 < (key.size : Int) then 6 else if a0 < (too.size : Int) then 6 else if sbS key too = true then 0 else 7)
  else 3

theorem mchk_any (k q dl a0 a1 a2 a3 a4 a5 a6 a7 a8 : Int) (key too val : ByteArray) (w : World) :
    Calls Try.prog 24 #[.agg #[.int .u8 k, .int .i64 q, .string key, .string too, .string val, .int .u64 dl], cfg a0 a1 a2 a3 a4 a5 a6 a7 a8] w fun e w' => e = .returned (.int .i64 (mF k dl a0 a1 key too val)) ∧ Below w.heap.size w w' := by
  unfold mF
  by_cases k1 : k = 1
  · subst k1
    rw [if_pos rfl]
    by_cases hT : too.toList = []
    · rw [if_neg (by simpa using hT)]
      by_cases hD : dl = 0
      · subst hD
        rw [if_neg (by simp)]
        by_cases hS : a1 < (val.size : Int)
        · rw [if_pos hS]; exact mchk_1v q a0 a1 a2 a3 a4 a5 a6 a7 a8 key too val w hT hS
        · rw [if_neg hS]
          by_cases hR : rightS key a0 = true
          · rw [if_pos hR]; exact mchk_1g q a0 a1 a2 a3 a4 a5 a6 a7 a8 key too val w hT hS hR
          · rw [if_neg hR]; exact mchk_1b q a0 a1 a2 a3 a4 a5 a6 a7 a8 key too val w hT hS (by simpa using hR)
      · rw [if_pos hD]; exact mchk_1d q dl a0 a1 a2 a3 a4 a5 a6 a7 a8 key too val w hT hD
    · rw [if_pos hT]; exact mchk_1t q dl a0 a1 a2 a3 a4 a5 a6 a7 a8 key too val w hT
  rw [if_neg k1]
  by_cases k2 : k = 2
  · subst k2
    rw [if_pos rfl]
    by_cases hT : too.toList = []
    · rw [if_neg (by simpa using hT)]
      by_cases hV : val.toList = []
      · rw [if_neg (by simpa using hV)]
        by_cases hD : dl = 0
        · subst hD
          rw [if_neg (by simp)]
          by_cases hR : rightS key a0 = true
          · rw [if_pos hR]; exact mchk_2g q a0 a1 a2 a3 a4 a5 a6 a7 a8 key too val w hT hV hR
          · rw [if_neg hR]; exact mchk_2b q a0 a1 a2 a3 a4 a5 a6 a7 a8 key too val w hT hV (by simpa using hR)
        · rw [if_pos hD]; exact mchk_2d q dl a0 a1 a2 a3 a4 a5 a6 a7 a8 key too val w hT hV hD
      · rw [if_pos hV]; exact mchk_2v q dl a0 a1 a2 a3 a4 a5 a6 a7 a8 key too val w hT hV
    · rw [if_pos hT]; exact mchk_2t q dl a0 a1 a2 a3 a4 a5 a6 a7 a8 key too val w hT
  rw [if_neg k2]
  by_cases k3 : k = 3
  · subst k3
    rw [if_pos rfl]
    by_cases hT : too.toList = []
    · rw [if_neg (by simpa using hT)]
      by_cases hV : val.toList = []
      · rw [if_neg (by simpa using hV)]
        by_cases hR : rightS key a0 = true
        · rw [if_pos hR]; exact mchk_3g q dl a0 a1 a2 a3 a4 a5 a6 a7 a8 key too val w hT hV hR
        · rw [if_neg hR]; exact mchk_3b q dl a0 a1 a2 a3 a4 a5 a6 a7 a8 key too val w hT hV (by simpa using hR)
      · rw [if_pos hV]; exact mchk_3v q dl a0 a1 a2 a3 a4 a5 a6 a7 a8 key too val w hT hV
    · rw [if_pos hT]; exact mchk_3t q dl a0 a1 a2 a3 a4 a5 a6 a7 a8 key too val w hT
  rw [if_neg k3]
  by_cases k4 : k = 4
  · subst k4
    rw [if_pos rfl]
    by_cases hV : val.toList = []
    · rw [if_neg (by simpa using hV)]
      by_cases hD : dl = 0
      · subst hD
        rw [if_neg (by simp)]
        by_cases hS : a0 < (key.size : Int)
        · rw [if_pos hS]; exact mchk_4s q a0 a1 a2 a3 a4 a5 a6 a7 a8 key too val w hV hS
        rw [if_neg hS]
        by_cases hU : a0 < (too.size : Int)
        · rw [if_pos hU]; exact mchk_4u q a0 a1 a2 a3 a4 a5 a6 a7 a8 key too val w hV hS hU
        rw [if_neg hU]
        by_cases hG : sbS key too = true
        · rw [if_pos hG]; exact mchk_4g q a0 a1 a2 a3 a4 a5 a6 a7 a8 key too val w hV hS hU hG
        · rw [if_neg hG]; exact mchk_4b q a0 a1 a2 a3 a4 a5 a6 a7 a8 key too val w hV hS hU (by simpa using hG)
      · rw [if_pos hD]; exact mchk_4d q dl a0 a1 a2 a3 a4 a5 a6 a7 a8 key too val w hV hD
    · rw [if_pos hV]; exact mchk_4v q dl a0 a1 a2 a3 a4 a5 a6 a7 a8 key too val w hV
  rw [if_neg k4]
  by_cases hT : too.toList = []
  · by_cases hV : val.toList = []
    · by_cases hD : dl = 0
      · subst hD; exact mchk_oo k q a0 a1 a2 a3 a4 a5 a6 a7 a8 key too val w k1 k2 k3 k4 hT hV
      · exact mchk_od k q dl a0 a1 a2 a3 a4 a5 a6 a7 a8 key too val w k1 k2 k3 k4 hT hV hD
    · exact mchk_ov k q dl a0 a1 a2 a3 a4 a5 a6 a7 a8 key too val w k1 k2 k3 k4 hT hV
  · exact mchk_ot k q dl a0 a1 a2 a3 a4 a5 a6 a7 a8 key too val w k1 k2 k3 k4 hT
end Go.Proofs.Ytifikngmddfahaa
