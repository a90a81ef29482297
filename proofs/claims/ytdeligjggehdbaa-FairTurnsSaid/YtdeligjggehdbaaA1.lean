/- Has a row a number? The first sixty. -/
import Derived.Test.YtdeligjggehdbaaProg
import Derived.Test.YtdeligjggehdbaaL0
import Derived.Test.YtdeligjggehdbaaA2
namespace Go.Proofs.Ytdeligjggehdbaa
set_option linter.unusedSimpArgs false
open Go.RowKit
set_option linter.unusedVariables false

theorem ret_eq {a b : Int} (h : b = a) : Ending.returned (.int .i64 a) = Ending.returned (.int .i64 b) := by rw [h]
theorem retB_eq {a b : Bool} (h : b = a) : Ending.returned (.bool a) = Ending.returned (.bool b) := by rw [h]
abbrev RdI (w : World) (A : Option Addr) (l : List Int) : Prop := Rd w w.heap.size A (l.map (Value.int .i64))
theorem rdi_get {w : World} {A : Option Addr} {l : List Int} (h : RdI w A l) {k : Nat} (hk : k < l.length) : ∃ b off, A = some ⟨b, off, none⟩ ∧ b < w.heap.size ∧ w.cell? ⟨b, off + k, none⟩ = some (.int .i64 (l.getD k 0)) := by
  have := Rd.get h (k := k) (u := .int .i64 (l.getD k 0)) (by rw [List.getElem?_map, List.getElem?_eq_getElem hk, List.getD_eq_getElem?_getD, List.getElem?_eq_getElem hk]; rfl)
  exact this
theorem getD_mem {l : List Int} {k : Nat} (hk : k < l.length) : l.getD k 0 ∈ l := by
  rw [List.getD_eq_getElem?_getD, List.getElem?_eq_getElem hk]; exact List.getElem_mem hk
theorem take_step {l : List Int} {k : Nat} (hk : k < l.length) : l.take (k + 1) = l.take k ++ [l.getD k 0] := by
  rw [List.take_succ_eq_append_getElem hk, List.getD_eq_getElem?_getD, List.getElem?_eq_getElem hk]; rfl

theorem has_any (A : Option Addr) (n c : Nat) (l : List Int) (x : Int) (w : World) (hl : l.length = n) (hn : n ≤ 1000000) (hA : RdI w A l) :
    Calls Try.prog 15 #[.slice A n c, .int .i64 x] w fun e w' => e = .returned (.bool (l.contains x)) ∧ w = w' := by
  have HL := Lib.hid hl
  have HA := Lib.hid hA
  clear hl hA
  obtain ⟨r, hr⟩ : ∃ r, r = l.contains x := ⟨_, rfl⟩
  rw [← hr]
  have HR := Lib.hid hr
  clear hr
  go_enter Try.func15, Try.ntmps15
  go_wp2
  go_loop [5] (fun iv => ∃ k : Nat, k ≤ n ∧ iv = .int .i64 k ∧ (l.take k).contains x = false) (fun i => n - (intOf i).toNat)
  case atStart => exact ⟨0, by omega, rfl, rfl⟩
  case round =>
    obtain ⟨k, hk, rfl, hc⟩ := hrel
    have HC := Lib.hid hc
    clear hc
    by_cases h8 : k = n
    · have hkn : ¬ (k : Int) < (n : Int) := by omega
      have hr2 : Hid (r = false) := Lib.hid (by rw [HR.out, ← HC.out, h8, ← HL.out, List.take_length])
      go_wp2
      go_ret
      exact ⟨retB_eq hr2.out, rfl⟩
    · have hkn : k < n := by omega
      have hk1 : (k : Int) < (n : Int) := by omega
      have hk0 : (0 : Int) ≤ (k : Int) := by omega
      have hkl : k < l.length := by rw [HL.out]; exact hkn
      obtain ⟨b, off, rfl, hlt, g⟩ := rdi_get HA.out hkl
      have hm := getD_mem hkl
      have ht := take_step hkl
      obtain ⟨y, hy⟩ : ∃ y, y = l.getD k 0 := ⟨_, rfl⟩
      rw [← hy] at g hm ht
      have HM := Lib.hid hm
      have HT := Lib.hid ht
      clear hm ht hy
      by_cases q : y = x
      · subst q
        have hr2 : Hid (r = true) := Lib.hid (by rw [HR.out, List.contains_iff_mem]; exact HM.out)
        go_wp2
        go_ret
        exact ⟨retB_eq hr2.out, rfl⟩
      · have h2 : Hid ((l.take (k + 1)).contains x = false) := Lib.hid (by
          rw [HT.out, List.contains_eq_any_beq, List.any_append, ← List.contains_eq_any_beq, HC.out]; simp; exact fun e => q e.symm)
        go_wp2
        go_round
        case rel => exact ⟨k + 1, by omega, by go_num, h2.out⟩
        case measure => simp [intOf]; omega

/-- The first sixty. -/
theorem few_any (A : Option Addr) (n c : Nat) (w : World) (hc : n ≤ c) (hm : c ≤ maxLen) :
    Calls Try.prog 5 #[.slice A n c] w fun e w' => e = .returned (.slice A (min n 60) c) ∧ w = w' := by
  unfold maxLen at hm
  by_cases h : n ≤ 60
  · have hmin : min (n : Int) 60 = (n : Int) := by omega
    have he : Hid (min n 60 = n) := Lib.hid (by omega)
    go_enter Try.func5, Try.ntmps5
    go_wp2
    all_goals
      go_ret
      exact ⟨by rw [he.out]; rfl, rfl⟩
  · have hmin : min (n : Int) 60 = 60 := by omega
    have he : Hid (min n 60 = 60) := Lib.hid (by omega)
    have hc2 : (60 : Int) ≤ (c : Int) := by omega
    go_enter Try.func5, Try.ntmps5
    go_wp2
    all_goals
      go_ret
      exact ⟨by rw [he.out]; rfl, rfl⟩
end Go.Proofs.Ytdeligjggehdbaa
