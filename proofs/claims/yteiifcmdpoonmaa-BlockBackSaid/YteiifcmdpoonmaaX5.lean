/- The answer package's Texts: its walk. -/
import Derived.Test.YteiifcmdpoonmaaX4
import Derived.Test.YteiifcmdpoonmaaX2
namespace Go.Proofs.Yteiifcmdpoonmaa
set_option linter.unusedSimpArgs false
open Go.RowKit
set_option linter.unusedVariables false

set_option maxRecDepth 100000 in
set_option maxHeartbeats 4000000 in
theorem rtexts_any (A : Option Addr) (n c : Nat) (l : List ByteArray) (w : World) (hl : l.length = n) (hn : n ≤ 1000000) (hA : Rd w w.heap.size A (l.map Value.string)) (hz : ∀ s ∈ l, s.size ≤ 1000000) :
    Calls Try.prog 32 #[.slice A n c] w fun e w' => e = .returned (.string ⟨(cat l).toArray⟩) ∧ Below w.heap.size w w' := by
  have HL := Lib.hid hl
  have HZ := Lib.hid hz
  clear hl hz
  go_enter Try.func32, Try.ntmps32
  go_wp2
  go_loopw [3, 4] (fun ov iv wr => ∃ k : Nat, k ≤ n ∧ iv = .int .i64 k ∧ ov = .string ⟨(cat (l.take k)).toArray⟩ ∧ Below w.heap.size w wr) (fun _ i _ => n - (intOf i).toNat)
  case atStart => exact ⟨0, by omega, rfl, by simp [cat], Below.refl _ _⟩
  case round =>
    obtain ⟨k, hk, rfl, rfl, hb⟩ := hrel
    by_cases h8 : k = n
    · have he : l.take k = l := by rw [h8, ← HL.out]; exact List.take_length
      rw [he]
      have hkn : ¬ (k : Int) < (n : Int) := by omega
      clear he hA
      go_wp2_with fail
      go_ret
      exact ⟨rfl, hb⟩
    · have hkn : k < n := by omega
      have hk1 : (k : Int) < (n : Int) := by omega
      have hk0 : (0 : Int) ≤ (k : Int) := by omega
      have hkl : k < l.length := by rw [HL.out]; exact hkn
      have gk : (l.map Value.string)[k]? = some (.string l[k]) := by rw [List.getElem?_map, List.getElem?_eq_getElem hkl]; rfl
      obtain ⟨b, off, rfl, hlt, hc⟩ := hA.get gk
      have e1 := bel_later hb hc
      have ct := cat_take l k hkl
      have cs := cat_size (l.take k) 1000000 (fun s hs => HZ.out s (List.mem_of_mem_take hs))
      have xs := HZ.out l[k] (List.getElem_mem hkl)
      rw [List.length_take] at cs
      obtain ⟨x, hx⟩ : ∃ x, x = l[k] := ⟨_, rfl⟩
      rw [← hx] at e1 ct xs
      have hm : min k l.length * (5 + 1000000) ≤ 1000000 * 1000005 := Nat.mul_le_mul (by omega) (Nat.le_refl _)
      obtain ⟨o, ho⟩ : ∃ o : ByteArray, o = ⟨(cat (l.take k)).toArray⟩ := ⟨_, rfl⟩
      have os : o.size = (cat (l.take k)).length := by rw [ho]; simp [ByteArray.size]
      have tx : textF x = numF (x.size : Int) ++ x := by unfold textF; rw [if_neg (by omega)]
      have ns := numF_size (x.size : Int)
      have C := fun w => rnum_any (x.size : Int) w
      obtain ⟨t, ht⟩ : ∃ t, t = numF (x.size : Int) := ⟨_, rfl⟩
      rw [← ht] at C ns tx
      have z1 : ¬ 9223372036854775807 < o.size + t.size := by omega
      have z2 : ¬ 9223372036854775807 < o.size + t.size + x.size := by omega
      have z3 : ¬ 9223372036854775807 < (o ++ t).size + x.size := by rw [ByteArray.size_append]; omega
      have CE : (o ++ t) ++ x = ⟨(cat (l.take (k + 1))).toArray⟩ := by
        rw [ct, tx]
        apply ByteArray.ext
        rw [ho]
        simp
      have CEE := Lib.hid CE
      have CC := Lib.hid C
      rw [← ho]
      have sz := World.block_lt_of_cell? wr _ e1
      clear hA hc gk hx ct C ht cs hm xs tx os ho CE ns
      go_wp2_with fail
      go_region_held3 (fun W => W.cell? ⟨b, off + k, none⟩ = some (.string x)) (first | exact e1 | exact bel_later (bel_dr hb1) e1)
        (first | (go_at_call 31; refine (CC.out _).mono ?_; rintro e w1 ⟨rfl, hb1⟩))
      go_wp2
      refine ⟨⟨k + 1, by omega, by simp, by rw [CEE.out], bel_step hb (bel_dr hb1) (Nat.le_refl _)⟩, by simp [intOf]; omega⟩
end Go.Proofs.Yteiifcmdpoonmaa
