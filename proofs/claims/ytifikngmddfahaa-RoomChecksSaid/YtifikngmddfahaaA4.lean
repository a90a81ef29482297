/- Which sizes a machine may have: within, Check. -/
import Derived.Test.YtifikngmddfahaaA2
namespace Go.Proofs.Ytifikngmddfahaa
set_option linter.unusedSimpArgs false
open Go.RowKit
set_option linter.unusedVariables false

def inB (t : Int × Int × Int) : Bool := decide (t.1 ≤ t.2.1) && decide (t.2.1 ≤ t.2.2)

set_option maxRecDepth 100000 in
set_option maxHeartbeats 2000000 in
theorem within_any (b off n c : Nat) (l : List (Int × Int × Int)) (w : World) (hl : l.length = n) (hn : n ≤ 1000000) (hlt : b < w.heap.size)
    (hD : ∀ i (h : i < l.length), w.cell? ⟨b, off + i * 3, none⟩ = some (.int .i64 l[i].1) ∧ w.cell? ⟨b, off + i * 3 + 1, none⟩ = some (.int .i64 l[i].2.1) ∧ w.cell? ⟨b, off + i * 3 + 2, none⟩ = some (.int .i64 l[i].2.2)) :
    Calls Try.prog 14 #[.slice (some ⟨b, off, none⟩) n c] w fun e w' => e = .returned (.bool (l.all inB)) ∧ Below w.heap.size w w' := by
  have HL := Lib.hid hl
  have HD := Lib.hid hD
  clear hl hD
  go_enter Try.func14, Try.ntmps14
  go_wp2
  go_loopw [7] (fun iv wr => ∃ k : Nat, k ≤ n ∧ iv = .int .i64 k ∧ (l.take k).all inB = true ∧ Below w.heap.size w wr) (fun i _ => n - (intOf i).toNat)
  case atStart => exact ⟨0, by omega, rfl, by simp, Below.refl _ _⟩
  case round =>
    obtain ⟨k, hk, rfl, ht, hb⟩ := hrel
    by_cases h8 : k = n
    · have he : l.take k = l := by rw [h8, ← HL.out]; exact List.take_length
      rw [he] at ht
      have HT := Lib.hid ht
      have hkn : ¬ (k : Int) < (n : Int) := by omega
      clear he ht
      go_wp2
      go_ret
      exact ⟨by rw [HT.out]; rfl, hb⟩
    · have hkn : k < n := by omega
      have hk1 : (k : Int) < (n : Int) := by omega
      have hk0 : (0 : Int) ≤ (k : Int) := by omega
      have hkl : k < l.length := by rw [HL.out]; exact hkn
      obtain ⟨d0, d1, d2⟩ := HD.out k hkl
      have e0 := bel_later hb d0
      have e1 := bel_later hb d1
      have e2 := bel_later hb d2
      have hs : l.take (k + 1) = l.take k ++ [l[k]] := List.take_succ_eq_append_getElem hkl
      have hin : l[k] ∈ l := List.getElem_mem hkl
      obtain ⟨⟨x, y, z⟩, hx⟩ : ∃ t, t = l[k] := ⟨_, rfl⟩
      rw [← hx] at e0 e1 e2 hs hin
      simp only at e0 e1 e2
      have HT := Lib.hid ht
      have HS := Lib.hid hs
      have HIN := Lib.hid hin
      clear d0 d1 d2 hx ht hs hin
      by_cases c1 : y < x
      · have r : Hid (l.all inB = false) := Lib.hid (by
          rw [List.all_eq_false]; exact ⟨_, HIN.out, by simp [inB]; omega⟩)
        go_wp2
        go_ret
        exact ⟨by rw [r.out]; rfl, bel_alloc hb _⟩
      · by_cases c2 : z < y
        · have r : Hid (l.all inB = false) := Lib.hid (by
            rw [List.all_eq_false]; exact ⟨_, HIN.out, by simp [inB]; omega⟩)
          go_wp2
          go_ret
          exact ⟨by rw [r.out]; rfl, bel_alloc hb _⟩
        · go_wp2
          refine ⟨⟨k + 1, by omega, by simp, ?_, bel_alloc hb _⟩, by simp [intOf]; omega⟩
          rw [HS.out, List.all_append, HT.out]
          simp [inB]; omega

def sizes (k v f b l bl n bu ch : Int) : List (Int × Int × Int) := [(1, k, 256), (8, v, 4096), (4, f, 64), (0, b, 1048576), (4, l, 256), (2, bl, l), (2, n, 4096), (0, bu, 1000), (1, ch, 1024)]
def checkF (k v f b l bl n bu ch : Int) : Int := if (sizes k v f b l bl n bu ch).all inB then 0 else 2

set_option maxRecDepth 100000 in
set_option maxHeartbeats 4000000 in
theorem check_any (k v f b l bl n bu ch : Int) (w : World) :
    Calls Try.prog 7 #[cfg k v f b l bl n bu ch] w fun e w' => e = .returned (.int .i64 (checkF k v f b l bl n bu ch)) ∧ Below w.heap.size w w' := by
  have C := fun N W hlt hD => within_any N 0 9 9 (sizes k v f b l bl n bu ch) W rfl (by omega) hlt hD
  by_cases c : (sizes k v f b l bl n bu ch).all inB = true
  · have hF : Hid (checkF k v f b l bl n bu ch = 0) := Lib.hid (by unfold checkF; rw [if_pos c])
    rw [c] at C
    have CC := Lib.hid C
    clear c C
    go_enter Try.func7, Try.ntmps7
    go_wp2_with fail
    refine (CC.out (w.heap.size + 1) _ (by simp) ?_).mono ?_
    · intro i hi
      simp only [sizes, List.length_cons, List.length_nil] at hi
      rcases (by omega : i = 0 ∨ i = 1 ∨ i = 2 ∨ i = 3 ∨ i = 4 ∨ i = 5 ∨ i = 6 ∨ i = 7 ∨ i = 8) with rfl | rfl | rfl | rfl | rfl | rfl | rfl | rfl | rfl <;> simp [sizes, go_sem]
    rintro e w1 ⟨rfl, hb⟩
    go_wp2
    go_ret
    exact ⟨by rw [hF.out]; rfl, ((Below.refl _ _).alloc (Nat.le_refl _) _).trans ((bel_a hb).mono (by simp))⟩
  · have c' : (sizes k v f b l bl n bu ch).all inB = false := by simpa using c
    have hF : Hid (checkF k v f b l bl n bu ch = 2) := Lib.hid (by unfold checkF; rw [if_neg c])
    rw [c'] at C
    have CC := Lib.hid C
    clear c c' C
    go_enter Try.func7, Try.ntmps7
    go_wp2_with fail
    refine (CC.out (w.heap.size + 1) _ (by simp) ?_).mono ?_
    · intro i hi
      simp only [sizes, List.length_cons, List.length_nil] at hi
      rcases (by omega : i = 0 ∨ i = 1 ∨ i = 2 ∨ i = 3 ∨ i = 4 ∨ i = 5 ∨ i = 6 ∨ i = 7 ∨ i = 8) with rfl | rfl | rfl | rfl | rfl | rfl | rfl | rfl | rfl <;> simp [sizes, go_sem]
    rintro e w1 ⟨rfl, hb⟩
    go_wp2
    go_ret
    exact ⟨by rw [hF.out]; rfl, ((Below.refl _ _).alloc (Nat.le_refl _) _).trans ((bel_a hb).mono (by simp))⟩
end Go.Proofs.Ytifikngmddfahaa
