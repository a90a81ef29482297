/- The same entries. -/
import Derived.Laws.StructEq
import Derived.Test.YtdbcaiggliiacaaN2
namespace Go.Proofs.Ytdbcaiggliiacaa
set_option linter.unusedSimpArgs false
open Go.RowKit Go.Maps
set_option linter.unusedVariables false
theorem same_step {l m : List TT} {k : Nat} {x : TT} (hx : l[k]? = some x) (hy : m[k]? = some x) (h : l.take k = m.take k) : l.take (k + 1) = m.take (k + 1) := by
  obtain ⟨h1, e1⟩ := List.getElem?_eq_some_iff.1 hx
  obtain ⟨h2, e2⟩ := List.getElem?_eq_some_iff.1 hy
  rw [List.take_succ_eq_append_getElem h1, List.take_succ_eq_append_getElem h2, h, e1, e2]
set_option maxHeartbeats 1000000 in
theorem same_any (A B : Option Addr) (n m c c' : Nat) (xs ys : List TT) (w : World) (hl : xs.length = n) (hm : ys.length = m) (h1 : n ≤ 1000000000) (h2 : m ≤ 1000000000) (hA : RdT w A xs) (hB : RdT w B ys) :
    Calls Try.prog 17 #[.slice A n c, .slice B m c'] w fun e w' => (∃ r : Bool, e = .returned (.bool r) ∧ (r = true ↔ xs = ys)) ∧ Below w.heap.size w w' := by
  have HL := Lib.hid hl
  have HM := Lib.hid hm
  have HA := Lib.hid hA
  have HB := Lib.hid hB
  clear hl hm hA hB
  by_cases hne : n = m
  · subst hne
    go_enter Try.func17, Try.ntmps17
    go_wp2
    go_loopw [5] (fun iv wr => ∃ k d : Nat, k ≤ n ∧ iv = .int .i64 k ∧ xs.take k = ys.take k ∧ wr = w.drewN d) (fun i _ => n - (intOf i).toNat)
    case atStart => exact ⟨0, 0, by omega, rfl, rfl, rfl⟩
    case round =>
      obtain ⟨k, d, hk, rfl, ht, hwr⟩ := hrel
      have HT := Lib.hid ht
      have HW := Lib.hid hwr
      clear ht hwr
      by_cases h8 : k < n
      · have hk1 : (k : Int) < (n : Int) := by omega
        have hk0 : (0 : Int) ≤ (k : Int) := by omega
        obtain ⟨x, hx⟩ : ∃ x, xs[k]? = some x := ⟨_, List.getElem?_eq_getElem (by rw [HL.out]; omega)⟩
        obtain ⟨y, hy⟩ : ∃ x, ys[k]? = some x := ⟨_, List.getElem?_eq_getElem (by rw [HM.out]; omega)⟩
        obtain ⟨b, off, rfl, hlt, f0, f1⟩ := rdt_get HA.out hx
        obtain ⟨b2, off2, rfl, hlt2, f2, f3⟩ := rdt_get HB.out hy
        have g0 : wr.cell? ⟨b, off + k * 2, none⟩ = some (.string x.1) := by rw [HW.out]; exact f0
        have g1 : wr.cell? ⟨b, off + k * 2 + 1, none⟩ = some (.string x.2) := by rw [HW.out]; exact f1
        have g2 : wr.cell? ⟨b2, off2 + k * 2, none⟩ = some (.string y.1) := by rw [HW.out]; exact f2
        have g3 : wr.cell? ⟨b2, off2 + k * 2 + 1, none⟩ = some (.string y.2) := by rw [HW.out]; exact f3
        have HX := Lib.hid hx
        have HY := Lib.hid hy
        clear f0 f1 f2 f3 hx hy
        obtain ⟨x0, x1⟩ := x
        obtain ⟨y0, y1⟩ := y
        by_cases he : x0 = y0 ∧ x1 = y1
        · obtain ⟨rfl, rfl⟩ := he
          have hn := Lib.hid (same_step HX.out HY.out HT.out)
          go_wp2_with fail
          go_quiet (fail)
          go_wp2
          exact ⟨⟨k + 1, d + nq, by omega, by simp, hn.out, by rw [HW.out, World.drewN_drewN]⟩, by simp [intOf]; omega⟩
        · have hr2 : Hid (xs ≠ ys) := Lib.hid (fun h => he (by
            have a := HX.out
            rw [h, HY.out] at a
            cases a; exact ⟨rfl, rfl⟩))
          have he' : (x0.toList == y0.toList) = false ∨ (x0 = y0 ∧ (x1.toList == y1.toList) = false) := by
            by_cases h : x0 = y0
            · exact .inr ⟨h, bytes_ne (fun e => he ⟨h, e⟩)⟩
            · exact .inl (bytes_ne h)
          clear he
          rcases he' with h0 | ⟨rfl, h0⟩
          all_goals
            go_wp2_with fail
            go_quiet (fail)
            go_wp2
            go_ret
            exact ⟨⟨false, rfl, by simp [hr2.out]⟩, by rw [HW.out]; exact bel_drewN (bel_drewN (Below.refl _ _) _) _⟩
      · have hk1 : ¬ (k : Int) < (n : Int) := by omega
        have hr2 : Hid (xs = ys) := Lib.hid (by
          have := HT.out
          rwa [List.take_of_length_le (by rw [HL.out]; omega), List.take_of_length_le (by rw [HM.out]; omega)] at this)
        go_wp2
        go_ret
        exact ⟨.inr ⟨rfl, hr2.out⟩, by rw [HW.out]; exact bel_drewN (Below.refl _ _) _⟩
  · have hne2 : ¬ (n : Int) = (m : Int) := by omega
    have hr2 : Hid (xs ≠ ys) := Lib.hid (fun e => hne (by rw [← HL.out, ← HM.out, e]))
    go_enter Try.func17, Try.ntmps17
    go_wp2
    go_ret
    exact ⟨⟨false, rfl, by simp [hr2.out]⟩, Below.refl _ _⟩
end Go.Proofs.Ytdbcaiggliiacaa
