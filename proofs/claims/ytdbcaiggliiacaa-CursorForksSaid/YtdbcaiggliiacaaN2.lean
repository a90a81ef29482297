/- The document says whether keys rise. -/
import Derived.Test.YtdbcaiggliiacaaN1
import Derived.Test.YtdbcaiggliiacaaA0
namespace Go.Proofs.Ytdbcaiggliiacaa
set_option linter.unusedSimpArgs false
open Go.RowKit Go.Maps
set_option linter.unusedVariables false
/-- The keys rise. -/
def ris (xs : List TT) : Prop := ∀ i x y, xs[i]? = some x → xs[i + 1]? = some y → Op.bytesLess x.1.toList y.1.toList = true
theorem ris_step {xs : List TT} {k : Nat} {x y : TT} (h : ∀ i, i + 1 < k + 1 → ∀ x y, xs[i]? = some x → xs[i + 1]? = some y → Op.bytesLess x.1.toList y.1.toList = true) (hx : xs[k]? = some x) (hy : xs[k + 1]? = some y) (hl : Op.bytesLess x.1.toList y.1.toList = true) :
    ∀ i, i + 1 < k + 2 → ∀ x y, xs[i]? = some x → xs[i + 1]? = some y → Op.bytesLess x.1.toList y.1.toList = true := by
  intro i hi u v hu hv
  by_cases e : i = k
  · subst e
    rw [hx] at hu; rw [hy] at hv
    cases hu; cases hv; exact hl
  · exact h i (by omega) u v hu hv
set_option maxHeartbeats 1000000 in
theorem refRises_any (A : Option Addr) (n c : Nat) (xs : List TT) (w : World) (hl : xs.length = n) (hn : n ≤ 1000000000) (hA : RdT w A xs) :
    Calls Try.prog 15 #[.slice A n c] w fun e w' => (∃ b : Bool, e = .returned (.bool b) ∧ (b = true ↔ ris xs)) ∧ Below w.heap.size w w' := by
  have HL := Lib.hid hl
  have HA := Lib.hid hA
  clear hl hA
  go_enter Try.func15, Try.ntmps15
  go_wp2
  go_loopw [3] (fun iv wr => ∃ k d : Nat, (k + 1 ≤ n ∨ k = 0) ∧ iv = .int .i64 ((k : Int) + 1) ∧ (∀ i, i + 1 < k + 1 → ∀ x y, xs[i]? = some x → xs[i + 1]? = some y → Op.bytesLess x.1.toList y.1.toList = true) ∧ wr = w.drewN d) (fun i _ => n + 1 - (intOf i).toNat)
  case atStart => exact ⟨0, 0, .inr rfl, rfl, fun i hi => by omega, rfl⟩
  case round =>
    obtain ⟨k, d, hk, rfl, ht, hwr⟩ := hrel
    have HT := Lib.hid ht
    have HW := Lib.hid hwr
    clear ht hwr
    by_cases h8 : k + 1 < n
    · have i1 : (k : Int) + 1 < (n : Int) := by omega
      have i0 : (0 : Int) ≤ (k : Int) := by omega
      have i2 : (0 : Int) ≤ (k : Int) + 1 := by omega
      have i3 : (k : Int) < (n : Int) := by omega
      obtain ⟨x, hx⟩ : ∃ x, xs[k]? = some x := ⟨_, List.getElem?_eq_getElem (by rw [HL.out]; omega)⟩
      obtain ⟨y, hy⟩ : ∃ x, xs[k + 1]? = some x := ⟨_, List.getElem?_eq_getElem (by rw [HL.out]; omega)⟩
      obtain ⟨b, off, rfl, hlt, f0, f1⟩ := rdt_get HA.out hx
      obtain ⟨b2, off2, e2, hlt2, f2, f3⟩ := rdt_get HA.out hy
      cases e2
      have g0 : wr.cell? ⟨b, off + k * 2, none⟩ = some (.string x.1) := by rw [HW.out]; exact f0
      have g2 : wr.cell? ⟨b, off + (k + 1) * 2, none⟩ = some (.string y.1) := by rw [HW.out]; exact f2
      have HX := Lib.hid hx
      have HY := Lib.hid hy
      obtain ⟨x0, x1⟩ := x
      obtain ⟨y0, y1⟩ := y
      have e1 : ((k : Int) + 1 - 1) = (k : Int) := by omega
      have e3 : ((k : Int) + 1).toNat = k + 1 := by omega
      clear f0 f1 f2 f3 hx hy
      by_cases hb : Op.bytesLess x0.toList y0.toList = true
      · have HS := Lib.hid (ris_step HT.out HX.out HY.out hb)
        go_wp2_with fail
        go_quiet (fail)
        go_wp2
        exact ⟨⟨k + 1, d + nq, by omega, by simp, HS.out, by rw [HW.out, World.drewN_drewN]⟩, by simp [intOf]; omega⟩
      · have hb' : Op.bytesLess x0.toList y0.toList = false := by simpa using hb
        have HS : Hid (¬ ris xs) := Lib.hid (fun h => hb (h k _ _ HX.out HY.out))
        clear hb
        go_wp2_with fail
        go_quiet (fail)
        go_wp2
        go_ret
        exact ⟨⟨false, rfl, by simp [HS.out]⟩, by rw [HW.out]; exact bel_drewN (bel_drewN (Below.refl _ _) _) _⟩
    · have i1 : ¬ (k : Int) + 1 < (n : Int) := by omega
      have HS : Hid (ris xs) := Lib.hid (fun i x y hx hy => HT.out i (by
        have := (List.getElem?_eq_some_iff.1 hy).1
        rw [HL.out] at this
        omega) x y hx hy)
      go_wp2
      go_ret
      exact ⟨.inr ⟨rfl, HS.out⟩, by rw [HW.out]; exact bel_drewN (Below.refl _ _) _⟩
theorem le_cases {x y : List UInt8} (h : Op.bytesLess x y = false) : (Op.bytesLess y x = true) ∨ (Op.bytesLess y x = false ∧ (y == x) = true) := by
  rcases bl_tri x y with k | k | k
  · rw [k] at h; cases h
  · subst k; exact .inr ⟨bl_irr _, by simp⟩
  · exact .inl k
set_option maxHeartbeats 1000000 in
theorem rises_any (A : Option Addr) (n c : Nat) (xs : List TT) (w : World) (hl : xs.length = n) (hn : n ≤ 1000000000) (hA : RdT w A xs) :
    Calls Try.prog 31 #[.slice A n c] w fun e w' => (∃ b : Bool, e = .returned (.bool b) ∧ (b = true ↔ ris xs)) ∧ Below w.heap.size w w' := by
  have HL := Lib.hid hl
  have HA := Lib.hid hA
  clear hl hA
  go_enter Try.func31, Try.ntmps31
  go_wp2
  go_loopw [3] (fun iv wr => ∃ k d : Nat, (k + 1 ≤ n ∨ k = 0) ∧ iv = .int .i64 ((k : Int) + 1) ∧ (∀ i, i + 1 < k + 1 → ∀ x y, xs[i]? = some x → xs[i + 1]? = some y → Op.bytesLess x.1.toList y.1.toList = true) ∧ wr = w.drewN d) (fun i _ => n + 1 - (intOf i).toNat)
  case atStart => exact ⟨0, 0, .inr rfl, rfl, fun i hi => by omega, rfl⟩
  case round =>
    obtain ⟨k, d, hk, rfl, ht, hwr⟩ := hrel
    have HT := Lib.hid ht
    have HW := Lib.hid hwr
    clear ht hwr
    by_cases h8 : k + 1 < n
    · have i1 : (k : Int) + 1 < (n : Int) := by omega
      have i0 : (0 : Int) ≤ (k : Int) := by omega
      have i2 : (0 : Int) ≤ (k : Int) + 1 := by omega
      have i3 : (k : Int) < (n : Int) := by omega
      obtain ⟨x, hx⟩ : ∃ x, xs[k]? = some x := ⟨_, List.getElem?_eq_getElem (by rw [HL.out]; omega)⟩
      obtain ⟨y, hy⟩ : ∃ x, xs[k + 1]? = some x := ⟨_, List.getElem?_eq_getElem (by rw [HL.out]; omega)⟩
      obtain ⟨b, off, rfl, hlt, f0, f1⟩ := rdt_get HA.out hx
      obtain ⟨b2, off2, e2, hlt2, f2, f3⟩ := rdt_get HA.out hy
      cases e2
      have g0 : wr.cell? ⟨b, off + k * 2, none⟩ = some (.string x.1) := by rw [HW.out]; exact f0
      have g2 : wr.cell? ⟨b, off + (k + 1) * 2, none⟩ = some (.string y.1) := by rw [HW.out]; exact f2
      have HX := Lib.hid hx
      have HY := Lib.hid hy
      obtain ⟨x0, x1⟩ := x
      obtain ⟨y0, y1⟩ := y
      have e1 : ((k : Int) + 1 - 1) = (k : Int) := by omega
      have e3 : ((k : Int) + 1).toNat = k + 1 := by omega
      clear f0 f1 f2 f3 hx hy
      by_cases hb : Op.bytesLess x0.toList y0.toList = true
      · have HS := Lib.hid (ris_step HT.out HX.out HY.out hb)
        have hb1 := bl_asymm _ _ hb
        have hb2 : (y0.toList == x0.toList) = false := by
          rw [beq_eq_false_iff_ne]; intro e; rw [e, bl_irr] at hb; cases hb
        clear hb
        go_wp2_with fail
        go_quiet (fail)
        go_wp2
        exact ⟨⟨k + 1, d + nq, by omega, by simp, HS.out, by rw [HW.out, World.drewN_drewN]⟩, by simp [intOf]; omega⟩
      · have hb' : Op.bytesLess x0.toList y0.toList = false := by simpa using hb
        have HS : Hid (¬ ris xs) := Lib.hid (fun h => hb (h k _ _ HX.out HY.out))
        clear hb
        rcases le_cases hb' with h1 | h1
        all_goals
          clear hb'
          go_wp2_with fail
          go_quiet (fail)
          go_wp2
          go_ret
          exact ⟨⟨false, rfl, by simp [HS.out]⟩, by rw [HW.out]; exact bel_drewN (bel_drewN (Below.refl _ _) _) _⟩
    · have i1 : ¬ (k : Int) + 1 < (n : Int) := by omega
      have HS : Hid (ris xs) := Lib.hid (fun i x y hx hy => HT.out i (by
        have := (List.getElem?_eq_some_iff.1 hy).1
        rw [HL.out] at this
        omega) x y hx hy)
      go_wp2
      go_ret
      exact ⟨.inr ⟨rfl, HS.out⟩, by rw [HW.out]; exact bel_drewN (Below.refl _ _) _⟩
end Go.Proofs.Ytdbcaiggliiacaa
