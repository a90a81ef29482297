/- Pivots: all parts: the iterator is made. -/
import Derived.Test.YtngldfheneegcaaP5
namespace Go.Proofs.Ytngldfheneegcaa
set_option linter.unusedSimpArgs false
open Go.RowKit
set_option linter.unusedVariables false

/-- How many parts there are. -/
def many (p : List ByteArray) (f t : ByteArray) : Nat := if rightB p f t = true then p.length + 1 else 0
/-- What the iterator's boxes hold: how many, the pivots, the range; all of them below hi and not below lo. -/
structure It (w : World) (lo hi : Nat) (B1 B2 B3 : Nat) (p : List ByteArray) (f t : ByteArray) : Prop where
  b1 : lo ≤ B1 ∧ B1 < hi
  b2 : lo ≤ B2 ∧ B2 < hi
  b3 : lo ≤ B3 ∧ B3 < hi
  hs : hi ≤ w.heap.size
  c1 : w.cell? ⟨B1, 0, none⟩ = some (.int .i64 (many p f t : Nat))
  c2 : ∃ A c, w.cell? ⟨B2, 0, none⟩ = some (.slice A p.length c) ∧ RdS w A p ∧ (p = [] ∨ ∃ g, A = some ⟨g, 0, none⟩ ∧ lo ≤ g ∧ g < hi)
  c3 : w.cell? ⟨B3, 0, none⟩ = some (.string f) ∧ w.cell? ⟨B3, 1, none⟩ = some (.string t)
def itv (B1 B2 B3 : Nat) : Value := .func (.func 34) #[] #[.pointer (some ⟨B1, 0, none⟩), .pointer (some ⟨B2, 0, none⟩), .pointer (some ⟨B3, 0, none⟩)]
def AllPost (w : World) (p : List ByteArray) (f t : ByteArray) (e : Ending) (w' : World) : Prop := ∃ B1 B2 B3, e = .returned (itv B1 B2 B3) ∧ It w' w.heap.size w'.heap.size B1 B2 B3 p f t ∧ Below w.heap.size w w'
theorem rds_set {w : World} {A : Option Addr} {p : List ByteArray} {N j : Nat} {v : Value} (h : RdS w A p) (hne : p = [] ∨ ∃ g, A = some ⟨g, 0, none⟩ ∧ N < g) : RdS (w.setCell ⟨N, j, none⟩ v) A p := by
  rcases hne with hne | ⟨g, rfl, hg⟩
  · subst hne; exact .inl rfl
  · rcases h with h | ⟨b, off, e, hlt, hc⟩
    · exact .inl h
    · cases e
      exact .inr ⟨g, 0, rfl, by simpa using hlt, fun j' u hu => (World.cell?_setCell_other _ _ _ _ (by first | (simp; done) | (simp; omega))).trans (hc j' u hu)⟩
abbrev W3 (w : World) (A : Option Addr) (n c : Nat) (f t : ByteArray) : World := (((w.alloc (.cells #[.slice A n c] 22)).alloc (rgc f t)).alloc (.cells #[.int .i64 0] 3))
theorem all_end {w wo w2 : World} {A' : Option Addr} {c' n : Nat} {p : List ByteArray} {f t : ByteArray} (hl : p.length = n) (hb0 : Below w.heap.size w wo) (hsz : w.heap.size + 3 ≤ wo.heap.size)
    (c1 : wo.cell? ⟨w.heap.size + 1 + 1, 0, none⟩ = some (.int .i64 (many p f t : Nat))) (c2 : wo.cell? ⟨w.heap.size, 0, none⟩ = some (.slice A' n c') ∨ True) (z2 : ∃ v, wo.cell? ⟨w.heap.size, 0, none⟩ = some v) (c3 : wo.cell? ⟨w.heap.size + 1, 0, none⟩ = some (.string f) ∧ wo.cell? ⟨w.heap.size + 1, 1, none⟩ = some (.string t))
    (r1 : RdS w2 A' p) (r2 : p = [] ∨ ∃ g, A' = some ⟨g, 0, none⟩ ∧ wo.heap.size ≤ g) (hb : Below wo.heap.size wo w2) :
    AllPost w p f t (.returned (itv (w.heap.size + 1 + 1) w.heap.size (w.heap.size + 1))) (w2.setCell ⟨w.heap.size, 0, none⟩ (.slice A' n c')) := by
  have hs2 := hb.size
  refine ⟨_, _, _, rfl, ⟨⟨by omega, by simp; omega⟩, ⟨by omega, by simp; omega⟩, ⟨by omega, by simp; omega⟩, Nat.le_refl _, ?_, ⟨A', c', ?_, rds_set r1 ?_, ?_⟩, ?_, ?_⟩, ?_⟩
  · exact (World.cell?_setCell_other _ _ _ _ (by first | (simp; done) | (simp; omega))).trans (bel_later hb c1)
  · obtain ⟨v, hv⟩ := z2
    rw [hl]
    exact World.cell?_setCell_same _ _ _ (bel_later hb hv)
  · rcases r2 with h | ⟨g, h1, h2⟩
    · exact .inl h
    · exact .inr ⟨g, h1, by omega⟩
  · by_cases hp : p = []
    · exact .inl hp
    rcases r2 with h | ⟨g, h1, h2⟩
    · exact .inl h
    · right
      subst h1
      rcases r1 with h | ⟨b, off, e, hlt, _⟩
      · exact absurd (List.map_eq_nil_iff.1 h) hp
      · cases e
        exact ⟨g, rfl, by omega, by simpa using hlt⟩
  · exact (World.cell?_setCell_other _ _ _ _ (by simp)).trans (bel_later hb c3.1)
  · exact (World.cell?_setCell_other _ _ _ _ (by simp)).trans (bel_later hb c3.2)
  · exact (hb0.trans (hb.mono hb0.size)).setCell (p := ⟨w.heap.size, 0, none⟩) (Nat.le_refl _) _
set_option maxHeartbeats 1000000 in
theorem all_any (A : Option Addr) (p : List ByteArray) (n c : Nat) (f t : ByteArray) (w : World) (hl : p.length = n) (hn : n ≤ 1000) (hr : RdS w A p) :
    Calls Try.prog 23 #[.slice A n c, .agg #[.string f, .string t]] w (AllPost w p f t) := by
  have B0 : Hid (Below w.heap.size w (W3 w A n c f t)) := Lib.hid (by unfold W3; go_grown)
  have Q0 : Hid ((W3 w A n c f t).cell? ⟨w.heap.size, 0, none⟩ = some (.slice A n c)) := Lib.hid (by simp [W3, go_sem])
  have Q1 : Hid ((W3 w A n c f t).cell? ⟨w.heap.size + 1, 0, none⟩ = some (.string f) ∧ (W3 w A n c f t).cell? ⟨w.heap.size + 1, 1, none⟩ = some (.string t)) := Lib.hid (by simp [W3, go_sem])
  have Q3 : Hid ((W3 w A n c f t).cell? ⟨w.heap.size + 1 + 1, 0, none⟩ = some (.int .i64 0)) := Lib.hid (by simp [W3, go_sem])
  have F0 : Hid ((W3 w A n c f t).frozen? ⟨w.heap.size, 0, none⟩ = false ∧ (W3 w A n c f t).frozen? ⟨w.heap.size + 1 + 1, 0, none⟩ = false) := Lib.hid (by simp [W3, go_sem])
  have Z0 : Hid ((W3 w A n c f t).heap.size = w.heap.size + 3) := Lib.hid (by simp [W3])
  have O := Lib.hid (fun W (hb : Below w.heap.size w W) => own_any A n c p W hl (by omega) (Rd.later hr hb))
  have HL := Lib.hid hl
  have R := Lib.hid (fun W (hb : Below w.heap.size w W) => right_any A p n c f t W hl hn (Rd.later hr hb))
  have hn0 : (0 : Int) ≤ (n : Int) := by omega
  have hn9 : (n : Int) ≤ 1000 := by omega
  clear hr hl
  cases hv : rightB p f t
  · have HM : Hid (((many p f t : Nat) : Int) = 0) := Lib.hid (by unfold many; rw [hv]; rfl)
    rw [hv] at R
    clear hv
    go_enter Try.func23, Try.ntmps23
    go_wp2_with (first
      | (go_at_call 14; ((with_reducible refine (R.out _ B0.out).mono ?_); rintro e w1 ⟨rfl, b1⟩; have B1 := Lib.hid (B0.out.trans (b1.mono B0.out.size)); have C1 := Lib.hid b1; have q0 := bel_later b1 Q0.out; have z0 : w1.frozen? ⟨w.heap.size, 0, none⟩ = false := (bel_frozen b1 (by rw [Z0.out]; omega)).trans F0.out.1; clear b1))
      | (go_at_call 33; ((with_reducible refine (O.out _ B1.out).mono ?_); rintro e w2 ⟨A', c', rfl, r1, r2, b2⟩; have y0 := bel_later b2 q0; have y1 : w2.frozen? ⟨w.heap.size, 0, none⟩ = false := (bel_frozen b2 (World.block_lt_of_cell? w1 _ q0)).trans z0; have R1 := Lib.hid r1; have R2 := Lib.hid r2; have B2 := Lib.hid b2; clear r1 r2 b2))
      | fail)
    exact bodyPost_ret (v := itv (w.heap.size + 1 + 1) w.heap.size (w.heap.size + 1)) (by simp [results, Try.results23, go_sem, itv]) rfl (by
      rw [HL.out]
      refine all_end HL.out B1.out (by have := C1.out.size; rw [Z0.out] at this; omega) (by rw [HM.out]; exact bel_later C1.out Q3.out) (.inr trivial) ⟨_, q0⟩ ⟨bel_later C1.out Q1.out.1, bel_later C1.out Q1.out.2⟩ R1.out R2.out B2.out)
  · have HM : Hid (((many p f t : Nat) : Int) = (n : Int) + 1) := Lib.hid (by unfold many; rw [hv, if_pos rfl, HL.out]; omega)
    rw [hv] at R
    clear hv
    go_enter Try.func23, Try.ntmps23
    go_wp2_with (first
      | (go_at_call 14; ((with_reducible refine (R.out _ B0.out).mono ?_); rintro e w1 ⟨rfl, b1⟩; have B1 := Lib.hid (B0.out.trans (b1.mono B0.out.size)); have C1 := Lib.hid b1; have q0 := bel_later b1 Q0.out; have z0 : w1.frozen? ⟨w.heap.size, 0, none⟩ = false := (bel_frozen b1 (by rw [Z0.out]; omega)).trans F0.out.1; have q3 := bel_later b1 Q3.out; have z3 : w1.frozen? ⟨w.heap.size + 1 + 1, 0, none⟩ = false := (bel_frozen b1 (by rw [Z0.out]; omega)).trans F0.out.2; have B1s : Hid (Below w.heap.size w (w1.setCell ⟨w.heap.size + 1 + 1, 0, none⟩ (.int .i64 ((n : Int) + 1)))) := Lib.hid (B1.out.setCell (p := ⟨w.heap.size + 1 + 1, 0, none⟩) (by simp; omega) _); have q0' : (w1.setCell ⟨w.heap.size + 1 + 1, 0, none⟩ (.int .i64 ((n : Int) + 1))).cell? ⟨w.heap.size, 0, none⟩ = some (.slice A n c) := (World.cell?_setCell_other _ _ _ _ (by first | (simp; done) | (simp; omega))).trans q0; clear b1))
      | (go_at_call 33; ((with_reducible refine (O.out _ B1s.out).mono ?_); rintro e w2 ⟨A', c', rfl, r1, r2, b2⟩; have y0 := bel_later b2 q0'; have y1 : w2.frozen? ⟨w.heap.size, 0, none⟩ = false := (bel_frozen b2 (World.block_lt_of_cell? _ _ q0')).trans (by rw [World.frozen?_setCell]; exact z0); have R1 := Lib.hid r1; have R2 := Lib.hid r2; have B2 := Lib.hid b2; clear r1 r2 b2))
      | fail)
    exact bodyPost_ret (v := itv (w.heap.size + 1 + 1) w.heap.size (w.heap.size + 1)) (by simp [results, Try.results23, go_sem, itv]) rfl (by
      rw [HL.out]
      refine all_end HL.out B1s.out (by have := C1.out.size; rw [Z0.out] at this; simp; omega) (by rw [HM.out]; exact World.cell?_setCell_same _ _ _ q3) (.inr trivial) ⟨_, q0'⟩ ⟨(World.cell?_setCell_other _ _ _ _ (by simp)).trans (bel_later C1.out Q1.out.1), (World.cell?_setCell_other _ _ _ _ (by simp)).trans (bel_later C1.out Q1.out.2)⟩ R1.out R2.out B2.out)
end Go.Proofs.Ytngldfheneegcaa
