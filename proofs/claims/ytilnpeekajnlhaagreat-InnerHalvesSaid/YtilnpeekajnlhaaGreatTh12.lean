/- Pivots: do they part a range? -/
import Derived.Test.YtilnpeekajnlhaaGreatTh02
import Derived.Test.YtilnpeekajnlhaaGreatTh11
set_option linter.unusedVariables false
set_option linter.unusedSimpArgs false
namespace Go.Proofs.YtilnpeekajnlhaaGreat.Pv
open Go.RowKit

def inK (p : List ByteArray) (f t : ByteArray) : Nat → Bool
  | 0 => true
  | k + 1 => inK p f t k && (lt f (at_ p k) && (emp t || lt (at_ p k) t))
def rightB (p : List ByteArray) (f t : ByteArray) : Bool := inK p f t p.length && (sb f t && risesB p)
theorem in_less {p : List ByteArray} {f t : ByteArray} {k : Nat} (h : inK p f t k = false) : ∀ j, k ≤ j → inK p f t j = false := by
  intro j hj
  induction j with
  | zero =>
    have e : k = 0 := by omega
    subst e; exact h
  | succ j ih =>
    by_cases e : k = j + 1
    · subst e; exact h
    · simp [inK, ih (by omega)]
theorem lt_trans {a b c : ByteArray} (h : lt a b = true) (k : lt b c = true) : lt a c = true := bl_trans _ _ _ h k
theorem lt_irr (a : ByteArray) : lt a a = false := bl_irr _
theorem lt_asymm {a b : ByteArray} (h : lt a b = true) : lt b a = false := bl_asymm _ _ h
/-- Pivots that rise, rise from each to each. -/
theorem rise_all {p : List ByteArray} : ∀ {k : Nat}, riseK p k = true → ∀ i j, i < j → j < k → lt (at_ p i) (at_ p j) = true := by
  intro k
  induction k with
  | zero => intro _ i j _ h; omega
  | succ k ih =>
    intro h i j hij hj
    simp only [riseK, Bool.and_eq_true, Bool.or_eq_true, decide_eq_true_eq] at h
    by_cases e : j = k
    · subst e
      have h2 : lt (at_ p (j - 1)) (at_ p j) = true := by
        rcases h.2 with h3 | h3
        · omega
        · exact h3
      by_cases e2 : i = j - 1
      · rw [e2]; exact h2
      · exact lt_trans (ih h.1 i (j - 1) (by omega) (by omega)) h2
    · exact ih h.1 i j hij (by omega)
theorem in_iff {p : List ByteArray} {f t : ByteArray} : ∀ {k : Nat}, inK p f t k = true ↔ ∀ i, i < k → lt f (at_ p i) = true ∧ (emp t = true ∨ lt (at_ p i) t = true) := by
  intro k
  induction k with
  | zero => exact ⟨fun _ i h => by omega, fun _ => rfl⟩
  | succ k ih =>
    simp only [inK, Bool.and_eq_true, Bool.or_eq_true]
    rw [ih]
    constructor
    · rintro ⟨h1, h2⟩ i hi
      by_cases e : i = k
      · subst e; exact h2
      · exact h1 i (by omega)
    · intro h
      exact ⟨fun i hi => h i (by omega), h k (by omega)⟩
/-- The first and the last one suffice. -/
theorem ends_in {p : List ByteArray} {f t : ByteArray} {n : Nat} (hn : p.length = n + 1) (hr : risesB p = true) : (lt f (at_ p 0) && has f t (at_ p n)) = inK p f t p.length := by
  have hall := rise_all (k := p.length) hr
  cases h : inK p f t p.length
  · cases h2 : (lt f (at_ p 0) && has f t (at_ p n))
    · rfl
    · exfalso
      simp only [has, sb, Bool.and_eq_true, Bool.or_eq_true, Bool.not_eq_true'] at h2
      have h3 : inK p f t p.length = true := in_iff.2 (fun i hi => by
        refine ⟨?_, ?_⟩
        · by_cases e : i = 0
          · subst e; exact h2.1
          · exact lt_trans h2.1 (hall 0 i (by omega) hi)
        · rcases h2.2.2 with h4 | h4
          · exact .inl h4
          · right
            by_cases e : i = n
            · subst e; exact h4
            · exact lt_trans (hall i n (by omega) (by omega)) h4)
      rw [h] at h3; cases h3
  · have h3 := in_iff.1 h
    have h4 := h3 0 (by omega)
    have h5 := h3 n (by omega)
    simp only [has, sb, h4.1, lt_asymm h5.1, Bool.true_and, Bool.not_false]
    rcases h5.2 with h6 | h6
    · rw [h6]; rfl
    · rw [h6]; simp
theorem bel_dw {B : Nat} {a w : World} (h : Below B a w) : Below B a w.drew := ⟨h.os, h.tape, h.output, h.size, h.block⟩
theorem rgcell {w : World} (f t : ByteArray) : (w.alloc (rgc f t)).cell? ⟨w.heap.size, 0, none⟩ = some (.string f) ∧ (w.alloc (rgc f t)).cell? ⟨w.heap.size, 1, none⟩ = some (.string t) := ⟨by simp [go_sem], by simp [go_sem]⟩
set_option maxHeartbeats 2000000 in
theorem right_any (A : Option Addr) (p : List ByteArray) (n c : Nat) (f t : ByteArray) (w : World) (hl : p.length = n) (hn : n ≤ 1000) (hr : RdS w A p) :
    Calls Tryz.prog 29 #[.slice A n c, .agg #[.string f, .string t]] w fun e w' => e = .returned (.bool (rightB p f t)) ∧ Below w.heap.size w w' := by
  have B0 : Hid (Below w.heap.size w (w.alloc (rgc f t))) := Lib.hid ((Below.refl _ _).alloc (Nat.le_refl _) _)
  have G := Lib.hid (rgcell (w := w) f t)
  cases hv1 : sb f t
  · have hres : rightB p f t = false := by unfold rightB; rw [hv1]; simp
    rw [hres]
    have C1 := Lib.hid (fun W => (by have h := rightRange_any f t W; rw [hv1] at h; exact h : Calls Tryz.prog 56 _ W _))
    clear hl hr hres hv1
    go_enter Tryz.func29, Tryz.ntmps29
    go_wp2_with (first
      | (go_at_call 56; ((with_reducible refine (C1.out _).mono ?_); rintro e w1 ⟨rfl, b1⟩; have B1 := Lib.hid (B0.out.trans (b1.mono B0.out.size)); clear b1))
      | fail)
    go_ret
    exact ⟨rfl, B1.out⟩
  · have C1 := Lib.hid (fun W => (by have h := rightRange_any f t W; rw [hv1] at h; exact h : Calls Tryz.prog 56 _ W _))
    cases hv2 : risesB p
    · have hres : rightB p f t = false := by unfold rightB; rw [hv2]; simp
      rw [hres]
      have C2 := Lib.hid (fun W (hb : Below w.heap.size w W) => (by have h := rises_any A p n c W hl hn (Rd.later hr hb); rw [hv2] at h; exact h : Calls Tryz.prog 57 _ W _))
      clear hl hr hres hv1 hv2
      go_enter Tryz.func29, Tryz.ntmps29
      go_wp2_with (first
        | (go_at_call 56; ((with_reducible refine (C1.out _).mono ?_); rintro e w1 ⟨rfl, b1⟩; have B1 := Lib.hid (B0.out.trans (b1.mono B0.out.size)); clear b1))
        | (go_at_call 57; ((with_reducible refine (C2.out _ B1.out).mono ?_); rintro e w2 ⟨rfl, b2⟩; have B2 := Lib.hid (B1.out.trans (b2.mono B1.out.size)); clear b2))
        | fail)
      go_ret
      exact ⟨rfl, B2.out⟩
    · have C2 := Lib.hid (fun W (hb : Below w.heap.size w W) => (by have h := rises_any A p n c W hl hn (Rd.later hr hb); rw [hv2] at h; exact h : Calls Tryz.prog 57 _ W _))
      rcases Nat.eq_zero_or_pos n with h0 | h0
      · subst h0
        have hres : rightB p f t = true := by unfold rightB; rw [hv1, hv2, hl]; rfl
        rw [hres]
        clear hl hr hres hv1 hv2
        go_enter Tryz.func29, Tryz.ntmps29
        go_wp2_with (first
          | (go_at_call 56; ((with_reducible refine (C1.out _).mono ?_); rintro e w1 ⟨rfl, b1⟩; have B1 := Lib.hid (B0.out.trans (b1.mono B0.out.size)); clear b1))
          | (go_at_call 57; ((with_reducible refine (C2.out _ B1.out).mono ?_); rintro e w2 ⟨rfl, b2⟩; have B2 := Lib.hid (B1.out.trans (b2.mono B1.out.size)); clear b2))
          | fail)
        go_quiet (fail)
        go_wp2
        go_ret
        exact ⟨rfl, bel_drewN B2.out _⟩
      · obtain ⟨m, rfl⟩ : ∃ m, n = m + 1 := ⟨n - 1, by omega⟩
        have hres : rightB p f t = (lt f (at_ p 0) && has f t (at_ p m)) := by unfold rightB; rw [hv1, hv2, ends_in hl hv2]; simp
        rw [hres]
        obtain ⟨b, off, rfl, hlt, f0⟩ := rds_get hr (k := 0) (by omega)
        obtain ⟨b2, off2, e2, _, f1⟩ := rds_get hr (k := m) (by omega)
        cases e2
        obtain ⟨x, hx⟩ : ∃ x, x = at_ p 0 := ⟨_, rfl⟩
        obtain ⟨y, hy⟩ : ∃ y, y = at_ p m := ⟨_, rfl⟩
        rw [← hx, ← hy]
        rw [← hx] at f0
        rw [← hy] at f1
        have F0 := Lib.hid f0
        have F1 := Lib.hid f1
        have C3 := Lib.hid (fun W => holds_any f t y W)
        have j0 : ¬ ((m + 1 : Nat) : Int) = 0 := by omega
        have j1 : (0 : Int) < ((m + 1 : Nat) : Int) := by omega
        have j2 : (0 : Int) ≤ ((m + 1 : Nat) : Int) - 1 := by omega
        have j3 : ((m + 1 : Nat) : Int) - 1 < ((m + 1 : Nat) : Int) := by omega
        have j4 : (((m + 1 : Nat) : Int) - 1).toNat = m := by omega
        have j6 : (m : Int) ≤ 1000 := by omega
        have j7 : (0 : Int) ≤ (m : Int) := by omega
        have j8 : ((m : Int) + 1 == 0) = false := by rw [beq_eq_false_iff_ne]; omega
        have j9 : (m : Int) < (m : Int) + 1 := by omega
        have jA : IntKind.i64.wrap (m : Int) = m := IntWalk.i64_in _ (by omega)
        clear hl hr hres hv1 hv2 hx hy f0 f1
        go_enter Tryz.func29, Tryz.ntmps29
        go_wp2_with (first
          | (go_at_call 56; ((with_reducible refine (C1.out _).mono ?_); rintro e w1 ⟨rfl, b1⟩; have B1 := Lib.hid (B0.out.trans (b1.mono B0.out.size)); have g0 := bel_later b1 G.out.1; have g1 := bel_later b1 G.out.2; clear b1))
          | (go_at_call 57; ((with_reducible refine (C2.out _ B1.out).mono ?_); rintro e w2 ⟨rfl, b2⟩; have B2 := Lib.hid (B1.out.trans (b2.mono B1.out.size)); have q0 := bel_later b2 g0; have q1 := bel_later b2 g1; have p0 := bel_later B2.out F0.out; have p1 := bel_later B2.out F1.out; clear b2 g0 g1))
          | fail)
        have p0 : w2.cell? ⟨b, off, none⟩ = some (.string x) := p0
        have HH0 := Lib.hid (And.intro q0 (And.intro q1 (And.intro p0 p1)))
        cases hv : lt f x
        · rcases le_facts f x hv with ⟨k1, k2⟩ | ⟨k1, k2⟩
          all_goals
            have k3 := (BEq.comm (a := f.toList) (b := x.toList)).trans k2
            have k4 : Op.bytesLess f.toList x.toList = false := hv
            have e0 : off + 0 = off := rfl
            have hv0 := hv
            clear hv q0 q1 p0 p1
            refine wp_region_held_drew (S := (fun V => V.cell? ⟨w.heap.size, 0, none⟩ = some (.string f) ∧ V.cell? ⟨w.heap.size, 1, none⟩ = some (.string t) ∧ V.cell? ⟨b, off, none⟩ = some (.string x) ∧ V.cell? ⟨b, off + m, none⟩ = some (.string y))) (by kernel_rfl) ?_ (fun hHeld => ?_)
            · exact HH0.out
            have HHeld := Lib.hid hHeld; clear hHeld
            refine wT (i := 0) (oi := { dst := some 13, op := Op.move (Operand.tmp 0), type := 23, pos := "pivot.go:26", after := #[], guard := none }) (v := ?_) rfl (Or.inl ⟨by rfl, ?_⟩) HHeld.out ?_
            rotate_left
            · intro w hSw; clear hSw; go_simp; try with_reducible rfl
            try simp only [pu, pn, s1, s2, s3]
            refine wT (i := 1) (oi := { dst := some 14, op := Op.call { callee := Callee.builtin Builtin.len, args := #[Operand.tmp 13], argTypes := #[23] }, type := 3, pos := "pivot.go:26", after := #[{ on := 0, ground := Ground.data }], guard := none }) (v := ?_) rfl (Or.inl ⟨by rfl, ?_⟩) HHeld.out ?_
            rotate_left
            · intro w hSw; clear hSw; go_simp; try with_reducible rfl
            try simp only [pu, pn, s1, s2, s3]
            refine wT (i := 2) (oi := { dst := some 15, op := Op.binOp BinOp.eql 3 (Operand.tmp 14) (Operand.const (Value.int IntKind.i64 0)) 3, type := 4, pos := "pivot.go:26", after := #[{ on := 1, ground := Ground.data }], guard := none }) (v := ?_) rfl (Or.inl ⟨by rfl, ?_⟩) HHeld.out ?_
            rotate_left
            · intro w hSw; clear hSw; go_simp; try with_reducible rfl
            try simp only [pu, pn, s1, s2, s3]
            refine wT (i := 3) (oi := { dst := some 16, op := Op.move (Operand.tmp 15), type := 4, pos := "pivot.go:26", after := #[{ on := 2, ground := Ground.data }], guard := none }) (v := ?_) rfl (Or.inl ⟨by rfl, ?_⟩) HHeld.out ?_
            rotate_left
            · intro w hSw; clear hSw; go_simp; try with_reducible rfl
            try simp only [pu, pn, s1, s2, s3]
            refine wT (i := 4) (oi := { dst := some 17, op := Op.move (Operand.tmp 0), type := 23, pos := "pivot.go:26", after := #[{ on := 3, ground := Ground.guard }], guard := some (3, false) }) (v := ?_) rfl (Or.inl ⟨by rfl, ?_⟩) HHeld.out ?_
            rotate_left
            · intro w hSw; clear hSw; go_simp; try with_reducible rfl
            try simp only [pu, pn, s1, s2, s3]
            refine wT (i := 5) (oi := { dst := some 18, op := Op.indexAddr 23 (Operand.tmp 17) (Operand.const (Value.int IntKind.i64 0)), type := 0, pos := "pivot.go:26", after := #[{ on := 4, ground := Ground.data }, { on := 3, ground := Ground.guard }], guard := some (3, false) }) (v := ?_) rfl (Or.inl ⟨by rfl, ?_⟩) HHeld.out ?_
            rotate_left
            · intro w hSw; clear hSw; go_simp; try with_reducible rfl
            try simp only [pu, pn, s1, s2, s3]
            refine wT (i := 6) (oi := { dst := some 19, op := Op.load 9 (Operand.tmp 18), type := 9, pos := "pivot.go:26", after := #[{ on := 5, ground := Ground.data }, { on := 3, ground := Ground.guard }], guard := some (3, false) }) (v := Value.string x) rfl (Or.inl ⟨by rfl, ?_⟩) HHeld.out ?_
            · intro V hV; have hc0 := hV.2.2.1; clear hV; go_simp
            try simp only [pu, pn, s1, s2, s3]
            refine wT (i := 7) (oi := { dst := some 20, op := Op.fieldAddr 30 (Operand.tmp 3) 0, type := 0, pos := "pivot.go:26", after := #[{ on := 3, ground := Ground.guard }], guard := some (3, false) }) (v := ?_) rfl (Or.inl ⟨by rfl, ?_⟩) HHeld.out ?_
            rotate_left
            · intro w hSw; clear hSw; go_simp; try with_reducible rfl
            try simp only [pu, pn, s1, s2, s3]
            refine wT (i := 8) (oi := { dst := some 21, op := Op.load 9 (Operand.tmp 20), type := 9, pos := "pivot.go:26", after := #[{ on := 7, ground := Ground.data }, { on := 3, ground := Ground.guard }], guard := some (3, false) }) (v := Value.string f) rfl (Or.inl ⟨by rfl, ?_⟩) HHeld.out ?_
            · intro V hV; have hc0 := hV.1; clear hV; go_simp
            try simp only [pu, pn, s1, s2, s3]
            refine wT (i := 9) (oi := { dst := some 22, op := Op.binOp BinOp.gtr 9 (Operand.tmp 19) (Operand.tmp 21) 9, type := 4, pos := "pivot.go:26", after := #[{ on := 6, ground := Ground.data }, { on := 8, ground := Ground.data }, { on := 3, ground := Ground.guard }], guard := some (3, false) }) (v := ?_) rfl (Or.inl ⟨by rfl, ?_⟩) HHeld.out ?_
            rotate_left
            · intro w hSw; clear hSw; go_simp; try with_reducible rfl
            try simp only [pu, pn, s1, s2, s3]
            refine wT (i := 10) (oi := { dst := some 23, op := Op.move (Operand.tmp 22), type := 4, pos := "pivot.go:26", after := #[{ on := 9, ground := Ground.data }, { on := 3, ground := Ground.chain }, { on := 3, ground := Ground.guard }], guard := some (3, false) }) (v := ?_) rfl (Or.inl ⟨by rfl, ?_⟩) HHeld.out ?_
            rotate_left
            · intro w hSw; clear hSw; go_simp; try with_reducible rfl
            try simp only [pu, pn, s1, s2, s3]
            refine wT (i := 11) (oi := { dst := some 24, op := Op.load 30 (Operand.tmp 3), type := 30, pos := "pivot.go:26", after := #[{ on := 10, ground := Ground.guard }], guard := some (10, true) }) (v := undef) rfl (Or.inr ⟨by rfl, rfl⟩) HHeld.out ?_
            try simp only [pu, pn, s1, s2, s3]
            refine wT (i := 12) (oi := { dst := some 25, op := Op.move (Operand.tmp 0), type := 23, pos := "pivot.go:26", after := #[{ on := 10, ground := Ground.guard }], guard := some (10, true) }) (v := undef) rfl (Or.inr ⟨by rfl, rfl⟩) HHeld.out ?_
            try simp only [pu, pn, s1, s2, s3]
            refine wT (i := 13) (oi := { dst := some 26, op := Op.move (Operand.tmp 0), type := 23, pos := "pivot.go:26", after := #[{ on := 10, ground := Ground.guard }], guard := some (10, true) }) (v := undef) rfl (Or.inr ⟨by rfl, rfl⟩) HHeld.out ?_
            try simp only [pu, pn, s1, s2, s3]
            refine wT (i := 14) (oi := { dst := some 27, op := Op.call { callee := Callee.builtin Builtin.len, args := #[Operand.tmp 26], argTypes := #[23] }, type := 3, pos := "pivot.go:26", after := #[{ on := 13, ground := Ground.data }, { on := 10, ground := Ground.guard }], guard := some (10, true) }) (v := undef) rfl (Or.inr ⟨by rfl, rfl⟩) HHeld.out ?_
            try simp only [pu, pn, s1, s2, s3]
            refine wT (i := 15) (oi := { dst := some 28, op := Op.binOp BinOp.sub 3 (Operand.tmp 27) (Operand.const (Value.int IntKind.i64 1)) 3, type := 3, pos := "pivot.go:26", after := #[{ on := 14, ground := Ground.data }, { on := 10, ground := Ground.guard }], guard := some (10, true) }) (v := undef) rfl (Or.inr ⟨by rfl, rfl⟩) HHeld.out ?_
            try simp only [pu, pn, s1, s2, s3]
            refine wT (i := 16) (oi := { dst := some 29, op := Op.indexAddr 23 (Operand.tmp 25) (Operand.tmp 28), type := 0, pos := "pivot.go:26", after := #[{ on := 12, ground := Ground.data }, { on := 15, ground := Ground.data }, { on := 10, ground := Ground.guard }], guard := some (10, true) }) (v := undef) rfl (Or.inr ⟨by rfl, rfl⟩) HHeld.out ?_
            try simp only [pu, pn, s1, s2, s3]
            refine wT (i := 17) (oi := { dst := some 30, op := Op.load 9 (Operand.tmp 29), type := 9, pos := "pivot.go:26", after := #[{ on := 16, ground := Ground.data }, { on := 10, ground := Ground.guard }], guard := some (10, true) }) (v := undef) rfl (Or.inr ⟨by rfl, rfl⟩) HHeld.out ?_
            try simp only [pu, pn, s1, s2, s3]
            refine wT (i := 18) (oi := { dst := some 31, op := Op.call { callee := Callee.value (Operand.func 58), args := #[Operand.tmp 24, Operand.tmp 30], argTypes := #[30, 9] }, type := 4, pos := "pivot.go:26", after := #[{ on := 11, ground := Ground.data }, { on := 17, ground := Ground.data }, { on := 10, ground := Ground.chain }, { on := 10, ground := Ground.guard }], guard := some (10, true) }) (v := undef) rfl (Or.inr ⟨by rfl, rfl⟩) HHeld.out ?_
            try simp only [pu, pn, s1, s2, s3]
            refine wT (i := 19) (oi := { dst := some 32, op := Op.pick (Operand.tmp 23) (Operand.tmp 31) (Operand.const (Value.bool false)), type := 4, pos := "pivot.go:26", after := #[{ on := 10, ground := Ground.data }, { on := 18, ground := Ground.data }, { on := 3, ground := Ground.guard }], guard := some (3, false) }) (v := ?_) rfl (Or.inl ⟨by rfl, ?_⟩) HHeld.out ?_
            rotate_left
            · intro w hSw; clear hSw; go_simp; try with_reducible rfl
            try simp only [pu, pn, s1, s2, s3]
            refine wT (i := 20) (oi := { dst := some 33, op := Op.pick (Operand.tmp 16) (Operand.const (Value.bool true)) (Operand.tmp 32), type := 4, pos := "pivot.go:26", after := #[{ on := 3, ground := Ground.data }, { on := 19, ground := Ground.data }], guard := none }) (v := ?_) rfl (Or.inl ⟨by rfl, ?_⟩) HHeld.out ?_
            rotate_left
            · intro w hSw; clear hSw; go_simp; try with_reducible rfl
            try simp only [pu, pn, s1, s2, s3]
            refine wT (i := 21) (oi := { dst := some 4, op := Op.assign (Operand.tmp 33), type := 4, pos := "pivot.go:26", after := #[{ on := 20, ground := Ground.data }, { on := 18, ground := Ground.chain }, { on := 0, ground := Ground.phase }, { on := 1, ground := Ground.phase }, { on := 2, ground := Ground.phase }, { on := 3, ground := Ground.phase }, { on := 4, ground := Ground.phase }, { on := 5, ground := Ground.phase }, { on := 6, ground := Ground.phase }, { on := 7, ground := Ground.phase }, { on := 8, ground := Ground.phase }, { on := 9, ground := Ground.phase }, { on := 10, ground := Ground.phase }, { on := 11, ground := Ground.phase }, { on := 12, ground := Ground.phase }, { on := 13, ground := Ground.phase }, { on := 14, ground := Ground.phase }, { on := 15, ground := Ground.phase }, { on := 16, ground := Ground.phase }, { on := 17, ground := Ground.phase }, { on := 18, ground := Ground.phase }, { on := 19, ground := Ground.phase }, { on := 20, ground := Ground.phase }], guard := none }) (v := ?_) rfl (Or.inl ⟨by rfl, ?_⟩) HHeld.out ?_
            rotate_left
            · intro w hSw; clear hSw; go_simp; try with_reducible rfl
            try simp only [pu, pn, s1, s2, s3]
            refine wpAnyH_done (by kernel_rfl) ?_ _
            go_wp2_with fail
            go_ret
            exact ⟨by simp [hv0, j8], bel_dw B2.out⟩
        · obtain ⟨k1, k2⟩ := gt_facts f x hv
          have k3 := (BEq.comm (a := f.toList) (b := x.toList)).trans k2
          have k4 : Op.bytesLess f.toList x.toList = true := hv
          have hv0 := hv
          clear hv q0 q1 p0 p1
          refine wp_region_held_drew (S := (fun V => V.cell? ⟨w.heap.size, 0, none⟩ = some (.string f) ∧ V.cell? ⟨w.heap.size, 1, none⟩ = some (.string t) ∧ V.cell? ⟨b, off, none⟩ = some (.string x) ∧ V.cell? ⟨b, off + m, none⟩ = some (.string y))) (by kernel_rfl) ?_ (fun hHeld => ?_)
          · exact HH0.out
          have HHeld := Lib.hid hHeld; clear hHeld
          refine wT (i := 0) (oi := { dst := some 13, op := Op.move (Operand.tmp 0), type := 23, pos := "pivot.go:26", after := #[], guard := none }) (v := ?_) rfl (Or.inl ⟨by rfl, ?_⟩) HHeld.out ?_
          rotate_left
          · intro w hSw; clear hSw; go_simp; try with_reducible rfl
          try simp only [pu, pn, s1, s2, s3]
          refine wT (i := 1) (oi := { dst := some 14, op := Op.call { callee := Callee.builtin Builtin.len, args := #[Operand.tmp 13], argTypes := #[23] }, type := 3, pos := "pivot.go:26", after := #[{ on := 0, ground := Ground.data }], guard := none }) (v := ?_) rfl (Or.inl ⟨by rfl, ?_⟩) HHeld.out ?_
          rotate_left
          · intro w hSw; clear hSw; go_simp; try with_reducible rfl
          try simp only [pu, pn, s1, s2, s3]
          refine wT (i := 2) (oi := { dst := some 15, op := Op.binOp BinOp.eql 3 (Operand.tmp 14) (Operand.const (Value.int IntKind.i64 0)) 3, type := 4, pos := "pivot.go:26", after := #[{ on := 1, ground := Ground.data }], guard := none }) (v := ?_) rfl (Or.inl ⟨by rfl, ?_⟩) HHeld.out ?_
          rotate_left
          · intro w hSw; clear hSw; go_simp; try with_reducible rfl
          try simp only [pu, pn, s1, s2, s3]
          refine wT (i := 3) (oi := { dst := some 16, op := Op.move (Operand.tmp 15), type := 4, pos := "pivot.go:26", after := #[{ on := 2, ground := Ground.data }], guard := none }) (v := ?_) rfl (Or.inl ⟨by rfl, ?_⟩) HHeld.out ?_
          rotate_left
          · intro w hSw; clear hSw; go_simp; try with_reducible rfl
          try simp only [pu, pn, s1, s2, s3]
          refine wT (i := 4) (oi := { dst := some 17, op := Op.move (Operand.tmp 0), type := 23, pos := "pivot.go:26", after := #[{ on := 3, ground := Ground.guard }], guard := some (3, false) }) (v := ?_) rfl (Or.inl ⟨by rfl, ?_⟩) HHeld.out ?_
          rotate_left
          · intro w hSw; clear hSw; go_simp; try with_reducible rfl
          try simp only [pu, pn, s1, s2, s3]
          refine wT (i := 5) (oi := { dst := some 18, op := Op.indexAddr 23 (Operand.tmp 17) (Operand.const (Value.int IntKind.i64 0)), type := 0, pos := "pivot.go:26", after := #[{ on := 4, ground := Ground.data }, { on := 3, ground := Ground.guard }], guard := some (3, false) }) (v := ?_) rfl (Or.inl ⟨by rfl, ?_⟩) HHeld.out ?_
          rotate_left
          · intro w hSw; clear hSw; go_simp; try with_reducible rfl
          try simp only [pu, pn, s1, s2, s3]
          refine wT (i := 6) (oi := { dst := some 19, op := Op.load 9 (Operand.tmp 18), type := 9, pos := "pivot.go:26", after := #[{ on := 5, ground := Ground.data }, { on := 3, ground := Ground.guard }], guard := some (3, false) }) (v := Value.string x) rfl (Or.inl ⟨by rfl, ?_⟩) HHeld.out ?_
          · intro V hV; have hc0 := hV.2.2.1; clear hV; go_simp
          try simp only [pu, pn, s1, s2, s3]
          refine wT (i := 7) (oi := { dst := some 20, op := Op.fieldAddr 30 (Operand.tmp 3) 0, type := 0, pos := "pivot.go:26", after := #[{ on := 3, ground := Ground.guard }], guard := some (3, false) }) (v := ?_) rfl (Or.inl ⟨by rfl, ?_⟩) HHeld.out ?_
          rotate_left
          · intro w hSw; clear hSw; go_simp; try with_reducible rfl
          try simp only [pu, pn, s1, s2, s3]
          refine wT (i := 8) (oi := { dst := some 21, op := Op.load 9 (Operand.tmp 20), type := 9, pos := "pivot.go:26", after := #[{ on := 7, ground := Ground.data }, { on := 3, ground := Ground.guard }], guard := some (3, false) }) (v := Value.string f) rfl (Or.inl ⟨by rfl, ?_⟩) HHeld.out ?_
          · intro V hV; have hc0 := hV.1; clear hV; go_simp
          try simp only [pu, pn, s1, s2, s3]
          refine wT (i := 9) (oi := { dst := some 22, op := Op.binOp BinOp.gtr 9 (Operand.tmp 19) (Operand.tmp 21) 9, type := 4, pos := "pivot.go:26", after := #[{ on := 6, ground := Ground.data }, { on := 8, ground := Ground.data }, { on := 3, ground := Ground.guard }], guard := some (3, false) }) (v := ?_) rfl (Or.inl ⟨by rfl, ?_⟩) HHeld.out ?_
          rotate_left
          · intro w hSw; clear hSw; go_simp; try with_reducible rfl
          try simp only [pu, pn, s1, s2, s3]
          refine wT (i := 10) (oi := { dst := some 23, op := Op.move (Operand.tmp 22), type := 4, pos := "pivot.go:26", after := #[{ on := 9, ground := Ground.data }, { on := 3, ground := Ground.chain }, { on := 3, ground := Ground.guard }], guard := some (3, false) }) (v := ?_) rfl (Or.inl ⟨by rfl, ?_⟩) HHeld.out ?_
          rotate_left
          · intro w hSw; clear hSw; go_simp; try with_reducible rfl
          try simp only [pu, pn, s1, s2, s3]
          refine wT (i := 11) (oi := { dst := some 24, op := Op.load 30 (Operand.tmp 3), type := 30, pos := "pivot.go:26", after := #[{ on := 10, ground := Ground.guard }], guard := some (10, true) }) (v := Value.agg #[.string f, .string t]) rfl (Or.inl ⟨by rfl, ?_⟩) HHeld.out ?_
          · intro V hV; have hc0 := hV.1; have hc1 := hV.2.1; clear hV; go_simp
          try simp only [pu, pn, s1, s2, s3]
          refine wT (i := 12) (oi := { dst := some 25, op := Op.move (Operand.tmp 0), type := 23, pos := "pivot.go:26", after := #[{ on := 10, ground := Ground.guard }], guard := some (10, true) }) (v := ?_) rfl (Or.inl ⟨by rfl, ?_⟩) HHeld.out ?_
          rotate_left
          · intro w hSw; clear hSw; go_simp; try with_reducible rfl
          try simp only [pu, pn, s1, s2, s3]
          refine wT (i := 13) (oi := { dst := some 26, op := Op.move (Operand.tmp 0), type := 23, pos := "pivot.go:26", after := #[{ on := 10, ground := Ground.guard }], guard := some (10, true) }) (v := ?_) rfl (Or.inl ⟨by rfl, ?_⟩) HHeld.out ?_
          rotate_left
          · intro w hSw; clear hSw; go_simp; try with_reducible rfl
          try simp only [pu, pn, s1, s2, s3]
          refine wT (i := 14) (oi := { dst := some 27, op := Op.call { callee := Callee.builtin Builtin.len, args := #[Operand.tmp 26], argTypes := #[23] }, type := 3, pos := "pivot.go:26", after := #[{ on := 13, ground := Ground.data }, { on := 10, ground := Ground.guard }], guard := some (10, true) }) (v := ?_) rfl (Or.inl ⟨by rfl, ?_⟩) HHeld.out ?_
          rotate_left
          · intro w hSw; clear hSw; go_simp; try with_reducible rfl
          try simp only [pu, pn, s1, s2, s3]
          refine wT (i := 15) (oi := { dst := some 28, op := Op.binOp BinOp.sub 3 (Operand.tmp 27) (Operand.const (Value.int IntKind.i64 1)) 3, type := 3, pos := "pivot.go:26", after := #[{ on := 14, ground := Ground.data }, { on := 10, ground := Ground.guard }], guard := some (10, true) }) (v := ?_) rfl (Or.inl ⟨by rfl, ?_⟩) HHeld.out ?_
          rotate_left
          · intro w hSw; clear hSw; go_simp; try with_reducible rfl
          try simp only [pu, pn, s1, s2, s3]
          refine wT (i := 16) (oi := { dst := some 29, op := Op.indexAddr 23 (Operand.tmp 25) (Operand.tmp 28), type := 0, pos := "pivot.go:26", after := #[{ on := 12, ground := Ground.data }, { on := 15, ground := Ground.data }, { on := 10, ground := Ground.guard }], guard := some (10, true) }) (v := ?_) rfl (Or.inl ⟨by rfl, ?_⟩) HHeld.out ?_
          rotate_left
          · intro w hSw; clear hSw; go_simp; try with_reducible rfl
          try simp only [pu, pn, s1, s2, s3]
          refine wT (i := 17) (oi := { dst := some 30, op := Op.load 9 (Operand.tmp 29), type := 9, pos := "pivot.go:26", after := #[{ on := 16, ground := Ground.data }, { on := 10, ground := Ground.guard }], guard := some (10, true) }) (v := Value.string y) rfl (Or.inl ⟨by rfl, ?_⟩) HHeld.out ?_
          · intro V hV; have hc0 := hV.2.2.2; clear hV; go_simp
          try simp only [pu, pn, s1, s2, s3]
          refine wpAnyH_ready (rs := [18]) (by kernel_rfl) (by simp) ?_
          refine AllReadyH.cons (o := { dst := some 31, op := Op.call { callee := Callee.value (Operand.func 58), args := #[Operand.tmp 24, Operand.tmp 30], argTypes := #[30, 9] }, type := 4, pos := "pivot.go:26", after := #[{ on := 11, ground := Ground.data }, { on := 17, ground := Ground.data }, { on := 10, ground := Ground.chain }, { on := 10, ground := Ground.guard }], guard := some (10, true) }) rfl (fun K hK => ?_) AllReadyH.nil
          go_simp
          (go_at_call 58; ((with_reducible refine (C3.out _).mono ?_); rintro e w3 ⟨rfl, b3⟩; have B3 : Hid (Below w.heap.size w w3) := Lib.hid ((bel_dw B2.out).trans (b3.mono B2.out.size)); have CC := Lib.hid (And.intro (bel_later b3 HHeld.out.1) (And.intro (bel_later b3 HHeld.out.2.1) (And.intro (bel_later b3 HHeld.out.2.2.1) (bel_later b3 HHeld.out.2.2.2)))); clear b3))
          refine hK.out _ _ ?_ (fun hHeld => ?_)
          · exact CC.out
          clear HHeld; have HHeld := Lib.hid hHeld; clear hHeld
          clear hK K
          try simp only [pu, pn, s1, s2, s3]
          refine wT (i := 19) (oi := { dst := some 32, op := Op.pick (Operand.tmp 23) (Operand.tmp 31) (Operand.const (Value.bool false)), type := 4, pos := "pivot.go:26", after := #[{ on := 10, ground := Ground.data }, { on := 18, ground := Ground.data }, { on := 3, ground := Ground.guard }], guard := some (3, false) }) (v := ?_) rfl (Or.inl ⟨by rfl, ?_⟩) HHeld.out ?_
          rotate_left
          · intro w hSw; clear hSw; go_simp; try with_reducible rfl
          try simp only [pu, pn, s1, s2, s3]
          refine wT (i := 20) (oi := { dst := some 33, op := Op.pick (Operand.tmp 16) (Operand.const (Value.bool true)) (Operand.tmp 32), type := 4, pos := "pivot.go:26", after := #[{ on := 3, ground := Ground.data }, { on := 19, ground := Ground.data }], guard := none }) (v := ?_) rfl (Or.inl ⟨by rfl, ?_⟩) HHeld.out ?_
          rotate_left
          · intro w hSw; clear hSw; go_simp; try with_reducible rfl
          try simp only [pu, pn, s1, s2, s3]
          refine wT (i := 21) (oi := { dst := some 4, op := Op.assign (Operand.tmp 33), type := 4, pos := "pivot.go:26", after := #[{ on := 20, ground := Ground.data }, { on := 18, ground := Ground.chain }, { on := 0, ground := Ground.phase }, { on := 1, ground := Ground.phase }, { on := 2, ground := Ground.phase }, { on := 3, ground := Ground.phase }, { on := 4, ground := Ground.phase }, { on := 5, ground := Ground.phase }, { on := 6, ground := Ground.phase }, { on := 7, ground := Ground.phase }, { on := 8, ground := Ground.phase }, { on := 9, ground := Ground.phase }, { on := 10, ground := Ground.phase }, { on := 11, ground := Ground.phase }, { on := 12, ground := Ground.phase }, { on := 13, ground := Ground.phase }, { on := 14, ground := Ground.phase }, { on := 15, ground := Ground.phase }, { on := 16, ground := Ground.phase }, { on := 17, ground := Ground.phase }, { on := 18, ground := Ground.phase }, { on := 19, ground := Ground.phase }, { on := 20, ground := Ground.phase }], guard := none }) (v := ?_) rfl (Or.inl ⟨by rfl, ?_⟩) HHeld.out ?_
          rotate_left
          · intro w hSw; clear hSw; go_simp; try with_reducible rfl
          try simp only [pu, pn, s1, s2, s3]
          refine wpAnyH_done (by kernel_rfl) ?_ _
          go_wp2_with fail
          go_ret
          exact ⟨by simp [hv0, j8], B3.out⟩
end Go.Proofs.YtilnpeekajnlhaaGreat.Pv
