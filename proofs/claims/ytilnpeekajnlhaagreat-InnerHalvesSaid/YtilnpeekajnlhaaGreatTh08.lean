/- Which messages are a buffer: the document's. -/
import Derived.Test.YtilnpeekajnlhaaGreatTh02
import Derived.Test.YtilnpeekajnlhaaGreatTh03
set_option linter.unusedVariables false
set_option linter.unusedSimpArgs false
namespace Go.Proofs.YtilnpeekajnlhaaGreat
open Go.RowKit Go.Maps
def rcX (x : MG) : Bool := (decide (1 ≤ x.kd) && decide (x.kd ≤ 4)) && sb (spF x) (spT x)
def rcP (p x : MG) : Bool := aheadM p x && !(p.sq == x.sq && (meetF (spF p) (spT p) (spF x) (spT x)).2.2)
def rcI (xs : List MG) (i : Nat) : Bool := match xs[i]? with
  | none => true
  | some x => rcX x && (match i with | 0 => true | j + 1 => match xs[j]? with | none => true | some p => rcP p x)
def rightB (xs : List MG) : Bool := (List.range xs.length).all (rcI xs)
theorem rcI_zero {xs : List MG} {x : MG} (hx : xs[0]? = some x) : rcI xs 0 = rcX x := by simp [rcI, hx]
theorem rcI_succ {xs : List MG} {j : Nat} {p x : MG} (hp : xs[j]? = some p) (hx : xs[j + 1]? = some x) : rcI xs (j + 1) = (rcX x && rcP p x) := by simp [rcI, hx, hp]
theorem rcI_bad {xs : List MG} {k : Nat} {x : MG} (hx : xs[k]? = some x) (h : rcX x = false) : rcI xs k = false := by simp [rcI, hx, h]
theorem right_no {xs : List MG} {k : Nat} (hk : k < xs.length) (h : rcI xs k = false) : rightB xs = false := by
  unfold rightB; rw [List.all_eq_false]; exact ⟨k, List.mem_range.2 hk, by simp [h]⟩
theorem right_yes {xs : List MG} (h : ∀ i, i < xs.length → rcI xs i = true) : rightB xs = true := by
  unfold rightB; rw [List.all_eq_true]; exact fun i hi => h i (List.mem_range.1 hi)
theorem right_at {xs : List MG} (h : rightB xs = true) {i : Nat} (hi : i < xs.length) : rcI xs i = true := by
  unfold rightB at h; rw [List.all_eq_true] at h; exact h i (List.mem_range.2 hi)
theorem next_ok {xs : List MG} {k : Nat} (h : ∀ i, i < k → rcI xs i = true) (h2 : rcI xs k = true) : ∀ i, i < k + 1 → rcI xs i = true := by
  intro i hi
  rcases (by omega : i < k ∨ i = k) with a | rfl
  · exact h i a
  · exact h2
set_option maxRecDepth 100000 in
set_option maxHeartbeats 8000000 in
theorem rright_all (A : Option Addr) (n cap : Nat) (xs : List MG) (w : World) (hl : xs.length = n) (hn : n ≤ 1000) (hA : EG.Rd w A xs) (ho : OkA xs) :
    Calls Tryz.prog 17 #[.slice A n cap] w fun r w' => r = .returned (.bool (rightB xs)) ∧ Below w.heap.size w w' := by
  have HL := Lib.hid hl
  have HA := Lib.hid hA
  have HO := Lib.hid ho
  clear hl hA ho
  obtain ⟨R, hR⟩ : ∃ R, R = rightB xs := ⟨_, rfl⟩
  rw [← hR]
  have HR := Lib.hid hR
  clear hR
  go_enter Tryz.func17, Tryz.ntmps17
  go_wp2
  go_loopw [3] (fun iv wr => ∃ (k : Nat), k ≤ n ∧ iv = .int .i64 k ∧ Hid (∀ i, i < k → rcI xs i = true) ∧ Below w.heap.size w wr) (fun i _ => n - (intOf i).toNat)
  case atStart => exact ⟨0, by omega, rfl, Lib.hid (fun i h => absurd h (by omega)), Below.refl _ _⟩
  case round =>
    obtain ⟨k, hk, rfl, HI, hb⟩ := hrel
    have HB := Lib.hid hb
    clear hb
    by_cases h8 : k < n
    · have hk1 : (k : Int) < (n : Int) := by omega
      have hk0 : (0 : Int) ≤ (k : Int) := by omega
      obtain ⟨x, hx⟩ : ∃ x, xs[k]? = some x := ⟨_, List.getElem?_eq_getElem (by rw [HL.out]; omega)⟩
      obtain ⟨b, off, rfl, hlt, g0, g1, g2, g3, g4, g5⟩ := eg_at (HA.out.later HB.out) hx
      have HX := Lib.hid hx
      have HOX := Lib.hid (HO.out.get hx)
      have HKL : Hid (k < xs.length) := Lib.hid (by rw [HL.out]; exact h8)
      clear hx hlt
      by_cases e1 : (1 : Int) ≤ x.kd
      · by_cases e2 : x.kd ≤ 4
        · cases e3 : sb (spF x) (spT x)
          · go_wp2_with (first
              | (go_at_call 40; ((with_reducible refine (rspan_any x HOX.out _).mono ?_); rintro e w1 ⟨rfl, c1⟩; have C1 := Lib.hid c1; clear c1))
              | (go_at_call 28; ((with_reducible refine (rright_any _ _ _).mono ?_); rintro e w2 ⟨rfl, c2⟩; have C2 := Lib.hid (bel_trans C1.out c2); clear c2; rw [e3]))
              | fail)
            go_ret
            exact ⟨by rw [HR.out, right_no HKL.out (rcI_bad HX.out (by simp [rcX, e3]))]; rfl, bel_trans HB.out C2.out⟩
          · by_cases hz : k = 0
            · have z1 : ¬ (0 : Int) < (k : Int) := by omega
              have z1n : ¬ (0 < k) := by omega
              have z1d : decide (0 < k) = false := by simpa using z1n
              have z2 : k = 0 := hz
              have HRI := Lib.hid (show rcI xs k = true by rw [z2, rcI_zero (z2 ▸ HX.out)]; simp [rcX, e1, e2, e3])
              clear z2 hz
              go_wp2_with (first
                | (go_at_call 40; ((with_reducible refine (rspan_any x HOX.out _).mono ?_); rintro e w1 ⟨rfl, c1⟩; have C1 := Lib.hid c1; clear c1))
                | (go_at_call 28; ((with_reducible refine (rright_any _ _ _).mono ?_); rintro e w2 ⟨rfl, c2⟩; have C2 := Lib.hid (bel_trans C1.out c2); clear c2; rw [e3]))
                | fail)
              clear g0 g1 g2 g3 g4 g5
              refine wp_region_held_drew (S := (fun V : World => Below wr.heap.size wr V)) (by kernel_rfl) ?_ (fun hHeld => ?_)
              · exact C2.out.drew
              have HHeld := Lib.hid hHeld; clear hHeld
              refine wT (i := 0) (oi := { dst := some 33, op := Op.move (Operand.tmp 3), type := 3, pos := "ref.go:22", after := #[], guard := none }) (v := ?_) rfl (Or.inl ⟨by rfl, ?_⟩) HHeld.out ?_
              rotate_left
              · intro w hSw; clear hSw; go_simp; try with_reducible rfl
              try simp only [pu, pn, s1, s2, s3]
              refine wT (i := 1) (oi := { dst := some 34, op := Op.binOp BinOp.gtr 3 (Operand.tmp 33) (Operand.const (Value.int IntKind.i64 0)) 3, type := 4, pos := "ref.go:22", after := #[{ on := 0, ground := Ground.data }], guard := none }) (v := ?_) rfl (Or.inl ⟨by rfl, ?_⟩) HHeld.out ?_
              rotate_left
              · intro w hSw; clear hSw; go_simp; try with_reducible rfl
              try simp only [pu, pn, s1, s2, s3]
              refine wT (i := 2) (oi := { dst := some 35, op := Op.move (Operand.tmp 34), type := 4, pos := "ref.go:22", after := #[{ on := 1, ground := Ground.data }], guard := none }) (v := ?_) rfl (Or.inl ⟨by rfl, ?_⟩) HHeld.out ?_
              rotate_left
              · intro w hSw; clear hSw; go_simp; try with_reducible rfl
              try simp only [pu, pn, s1, s2, s3]
              refine wT (i := 3) (oi := { dst := some 36, op := Op.move (Operand.tmp 0), type := 25, pos := "ref.go:22", after := #[{ on := 2, ground := Ground.guard }], guard := some (2, true) }) (v := undef) rfl (Or.inr ⟨by rfl, rfl⟩) HHeld.out ?_
              try simp only [pu, pn, s1, s2, s3]
              refine wT (i := 4) (oi := { dst := some 37, op := Op.move (Operand.tmp 3), type := 3, pos := "ref.go:22", after := #[{ on := 2, ground := Ground.guard }], guard := some (2, true) }) (v := undef) rfl (Or.inr ⟨by rfl, rfl⟩) HHeld.out ?_
              try simp only [pu, pn, s1, s2, s3]
              refine wT (i := 5) (oi := { dst := some 38, op := Op.binOp BinOp.sub 3 (Operand.tmp 37) (Operand.const (Value.int IntKind.i64 1)) 3, type := 3, pos := "ref.go:22", after := #[{ on := 4, ground := Ground.data }, { on := 2, ground := Ground.guard }], guard := some (2, true) }) (v := undef) rfl (Or.inr ⟨by rfl, rfl⟩) HHeld.out ?_
              try simp only [pu, pn, s1, s2, s3]
              refine wT (i := 6) (oi := { dst := some 39, op := Op.indexAddr 25 (Operand.tmp 36) (Operand.tmp 38), type := 0, pos := "ref.go:22", after := #[{ on := 3, ground := Ground.data }, { on := 5, ground := Ground.data }, { on := 2, ground := Ground.guard }], guard := some (2, true) }) (v := undef) rfl (Or.inr ⟨by rfl, rfl⟩) HHeld.out ?_
              try simp only [pu, pn, s1, s2, s3]
              refine wT (i := 7) (oi := { dst := some 40, op := Op.load 50 (Operand.tmp 39), type := 50, pos := "ref.go:22", after := #[{ on := 6, ground := Ground.data }, { on := 2, ground := Ground.guard }], guard := some (2, true) }) (v := undef) rfl (Or.inr ⟨by rfl, rfl⟩) HHeld.out ?_
              try simp only [pu, pn, s1, s2, s3]
              refine wT (i := 8) (oi := { dst := some 41, op := Op.move (Operand.tmp 0), type := 25, pos := "ref.go:22", after := #[{ on := 2, ground := Ground.guard }], guard := some (2, true) }) (v := undef) rfl (Or.inr ⟨by rfl, rfl⟩) HHeld.out ?_
              try simp only [pu, pn, s1, s2, s3]
              refine wT (i := 9) (oi := { dst := some 42, op := Op.move (Operand.tmp 3), type := 3, pos := "ref.go:22", after := #[{ on := 2, ground := Ground.guard }], guard := some (2, true) }) (v := undef) rfl (Or.inr ⟨by rfl, rfl⟩) HHeld.out ?_
              try simp only [pu, pn, s1, s2, s3]
              refine wT (i := 10) (oi := { dst := some 43, op := Op.indexAddr 25 (Operand.tmp 41) (Operand.tmp 42), type := 0, pos := "ref.go:22", after := #[{ on := 8, ground := Ground.data }, { on := 9, ground := Ground.data }, { on := 2, ground := Ground.guard }], guard := some (2, true) }) (v := undef) rfl (Or.inr ⟨by rfl, rfl⟩) HHeld.out ?_
              try simp only [pu, pn, s1, s2, s3]
              refine wT (i := 11) (oi := { dst := some 44, op := Op.load 50 (Operand.tmp 43), type := 50, pos := "ref.go:22", after := #[{ on := 10, ground := Ground.data }, { on := 2, ground := Ground.guard }], guard := some (2, true) }) (v := undef) rfl (Or.inr ⟨by rfl, rfl⟩) HHeld.out ?_
              try simp only [pu, pn, s1, s2, s3]
              refine wT (i := 12) (oi := { dst := some 45, op := Op.call { callee := Callee.value (Operand.func 41), args := #[Operand.tmp 40, Operand.tmp 44], argTypes := #[50, 50] }, type := 4, pos := "ref.go:22", after := #[{ on := 7, ground := Ground.data }, { on := 11, ground := Ground.data }, { on := 2, ground := Ground.chain }, { on := 2, ground := Ground.guard }], guard := some (2, true) }) (v := undef) rfl (Or.inr ⟨by rfl, rfl⟩) HHeld.out ?_
              try simp only [pu, pn, s1, s2, s3]
              refine wT (i := 13) (oi := { dst := some 46, op := Op.unOp UnOp.not 4 (Operand.tmp 45), type := 4, pos := "ref.go:22", after := #[{ on := 12, ground := Ground.data }, { on := 2, ground := Ground.guard }], guard := some (2, true) }) (v := undef) rfl (Or.inr ⟨by rfl, rfl⟩) HHeld.out ?_
              try simp only [pu, pn, s1, s2, s3]
              refine wT (i := 14) (oi := { dst := some 47, op := Op.pick (Operand.tmp 35) (Operand.tmp 46) (Operand.const (Value.bool false)), type := 4, pos := "ref.go:22", after := #[{ on := 2, ground := Ground.data }, { on := 13, ground := Ground.data }], guard := none }) (v := ?_) rfl (Or.inl ⟨by rfl, ?_⟩) HHeld.out ?_
              rotate_left
              · intro w hSw; clear hSw; go_simp; try with_reducible rfl
              try simp only [pu, pn, s1, s2, s3]
              refine wpAnyH_done (by kernel_rfl) ?_ _
              have CD := Lib.hid HHeld.out
              clear HHeld
              go_wp2_with fail
              refine wp_region_held_drew (S := (fun V : World => Below wr.heap.size wr V)) (by kernel_rfl) ?_ (fun hHeld => ?_)
              · exact CD.out.drew
              have HHeld := Lib.hid hHeld; clear hHeld
              refine wT (i := 0) (oi := { dst := some 48, op := Op.move (Operand.tmp 3), type := 3, pos := "ref.go:25", after := #[], guard := none }) (v := ?_) rfl (Or.inl ⟨by rfl, ?_⟩) HHeld.out ?_
              rotate_left
              · intro w hSw; clear hSw; go_simp; try with_reducible rfl
              try simp only [pu, pn, s1, s2, s3]
              refine wT (i := 1) (oi := { dst := some 49, op := Op.binOp BinOp.gtr 3 (Operand.tmp 48) (Operand.const (Value.int IntKind.i64 0)) 3, type := 4, pos := "ref.go:25", after := #[{ on := 0, ground := Ground.data }], guard := none }) (v := ?_) rfl (Or.inl ⟨by rfl, ?_⟩) HHeld.out ?_
              rotate_left
              · intro w hSw; clear hSw; go_simp; try with_reducible rfl
              try simp only [pu, pn, s1, s2, s3]
              refine wT (i := 2) (oi := { dst := some 50, op := Op.move (Operand.tmp 49), type := 4, pos := "ref.go:25", after := #[{ on := 1, ground := Ground.data }], guard := none }) (v := ?_) rfl (Or.inl ⟨by rfl, ?_⟩) HHeld.out ?_
              rotate_left
              · intro w hSw; clear hSw; go_simp; try with_reducible rfl
              try simp only [pu, pn, s1, s2, s3]
              refine wT (i := 3) (oi := { dst := some 51, op := Op.move (Operand.tmp 0), type := 25, pos := "ref.go:25", after := #[{ on := 2, ground := Ground.guard }], guard := some (2, true) }) (v := undef) rfl (Or.inr ⟨by rfl, rfl⟩) HHeld.out ?_
              try simp only [pu, pn, s1, s2, s3]
              refine wT (i := 4) (oi := { dst := some 52, op := Op.move (Operand.tmp 3), type := 3, pos := "ref.go:25", after := #[{ on := 2, ground := Ground.guard }], guard := some (2, true) }) (v := undef) rfl (Or.inr ⟨by rfl, rfl⟩) HHeld.out ?_
              try simp only [pu, pn, s1, s2, s3]
              refine wT (i := 5) (oi := { dst := some 53, op := Op.binOp BinOp.sub 3 (Operand.tmp 52) (Operand.const (Value.int IntKind.i64 1)) 3, type := 3, pos := "ref.go:25", after := #[{ on := 4, ground := Ground.data }, { on := 2, ground := Ground.guard }], guard := some (2, true) }) (v := undef) rfl (Or.inr ⟨by rfl, rfl⟩) HHeld.out ?_
              try simp only [pu, pn, s1, s2, s3]
              refine wT (i := 6) (oi := { dst := some 54, op := Op.indexAddr 25 (Operand.tmp 51) (Operand.tmp 53), type := 0, pos := "ref.go:25", after := #[{ on := 3, ground := Ground.data }, { on := 5, ground := Ground.data }, { on := 2, ground := Ground.guard }], guard := some (2, true) }) (v := undef) rfl (Or.inr ⟨by rfl, rfl⟩) HHeld.out ?_
              try simp only [pu, pn, s1, s2, s3]
              refine wT (i := 7) (oi := { dst := some 55, op := Op.fieldAddr 50 (Operand.tmp 54) 1, type := 0, pos := "ref.go:25", after := #[{ on := 6, ground := Ground.data }, { on := 2, ground := Ground.guard }], guard := some (2, true) }) (v := undef) rfl (Or.inr ⟨by rfl, rfl⟩) HHeld.out ?_
              try simp only [pu, pn, s1, s2, s3]
              refine wT (i := 8) (oi := { dst := some 56, op := Op.load 3 (Operand.tmp 55), type := 3, pos := "ref.go:25", after := #[{ on := 7, ground := Ground.data }, { on := 2, ground := Ground.guard }], guard := some (2, true) }) (v := undef) rfl (Or.inr ⟨by rfl, rfl⟩) HHeld.out ?_
              try simp only [pu, pn, s1, s2, s3]
              refine wT (i := 9) (oi := { dst := some 57, op := Op.move (Operand.tmp 0), type := 25, pos := "ref.go:25", after := #[{ on := 2, ground := Ground.guard }], guard := some (2, true) }) (v := undef) rfl (Or.inr ⟨by rfl, rfl⟩) HHeld.out ?_
              try simp only [pu, pn, s1, s2, s3]
              refine wT (i := 10) (oi := { dst := some 58, op := Op.move (Operand.tmp 3), type := 3, pos := "ref.go:25", after := #[{ on := 2, ground := Ground.guard }], guard := some (2, true) }) (v := undef) rfl (Or.inr ⟨by rfl, rfl⟩) HHeld.out ?_
              try simp only [pu, pn, s1, s2, s3]
              refine wT (i := 11) (oi := { dst := some 59, op := Op.indexAddr 25 (Operand.tmp 57) (Operand.tmp 58), type := 0, pos := "ref.go:25", after := #[{ on := 9, ground := Ground.data }, { on := 10, ground := Ground.data }, { on := 2, ground := Ground.guard }], guard := some (2, true) }) (v := undef) rfl (Or.inr ⟨by rfl, rfl⟩) HHeld.out ?_
              try simp only [pu, pn, s1, s2, s3]
              refine wT (i := 12) (oi := { dst := some 60, op := Op.fieldAddr 50 (Operand.tmp 59) 1, type := 0, pos := "ref.go:25", after := #[{ on := 11, ground := Ground.data }, { on := 2, ground := Ground.guard }], guard := some (2, true) }) (v := undef) rfl (Or.inr ⟨by rfl, rfl⟩) HHeld.out ?_
              try simp only [pu, pn, s1, s2, s3]
              refine wT (i := 13) (oi := { dst := some 61, op := Op.load 3 (Operand.tmp 60), type := 3, pos := "ref.go:25", after := #[{ on := 12, ground := Ground.data }, { on := 2, ground := Ground.guard }], guard := some (2, true) }) (v := undef) rfl (Or.inr ⟨by rfl, rfl⟩) HHeld.out ?_
              try simp only [pu, pn, s1, s2, s3]
              refine wT (i := 14) (oi := { dst := some 62, op := Op.binOp BinOp.eql 3 (Operand.tmp 56) (Operand.tmp 61) 3, type := 4, pos := "ref.go:25", after := #[{ on := 8, ground := Ground.data }, { on := 13, ground := Ground.data }, { on := 2, ground := Ground.guard }], guard := some (2, true) }) (v := undef) rfl (Or.inr ⟨by rfl, rfl⟩) HHeld.out ?_
              try simp only [pu, pn, s1, s2, s3]
              refine wT (i := 15) (oi := { dst := some 63, op := Op.pick (Operand.tmp 50) (Operand.tmp 62) (Operand.const (Value.bool false)), type := 4, pos := "ref.go:25", after := #[{ on := 2, ground := Ground.data }, { on := 14, ground := Ground.data }], guard := none }) (v := ?_) rfl (Or.inl ⟨by rfl, ?_⟩) HHeld.out ?_
              rotate_left
              · intro w hSw; clear hSw; go_simp; try with_reducible rfl
              try simp only [pu, pn, s1, s2, s3]
              refine wpAnyH_done (by kernel_rfl) ?_ _
              have CE := Lib.hid HHeld.out
              go_wp2
              exact ⟨⟨k + 1, by omega, by simp, Lib.hid (next_ok HI.out HRI.out), bel_trans HB.out CE.out⟩, by simp [intOf]; omega⟩
            · obtain ⟨j, hj⟩ : ∃ j, k = j + 1 := ⟨k - 1, by omega⟩
              subst hj
              clear hz
              obtain ⟨p, hp⟩ : ∃ p, xs[j]? = some p := ⟨_, List.getElem?_eq_getElem (by rw [HL.out]; omega)⟩
              obtain ⟨b', off', hbb, hlt, p0, p1, p2, p3, p4, p5⟩ := eg_at (HA.out.later HB.out) hp
              injection hbb with hbb; injection hbb with hb1 hb2 hb3; subst hb1; subst hb2
              have z1 : (0 : Int) < ((j + 1 : Nat) : Int) := by omega
              have jn : j < n := by omega
              have jz : (j : Int) < (n : Int) := by omega
              have jw : IntKind.i64.wrap (j : Int) = (j : Int) := IntWalk.i64_in _ (by omega)
              have HRI := Lib.hid (rcI_succ hp HX.out)
              have HOP := Lib.hid (HO.out.get hp)
              have G0 := Lib.hid g0; have G1 := Lib.hid g1; have G2 := Lib.hid g2; have G3 := Lib.hid g3; have G4 := Lib.hid g4; have G5 := Lib.hid g5
              have P0 := Lib.hid p0; have P1 := Lib.hid p1; have P2 := Lib.hid p2; have P3 := Lib.hid p3; have P4 := Lib.hid p4; have P5 := Lib.hid p5
              have hX : rcX x = true := by simp [rcX, e1, e2, e3]
              rw [hX, Bool.true_and] at HRI
              clear hX p0 p1 p2 p3 p4 p5 hp hlt
              go_wp2_with (first
                | (go_at_call 40; ((with_reducible refine (rspan_any x HOX.out _).mono ?_); rintro e w1 ⟨rfl, c1⟩; have C1 := Lib.hid c1; clear c1))
                | (go_at_call 28; ((with_reducible refine (rright_any _ _ _).mono ?_); rintro e w2 ⟨rfl, c2⟩; have C2 := Lib.hid (bel_trans C1.out c2); clear c2; rw [e3]))
                | fail)
              clear g0 g1 g2 g3 g4 g5
              cases ea : aheadM p x
              · refine wp_region_held_drew (S := (fun V : World => Below wr.heap.size wr V)) (by kernel_rfl) ?_ (fun hHeld => ?_)
                · exact C2.out.drew
                have HHeld := Lib.hid hHeld; clear hHeld
                refine wT (i := 0) (oi := { dst := some 33, op := Op.move (Operand.tmp 3), type := 3, pos := "ref.go:22", after := #[], guard := none }) (v := ?_) rfl (Or.inl ⟨by rfl, ?_⟩) HHeld.out ?_
                rotate_left
                · intro w hSw; clear hSw; go_simp; try with_reducible rfl
                try simp only [pu, pn, s1, s2, s3]
                refine wT (i := 1) (oi := { dst := some 34, op := Op.binOp BinOp.gtr 3 (Operand.tmp 33) (Operand.const (Value.int IntKind.i64 0)) 3, type := 4, pos := "ref.go:22", after := #[{ on := 0, ground := Ground.data }], guard := none }) (v := ?_) rfl (Or.inl ⟨by rfl, ?_⟩) HHeld.out ?_
                rotate_left
                · intro w hSw; clear hSw; go_simp; try with_reducible rfl
                try simp only [pu, pn, s1, s2, s3]
                refine wT (i := 2) (oi := { dst := some 35, op := Op.move (Operand.tmp 34), type := 4, pos := "ref.go:22", after := #[{ on := 1, ground := Ground.data }], guard := none }) (v := ?_) rfl (Or.inl ⟨by rfl, ?_⟩) HHeld.out ?_
                rotate_left
                · intro w hSw; clear hSw; go_simp; try with_reducible rfl
                try simp only [pu, pn, s1, s2, s3]
                refine wT (i := 3) (oi := { dst := some 36, op := Op.move (Operand.tmp 0), type := 25, pos := "ref.go:22", after := #[{ on := 2, ground := Ground.guard }], guard := some (2, true) }) (v := ?_) rfl (Or.inl ⟨by rfl, ?_⟩) HHeld.out ?_
                rotate_left
                · intro w hSw; clear hSw; go_simp; try with_reducible rfl
                try simp only [pu, pn, s1, s2, s3]
                refine wT (i := 4) (oi := { dst := some 37, op := Op.move (Operand.tmp 3), type := 3, pos := "ref.go:22", after := #[{ on := 2, ground := Ground.guard }], guard := some (2, true) }) (v := ?_) rfl (Or.inl ⟨by rfl, ?_⟩) HHeld.out ?_
                rotate_left
                · intro w hSw; clear hSw; go_simp; try with_reducible rfl
                try simp only [pu, pn, s1, s2, s3]
                refine wT (i := 5) (oi := { dst := some 38, op := Op.binOp BinOp.sub 3 (Operand.tmp 37) (Operand.const (Value.int IntKind.i64 1)) 3, type := 3, pos := "ref.go:22", after := #[{ on := 4, ground := Ground.data }, { on := 2, ground := Ground.guard }], guard := some (2, true) }) (v := ?_) rfl (Or.inl ⟨by rfl, ?_⟩) HHeld.out ?_
                rotate_left
                · intro w hSw; clear hSw; go_simp; try with_reducible rfl
                try simp only [pu, pn, s1, s2, s3]
                refine wT (i := 6) (oi := { dst := some 39, op := Op.indexAddr 25 (Operand.tmp 36) (Operand.tmp 38), type := 0, pos := "ref.go:22", after := #[{ on := 3, ground := Ground.data }, { on := 5, ground := Ground.data }, { on := 2, ground := Ground.guard }], guard := some (2, true) }) (v := ?_) rfl (Or.inl ⟨by rfl, ?_⟩) HHeld.out ?_
                rotate_left
                · intro w hSw; clear hSw; go_simp; try with_reducible rfl
                try simp only [pu, pn, s1, s2, s3]
                refine wT (i := 7) (oi := { dst := some 40, op := Op.load 50 (Operand.tmp 39), type := 50, pos := "ref.go:22", after := #[{ on := 6, ground := Ground.data }, { on := 2, ground := Ground.guard }], guard := some (2, true) }) (v := (.agg #[.int .u8 p.kd, .int .i64 p.sq, .string p.ky, .string p.to, .string p.vl, .int .u64 p.dl] : Value)) rfl (Or.inl ⟨by rfl, ?_⟩) HHeld.out ?_
                · intro V hV; have hc0 := bel_later hV P0.out; have hc1 := bel_later hV P1.out; have hc2 := bel_later hV P2.out; have hc3 := bel_later hV P3.out; have hc4 := bel_later hV P4.out; have hc5 := bel_later hV P5.out; clear hV; go_simp
                try simp only [pu, pn, s1, s2, s3]
                refine wT (i := 8) (oi := { dst := some 41, op := Op.move (Operand.tmp 0), type := 25, pos := "ref.go:22", after := #[{ on := 2, ground := Ground.guard }], guard := some (2, true) }) (v := ?_) rfl (Or.inl ⟨by rfl, ?_⟩) HHeld.out ?_
                rotate_left
                · intro w hSw; clear hSw; go_simp; try with_reducible rfl
                try simp only [pu, pn, s1, s2, s3]
                refine wT (i := 9) (oi := { dst := some 42, op := Op.move (Operand.tmp 3), type := 3, pos := "ref.go:22", after := #[{ on := 2, ground := Ground.guard }], guard := some (2, true) }) (v := ?_) rfl (Or.inl ⟨by rfl, ?_⟩) HHeld.out ?_
                rotate_left
                · intro w hSw; clear hSw; go_simp; try with_reducible rfl
                try simp only [pu, pn, s1, s2, s3]
                refine wT (i := 10) (oi := { dst := some 43, op := Op.indexAddr 25 (Operand.tmp 41) (Operand.tmp 42), type := 0, pos := "ref.go:22", after := #[{ on := 8, ground := Ground.data }, { on := 9, ground := Ground.data }, { on := 2, ground := Ground.guard }], guard := some (2, true) }) (v := ?_) rfl (Or.inl ⟨by rfl, ?_⟩) HHeld.out ?_
                rotate_left
                · intro w hSw; clear hSw; go_simp; try with_reducible rfl
                try simp only [pu, pn, s1, s2, s3]
                refine wT (i := 11) (oi := { dst := some 44, op := Op.load 50 (Operand.tmp 43), type := 50, pos := "ref.go:22", after := #[{ on := 10, ground := Ground.data }, { on := 2, ground := Ground.guard }], guard := some (2, true) }) (v := (.agg #[.int .u8 x.kd, .int .i64 x.sq, .string x.ky, .string x.to, .string x.vl, .int .u64 x.dl] : Value)) rfl (Or.inl ⟨by rfl, ?_⟩) HHeld.out ?_
                · intro V hV; have hc0 := bel_later hV G0.out; have hc1 := bel_later hV G1.out; have hc2 := bel_later hV G2.out; have hc3 := bel_later hV G3.out; have hc4 := bel_later hV G4.out; have hc5 := bel_later hV G5.out; clear hV; go_simp
                try simp only [pu, pn, s1, s2, s3]
                refine wpAnyH_ready (rs := [12]) (by kernel_rfl) (by simp) ?_
                refine AllReadyH.cons (o := { dst := some 45, op := Op.call { callee := Callee.value (Operand.func 41), args := #[Operand.tmp 40, Operand.tmp 44], argTypes := #[50, 50] }, type := 4, pos := "ref.go:22", after := #[{ on := 7, ground := Ground.data }, { on := 11, ground := Ground.data }, { on := 2, ground := Ground.chain }, { on := 2, ground := Ground.guard }], guard := some (2, true) }) rfl (fun K hK => ?_) AllReadyH.nil
                go_simp
                go_at_call 41; (refine (ahead_any p x _).mono ?_); rintro e w3 ⟨rfl, c3⟩; have C3 := Lib.hid (bel_trans HHeld.out c3); clear c3; rw [ea]
                refine hK.out _ _ ?_ (fun hHeld => ?_)
                · exact C3.out
                clear HHeld; have HHeld := Lib.hid hHeld; clear hHeld
                clear hK K
                try simp only [pu, pn, s1, s2, s3]
                refine wT (i := 13) (oi := { dst := some 46, op := Op.unOp UnOp.not 4 (Operand.tmp 45), type := 4, pos := "ref.go:22", after := #[{ on := 12, ground := Ground.data }, { on := 2, ground := Ground.guard }], guard := some (2, true) }) (v := ?_) rfl (Or.inl ⟨by rfl, ?_⟩) HHeld.out ?_
                rotate_left
                · intro w hSw; clear hSw; go_simp; try with_reducible rfl
                try simp only [pu, pn, s1, s2, s3]
                refine wT (i := 14) (oi := { dst := some 47, op := Op.pick (Operand.tmp 35) (Operand.tmp 46) (Operand.const (Value.bool false)), type := 4, pos := "ref.go:22", after := #[{ on := 2, ground := Ground.data }, { on := 13, ground := Ground.data }], guard := none }) (v := ?_) rfl (Or.inl ⟨by rfl, ?_⟩) HHeld.out ?_
                rotate_left
                · intro w hSw; clear hSw; go_simp; try with_reducible rfl
                try simp only [pu, pn, s1, s2, s3]
                refine wpAnyH_done (by kernel_rfl) ?_ _
                go_wp2
                go_ret
                exact ⟨by rw [HR.out, right_no HKL.out (by rw [HRI.out]; simp [rcP, ea])]; rfl, bel_trans HB.out C3.out⟩
              · refine wp_region_held_drew (S := (fun V : World => Below wr.heap.size wr V)) (by kernel_rfl) ?_ (fun hHeld => ?_)
                · exact C2.out.drew
                have HHeld := Lib.hid hHeld; clear hHeld
                refine wT (i := 0) (oi := { dst := some 33, op := Op.move (Operand.tmp 3), type := 3, pos := "ref.go:22", after := #[], guard := none }) (v := ?_) rfl (Or.inl ⟨by rfl, ?_⟩) HHeld.out ?_
                rotate_left
                · intro w hSw; clear hSw; go_simp; try with_reducible rfl
                try simp only [pu, pn, s1, s2, s3]
                refine wT (i := 1) (oi := { dst := some 34, op := Op.binOp BinOp.gtr 3 (Operand.tmp 33) (Operand.const (Value.int IntKind.i64 0)) 3, type := 4, pos := "ref.go:22", after := #[{ on := 0, ground := Ground.data }], guard := none }) (v := ?_) rfl (Or.inl ⟨by rfl, ?_⟩) HHeld.out ?_
                rotate_left
                · intro w hSw; clear hSw; go_simp; try with_reducible rfl
                try simp only [pu, pn, s1, s2, s3]
                refine wT (i := 2) (oi := { dst := some 35, op := Op.move (Operand.tmp 34), type := 4, pos := "ref.go:22", after := #[{ on := 1, ground := Ground.data }], guard := none }) (v := ?_) rfl (Or.inl ⟨by rfl, ?_⟩) HHeld.out ?_
                rotate_left
                · intro w hSw; clear hSw; go_simp; try with_reducible rfl
                try simp only [pu, pn, s1, s2, s3]
                refine wT (i := 3) (oi := { dst := some 36, op := Op.move (Operand.tmp 0), type := 25, pos := "ref.go:22", after := #[{ on := 2, ground := Ground.guard }], guard := some (2, true) }) (v := ?_) rfl (Or.inl ⟨by rfl, ?_⟩) HHeld.out ?_
                rotate_left
                · intro w hSw; clear hSw; go_simp; try with_reducible rfl
                try simp only [pu, pn, s1, s2, s3]
                refine wT (i := 4) (oi := { dst := some 37, op := Op.move (Operand.tmp 3), type := 3, pos := "ref.go:22", after := #[{ on := 2, ground := Ground.guard }], guard := some (2, true) }) (v := ?_) rfl (Or.inl ⟨by rfl, ?_⟩) HHeld.out ?_
                rotate_left
                · intro w hSw; clear hSw; go_simp; try with_reducible rfl
                try simp only [pu, pn, s1, s2, s3]
                refine wT (i := 5) (oi := { dst := some 38, op := Op.binOp BinOp.sub 3 (Operand.tmp 37) (Operand.const (Value.int IntKind.i64 1)) 3, type := 3, pos := "ref.go:22", after := #[{ on := 4, ground := Ground.data }, { on := 2, ground := Ground.guard }], guard := some (2, true) }) (v := ?_) rfl (Or.inl ⟨by rfl, ?_⟩) HHeld.out ?_
                rotate_left
                · intro w hSw; clear hSw; go_simp; try with_reducible rfl
                try simp only [pu, pn, s1, s2, s3]
                refine wT (i := 6) (oi := { dst := some 39, op := Op.indexAddr 25 (Operand.tmp 36) (Operand.tmp 38), type := 0, pos := "ref.go:22", after := #[{ on := 3, ground := Ground.data }, { on := 5, ground := Ground.data }, { on := 2, ground := Ground.guard }], guard := some (2, true) }) (v := ?_) rfl (Or.inl ⟨by rfl, ?_⟩) HHeld.out ?_
                rotate_left
                · intro w hSw; clear hSw; go_simp; try with_reducible rfl
                try simp only [pu, pn, s1, s2, s3]
                refine wT (i := 7) (oi := { dst := some 40, op := Op.load 50 (Operand.tmp 39), type := 50, pos := "ref.go:22", after := #[{ on := 6, ground := Ground.data }, { on := 2, ground := Ground.guard }], guard := some (2, true) }) (v := (.agg #[.int .u8 p.kd, .int .i64 p.sq, .string p.ky, .string p.to, .string p.vl, .int .u64 p.dl] : Value)) rfl (Or.inl ⟨by rfl, ?_⟩) HHeld.out ?_
                · intro V hV; have hc0 := bel_later hV P0.out; have hc1 := bel_later hV P1.out; have hc2 := bel_later hV P2.out; have hc3 := bel_later hV P3.out; have hc4 := bel_later hV P4.out; have hc5 := bel_later hV P5.out; clear hV; go_simp
                try simp only [pu, pn, s1, s2, s3]
                refine wT (i := 8) (oi := { dst := some 41, op := Op.move (Operand.tmp 0), type := 25, pos := "ref.go:22", after := #[{ on := 2, ground := Ground.guard }], guard := some (2, true) }) (v := ?_) rfl (Or.inl ⟨by rfl, ?_⟩) HHeld.out ?_
                rotate_left
                · intro w hSw; clear hSw; go_simp; try with_reducible rfl
                try simp only [pu, pn, s1, s2, s3]
                refine wT (i := 9) (oi := { dst := some 42, op := Op.move (Operand.tmp 3), type := 3, pos := "ref.go:22", after := #[{ on := 2, ground := Ground.guard }], guard := some (2, true) }) (v := ?_) rfl (Or.inl ⟨by rfl, ?_⟩) HHeld.out ?_
                rotate_left
                · intro w hSw; clear hSw; go_simp; try with_reducible rfl
                try simp only [pu, pn, s1, s2, s3]
                refine wT (i := 10) (oi := { dst := some 43, op := Op.indexAddr 25 (Operand.tmp 41) (Operand.tmp 42), type := 0, pos := "ref.go:22", after := #[{ on := 8, ground := Ground.data }, { on := 9, ground := Ground.data }, { on := 2, ground := Ground.guard }], guard := some (2, true) }) (v := ?_) rfl (Or.inl ⟨by rfl, ?_⟩) HHeld.out ?_
                rotate_left
                · intro w hSw; clear hSw; go_simp; try with_reducible rfl
                try simp only [pu, pn, s1, s2, s3]
                refine wT (i := 11) (oi := { dst := some 44, op := Op.load 50 (Operand.tmp 43), type := 50, pos := "ref.go:22", after := #[{ on := 10, ground := Ground.data }, { on := 2, ground := Ground.guard }], guard := some (2, true) }) (v := (.agg #[.int .u8 x.kd, .int .i64 x.sq, .string x.ky, .string x.to, .string x.vl, .int .u64 x.dl] : Value)) rfl (Or.inl ⟨by rfl, ?_⟩) HHeld.out ?_
                · intro V hV; have hc0 := bel_later hV G0.out; have hc1 := bel_later hV G1.out; have hc2 := bel_later hV G2.out; have hc3 := bel_later hV G3.out; have hc4 := bel_later hV G4.out; have hc5 := bel_later hV G5.out; clear hV; go_simp
                try simp only [pu, pn, s1, s2, s3]
                refine wpAnyH_ready (rs := [12]) (by kernel_rfl) (by simp) ?_
                refine AllReadyH.cons (o := { dst := some 45, op := Op.call { callee := Callee.value (Operand.func 41), args := #[Operand.tmp 40, Operand.tmp 44], argTypes := #[50, 50] }, type := 4, pos := "ref.go:22", after := #[{ on := 7, ground := Ground.data }, { on := 11, ground := Ground.data }, { on := 2, ground := Ground.chain }, { on := 2, ground := Ground.guard }], guard := some (2, true) }) rfl (fun K hK => ?_) AllReadyH.nil
                go_simp
                go_at_call 41; (refine (ahead_any p x _).mono ?_); rintro e w3 ⟨rfl, c3⟩; have C3 := Lib.hid (bel_trans HHeld.out c3); clear c3; rw [ea]
                refine hK.out _ _ ?_ (fun hHeld => ?_)
                · exact C3.out
                clear HHeld; have HHeld := Lib.hid hHeld; clear hHeld
                clear hK K
                try simp only [pu, pn, s1, s2, s3]
                refine wT (i := 13) (oi := { dst := some 46, op := Op.unOp UnOp.not 4 (Operand.tmp 45), type := 4, pos := "ref.go:22", after := #[{ on := 12, ground := Ground.data }, { on := 2, ground := Ground.guard }], guard := some (2, true) }) (v := ?_) rfl (Or.inl ⟨by rfl, ?_⟩) HHeld.out ?_
                rotate_left
                · intro w hSw; clear hSw; go_simp; try with_reducible rfl
                try simp only [pu, pn, s1, s2, s3]
                refine wT (i := 14) (oi := { dst := some 47, op := Op.pick (Operand.tmp 35) (Operand.tmp 46) (Operand.const (Value.bool false)), type := 4, pos := "ref.go:22", after := #[{ on := 2, ground := Ground.data }, { on := 13, ground := Ground.data }], guard := none }) (v := ?_) rfl (Or.inl ⟨by rfl, ?_⟩) HHeld.out ?_
                rotate_left
                · intro w hSw; clear hSw; go_simp; try with_reducible rfl
                try simp only [pu, pn, s1, s2, s3]
                refine wpAnyH_done (by kernel_rfl) ?_ _
                go_wp2_with fail
                cases es : (p.sq == x.sq)
                · refine wp_region_held_drew (S := (fun V : World => Below wr.heap.size wr V)) (by kernel_rfl) ?_ (fun hHeld => ?_)
                  · exact C3.out.drew
                  have HHeld := Lib.hid hHeld; clear hHeld
                  refine wT (i := 0) (oi := { dst := some 48, op := Op.move (Operand.tmp 3), type := 3, pos := "ref.go:25", after := #[], guard := none }) (v := ?_) rfl (Or.inl ⟨by rfl, ?_⟩) HHeld.out ?_
                  rotate_left
                  · intro w hSw; clear hSw; go_simp; try with_reducible rfl
                  try simp only [pu, pn, s1, s2, s3]
                  refine wT (i := 1) (oi := { dst := some 49, op := Op.binOp BinOp.gtr 3 (Operand.tmp 48) (Operand.const (Value.int IntKind.i64 0)) 3, type := 4, pos := "ref.go:25", after := #[{ on := 0, ground := Ground.data }], guard := none }) (v := ?_) rfl (Or.inl ⟨by rfl, ?_⟩) HHeld.out ?_
                  rotate_left
                  · intro w hSw; clear hSw; go_simp; try with_reducible rfl
                  try simp only [pu, pn, s1, s2, s3]
                  refine wT (i := 2) (oi := { dst := some 50, op := Op.move (Operand.tmp 49), type := 4, pos := "ref.go:25", after := #[{ on := 1, ground := Ground.data }], guard := none }) (v := ?_) rfl (Or.inl ⟨by rfl, ?_⟩) HHeld.out ?_
                  rotate_left
                  · intro w hSw; clear hSw; go_simp; try with_reducible rfl
                  try simp only [pu, pn, s1, s2, s3]
                  refine wT (i := 3) (oi := { dst := some 51, op := Op.move (Operand.tmp 0), type := 25, pos := "ref.go:25", after := #[{ on := 2, ground := Ground.guard }], guard := some (2, true) }) (v := ?_) rfl (Or.inl ⟨by rfl, ?_⟩) HHeld.out ?_
                  rotate_left
                  · intro w hSw; clear hSw; go_simp; try with_reducible rfl
                  try simp only [pu, pn, s1, s2, s3]
                  refine wT (i := 4) (oi := { dst := some 52, op := Op.move (Operand.tmp 3), type := 3, pos := "ref.go:25", after := #[{ on := 2, ground := Ground.guard }], guard := some (2, true) }) (v := ?_) rfl (Or.inl ⟨by rfl, ?_⟩) HHeld.out ?_
                  rotate_left
                  · intro w hSw; clear hSw; go_simp; try with_reducible rfl
                  try simp only [pu, pn, s1, s2, s3]
                  refine wT (i := 5) (oi := { dst := some 53, op := Op.binOp BinOp.sub 3 (Operand.tmp 52) (Operand.const (Value.int IntKind.i64 1)) 3, type := 3, pos := "ref.go:25", after := #[{ on := 4, ground := Ground.data }, { on := 2, ground := Ground.guard }], guard := some (2, true) }) (v := ?_) rfl (Or.inl ⟨by rfl, ?_⟩) HHeld.out ?_
                  rotate_left
                  · intro w hSw; clear hSw; go_simp; try with_reducible rfl
                  try simp only [pu, pn, s1, s2, s3]
                  refine wT (i := 6) (oi := { dst := some 54, op := Op.indexAddr 25 (Operand.tmp 51) (Operand.tmp 53), type := 0, pos := "ref.go:25", after := #[{ on := 3, ground := Ground.data }, { on := 5, ground := Ground.data }, { on := 2, ground := Ground.guard }], guard := some (2, true) }) (v := ?_) rfl (Or.inl ⟨by rfl, ?_⟩) HHeld.out ?_
                  rotate_left
                  · intro w hSw; clear hSw; go_simp; try with_reducible rfl
                  try simp only [pu, pn, s1, s2, s3]
                  refine wT (i := 7) (oi := { dst := some 55, op := Op.fieldAddr 50 (Operand.tmp 54) 1, type := 0, pos := "ref.go:25", after := #[{ on := 6, ground := Ground.data }, { on := 2, ground := Ground.guard }], guard := some (2, true) }) (v := ?_) rfl (Or.inl ⟨by rfl, ?_⟩) HHeld.out ?_
                  rotate_left
                  · intro w hSw; clear hSw; go_simp; try with_reducible rfl
                  try simp only [pu, pn, s1, s2, s3]
                  refine wT (i := 8) (oi := { dst := some 56, op := Op.load 3 (Operand.tmp 55), type := 3, pos := "ref.go:25", after := #[{ on := 7, ground := Ground.data }, { on := 2, ground := Ground.guard }], guard := some (2, true) }) (v := (.int .i64 p.sq : Value)) rfl (Or.inl ⟨by rfl, ?_⟩) HHeld.out ?_
                  · intro V hV; have hc0 := bel_later hV P1.out; clear hV; go_simp
                  try simp only [pu, pn, s1, s2, s3]
                  refine wT (i := 9) (oi := { dst := some 57, op := Op.move (Operand.tmp 0), type := 25, pos := "ref.go:25", after := #[{ on := 2, ground := Ground.guard }], guard := some (2, true) }) (v := ?_) rfl (Or.inl ⟨by rfl, ?_⟩) HHeld.out ?_
                  rotate_left
                  · intro w hSw; clear hSw; go_simp; try with_reducible rfl
                  try simp only [pu, pn, s1, s2, s3]
                  refine wT (i := 10) (oi := { dst := some 58, op := Op.move (Operand.tmp 3), type := 3, pos := "ref.go:25", after := #[{ on := 2, ground := Ground.guard }], guard := some (2, true) }) (v := ?_) rfl (Or.inl ⟨by rfl, ?_⟩) HHeld.out ?_
                  rotate_left
                  · intro w hSw; clear hSw; go_simp; try with_reducible rfl
                  try simp only [pu, pn, s1, s2, s3]
                  refine wT (i := 11) (oi := { dst := some 59, op := Op.indexAddr 25 (Operand.tmp 57) (Operand.tmp 58), type := 0, pos := "ref.go:25", after := #[{ on := 9, ground := Ground.data }, { on := 10, ground := Ground.data }, { on := 2, ground := Ground.guard }], guard := some (2, true) }) (v := ?_) rfl (Or.inl ⟨by rfl, ?_⟩) HHeld.out ?_
                  rotate_left
                  · intro w hSw; clear hSw; go_simp; try with_reducible rfl
                  try simp only [pu, pn, s1, s2, s3]
                  refine wT (i := 12) (oi := { dst := some 60, op := Op.fieldAddr 50 (Operand.tmp 59) 1, type := 0, pos := "ref.go:25", after := #[{ on := 11, ground := Ground.data }, { on := 2, ground := Ground.guard }], guard := some (2, true) }) (v := ?_) rfl (Or.inl ⟨by rfl, ?_⟩) HHeld.out ?_
                  rotate_left
                  · intro w hSw; clear hSw; go_simp; try with_reducible rfl
                  try simp only [pu, pn, s1, s2, s3]
                  refine wT (i := 13) (oi := { dst := some 61, op := Op.load 3 (Operand.tmp 60), type := 3, pos := "ref.go:25", after := #[{ on := 12, ground := Ground.data }, { on := 2, ground := Ground.guard }], guard := some (2, true) }) (v := (.int .i64 x.sq : Value)) rfl (Or.inl ⟨by rfl, ?_⟩) HHeld.out ?_
                  · intro V hV; have hc0 := bel_later hV G1.out; clear hV; go_simp
                  try simp only [pu, pn, s1, s2, s3]
                  refine wT (i := 14) (oi := { dst := some 62, op := Op.binOp BinOp.eql 3 (Operand.tmp 56) (Operand.tmp 61) 3, type := 4, pos := "ref.go:25", after := #[{ on := 8, ground := Ground.data }, { on := 13, ground := Ground.data }, { on := 2, ground := Ground.guard }], guard := some (2, true) }) (v := ?_) rfl (Or.inl ⟨by rfl, ?_⟩) HHeld.out ?_
                  rotate_left
                  · intro w hSw; clear hSw; go_simp; try with_reducible rfl
                  try simp only [pu, pn, s1, s2, s3]
                  refine wT (i := 15) (oi := { dst := some 63, op := Op.pick (Operand.tmp 50) (Operand.tmp 62) (Operand.const (Value.bool false)), type := 4, pos := "ref.go:25", after := #[{ on := 2, ground := Ground.data }, { on := 14, ground := Ground.data }], guard := none }) (v := ?_) rfl (Or.inl ⟨by rfl, ?_⟩) HHeld.out ?_
                  rotate_left
                  · intro w hSw; clear hSw; go_simp; try with_reducible rfl
                  try simp only [pu, pn, s1, s2, s3]
                  refine wpAnyH_done (by kernel_rfl) ?_ _
                  go_wp2
                  exact ⟨⟨j + 1 + 1, by omega, by simp, Lib.hid (next_ok HI.out (by rw [HRI.out]; simp [rcP, ea, es])), (bel_trans HB.out C3.out).drew⟩, by simp [intOf]; omega⟩
                · refine wp_region_held_drew (S := (fun V : World => Below wr.heap.size wr V)) (by kernel_rfl) ?_ (fun hHeld => ?_)
                  · exact C3.out.drew
                  have HHeld := Lib.hid hHeld; clear hHeld
                  refine wT (i := 0) (oi := { dst := some 48, op := Op.move (Operand.tmp 3), type := 3, pos := "ref.go:25", after := #[], guard := none }) (v := ?_) rfl (Or.inl ⟨by rfl, ?_⟩) HHeld.out ?_
                  rotate_left
                  · intro w hSw; clear hSw; go_simp; try with_reducible rfl
                  try simp only [pu, pn, s1, s2, s3]
                  refine wT (i := 1) (oi := { dst := some 49, op := Op.binOp BinOp.gtr 3 (Operand.tmp 48) (Operand.const (Value.int IntKind.i64 0)) 3, type := 4, pos := "ref.go:25", after := #[{ on := 0, ground := Ground.data }], guard := none }) (v := ?_) rfl (Or.inl ⟨by rfl, ?_⟩) HHeld.out ?_
                  rotate_left
                  · intro w hSw; clear hSw; go_simp; try with_reducible rfl
                  try simp only [pu, pn, s1, s2, s3]
                  refine wT (i := 2) (oi := { dst := some 50, op := Op.move (Operand.tmp 49), type := 4, pos := "ref.go:25", after := #[{ on := 1, ground := Ground.data }], guard := none }) (v := ?_) rfl (Or.inl ⟨by rfl, ?_⟩) HHeld.out ?_
                  rotate_left
                  · intro w hSw; clear hSw; go_simp; try with_reducible rfl
                  try simp only [pu, pn, s1, s2, s3]
                  refine wT (i := 3) (oi := { dst := some 51, op := Op.move (Operand.tmp 0), type := 25, pos := "ref.go:25", after := #[{ on := 2, ground := Ground.guard }], guard := some (2, true) }) (v := ?_) rfl (Or.inl ⟨by rfl, ?_⟩) HHeld.out ?_
                  rotate_left
                  · intro w hSw; clear hSw; go_simp; try with_reducible rfl
                  try simp only [pu, pn, s1, s2, s3]
                  refine wT (i := 4) (oi := { dst := some 52, op := Op.move (Operand.tmp 3), type := 3, pos := "ref.go:25", after := #[{ on := 2, ground := Ground.guard }], guard := some (2, true) }) (v := ?_) rfl (Or.inl ⟨by rfl, ?_⟩) HHeld.out ?_
                  rotate_left
                  · intro w hSw; clear hSw; go_simp; try with_reducible rfl
                  try simp only [pu, pn, s1, s2, s3]
                  refine wT (i := 5) (oi := { dst := some 53, op := Op.binOp BinOp.sub 3 (Operand.tmp 52) (Operand.const (Value.int IntKind.i64 1)) 3, type := 3, pos := "ref.go:25", after := #[{ on := 4, ground := Ground.data }, { on := 2, ground := Ground.guard }], guard := some (2, true) }) (v := ?_) rfl (Or.inl ⟨by rfl, ?_⟩) HHeld.out ?_
                  rotate_left
                  · intro w hSw; clear hSw; go_simp; try with_reducible rfl
                  try simp only [pu, pn, s1, s2, s3]
                  refine wT (i := 6) (oi := { dst := some 54, op := Op.indexAddr 25 (Operand.tmp 51) (Operand.tmp 53), type := 0, pos := "ref.go:25", after := #[{ on := 3, ground := Ground.data }, { on := 5, ground := Ground.data }, { on := 2, ground := Ground.guard }], guard := some (2, true) }) (v := ?_) rfl (Or.inl ⟨by rfl, ?_⟩) HHeld.out ?_
                  rotate_left
                  · intro w hSw; clear hSw; go_simp; try with_reducible rfl
                  try simp only [pu, pn, s1, s2, s3]
                  refine wT (i := 7) (oi := { dst := some 55, op := Op.fieldAddr 50 (Operand.tmp 54) 1, type := 0, pos := "ref.go:25", after := #[{ on := 6, ground := Ground.data }, { on := 2, ground := Ground.guard }], guard := some (2, true) }) (v := ?_) rfl (Or.inl ⟨by rfl, ?_⟩) HHeld.out ?_
                  rotate_left
                  · intro w hSw; clear hSw; go_simp; try with_reducible rfl
                  try simp only [pu, pn, s1, s2, s3]
                  refine wT (i := 8) (oi := { dst := some 56, op := Op.load 3 (Operand.tmp 55), type := 3, pos := "ref.go:25", after := #[{ on := 7, ground := Ground.data }, { on := 2, ground := Ground.guard }], guard := some (2, true) }) (v := (.int .i64 p.sq : Value)) rfl (Or.inl ⟨by rfl, ?_⟩) HHeld.out ?_
                  · intro V hV; have hc0 := bel_later hV P1.out; clear hV; go_simp
                  try simp only [pu, pn, s1, s2, s3]
                  refine wT (i := 9) (oi := { dst := some 57, op := Op.move (Operand.tmp 0), type := 25, pos := "ref.go:25", after := #[{ on := 2, ground := Ground.guard }], guard := some (2, true) }) (v := ?_) rfl (Or.inl ⟨by rfl, ?_⟩) HHeld.out ?_
                  rotate_left
                  · intro w hSw; clear hSw; go_simp; try with_reducible rfl
                  try simp only [pu, pn, s1, s2, s3]
                  refine wT (i := 10) (oi := { dst := some 58, op := Op.move (Operand.tmp 3), type := 3, pos := "ref.go:25", after := #[{ on := 2, ground := Ground.guard }], guard := some (2, true) }) (v := ?_) rfl (Or.inl ⟨by rfl, ?_⟩) HHeld.out ?_
                  rotate_left
                  · intro w hSw; clear hSw; go_simp; try with_reducible rfl
                  try simp only [pu, pn, s1, s2, s3]
                  refine wT (i := 11) (oi := { dst := some 59, op := Op.indexAddr 25 (Operand.tmp 57) (Operand.tmp 58), type := 0, pos := "ref.go:25", after := #[{ on := 9, ground := Ground.data }, { on := 10, ground := Ground.data }, { on := 2, ground := Ground.guard }], guard := some (2, true) }) (v := ?_) rfl (Or.inl ⟨by rfl, ?_⟩) HHeld.out ?_
                  rotate_left
                  · intro w hSw; clear hSw; go_simp; try with_reducible rfl
                  try simp only [pu, pn, s1, s2, s3]
                  refine wT (i := 12) (oi := { dst := some 60, op := Op.fieldAddr 50 (Operand.tmp 59) 1, type := 0, pos := "ref.go:25", after := #[{ on := 11, ground := Ground.data }, { on := 2, ground := Ground.guard }], guard := some (2, true) }) (v := ?_) rfl (Or.inl ⟨by rfl, ?_⟩) HHeld.out ?_
                  rotate_left
                  · intro w hSw; clear hSw; go_simp; try with_reducible rfl
                  try simp only [pu, pn, s1, s2, s3]
                  refine wT (i := 13) (oi := { dst := some 61, op := Op.load 3 (Operand.tmp 60), type := 3, pos := "ref.go:25", after := #[{ on := 12, ground := Ground.data }, { on := 2, ground := Ground.guard }], guard := some (2, true) }) (v := (.int .i64 x.sq : Value)) rfl (Or.inl ⟨by rfl, ?_⟩) HHeld.out ?_
                  · intro V hV; have hc0 := bel_later hV G1.out; clear hV; go_simp
                  try simp only [pu, pn, s1, s2, s3]
                  refine wT (i := 14) (oi := { dst := some 62, op := Op.binOp BinOp.eql 3 (Operand.tmp 56) (Operand.tmp 61) 3, type := 4, pos := "ref.go:25", after := #[{ on := 8, ground := Ground.data }, { on := 13, ground := Ground.data }, { on := 2, ground := Ground.guard }], guard := some (2, true) }) (v := ?_) rfl (Or.inl ⟨by rfl, ?_⟩) HHeld.out ?_
                  rotate_left
                  · intro w hSw; clear hSw; go_simp; try with_reducible rfl
                  try simp only [pu, pn, s1, s2, s3]
                  refine wT (i := 15) (oi := { dst := some 63, op := Op.pick (Operand.tmp 50) (Operand.tmp 62) (Operand.const (Value.bool false)), type := 4, pos := "ref.go:25", after := #[{ on := 2, ground := Ground.data }, { on := 14, ground := Ground.data }], guard := none }) (v := ?_) rfl (Or.inl ⟨by rfl, ?_⟩) HHeld.out ?_
                  rotate_left
                  · intro w hSw; clear hSw; go_simp; try with_reducible rfl
                  try simp only [pu, pn, s1, s2, s3]
                  refine wpAnyH_done (by kernel_rfl) ?_ _
                  go_wp2_with fail
                  refine at_code (fun W3 hW3 => ?_)
                  have HW3 := Lib.hid (show Below wr.heap.size wr W3 by rw [hW3]; exact C3.out.drew)
                  clear hW3
                  obtain ⟨m0, m1, mk, hm⟩ : ∃ m0 m1 mk, meetF (spF p) (spT p) (spF x) (spT x) = (m0, m1, mk) := ⟨_, _, _, rfl⟩
                  have AM := Lib.hid (rmeet_any (spF p) (spT p) (spF x) (spT x))
                  rw [hm] at AM
                  have HM := Lib.hid hm
                  clear hm
                  cases mk
                  · refine wp_region_held_drew (S := (fun V : World => Below wr.heap.size wr V)) (by kernel_rfl) ?_ (fun hHeld => ?_)
                    · exact HW3.out.drew
                    have HHeld := Lib.hid hHeld; clear hHeld
                    refine wT (i := 0) (oi := { dst := some 65, op := Op.move (Operand.tmp 0), type := 25, pos := "ref.go:26", after := #[], guard := none }) (v := ?_) rfl (Or.inl ⟨by rfl, ?_⟩) HHeld.out ?_
                    rotate_left
                    · intro w hSw; clear hSw; go_simp; try with_reducible rfl
                    try simp only [pu, pn, s1, s2, s3]
                    refine wT (i := 1) (oi := { dst := some 66, op := Op.move (Operand.tmp 3), type := 3, pos := "ref.go:26", after := #[], guard := none }) (v := ?_) rfl (Or.inl ⟨by rfl, ?_⟩) HHeld.out ?_
                    rotate_left
                    · intro w hSw; clear hSw; go_simp; try with_reducible rfl
                    try simp only [pu, pn, s1, s2, s3]
                    refine wT (i := 2) (oi := { dst := some 67, op := Op.binOp BinOp.sub 3 (Operand.tmp 66) (Operand.const (Value.int IntKind.i64 1)) 3, type := 3, pos := "ref.go:26", after := #[{ on := 1, ground := Ground.data }], guard := none }) (v := ?_) rfl (Or.inl ⟨by rfl, ?_⟩) HHeld.out ?_
                    rotate_left
                    · intro w hSw; clear hSw; go_simp; try with_reducible rfl
                    try simp only [pu, pn, s1, s2, s3]
                    refine wT (i := 3) (oi := { dst := some 68, op := Op.indexAddr 25 (Operand.tmp 65) (Operand.tmp 67), type := 0, pos := "ref.go:26", after := #[{ on := 0, ground := Ground.data }, { on := 2, ground := Ground.data }], guard := none }) (v := ?_) rfl (Or.inl ⟨by rfl, ?_⟩) HHeld.out ?_
                    rotate_left
                    · intro w hSw; clear hSw; go_simp; try with_reducible rfl
                    try simp only [pu, pn, s1, s2, s3]
                    refine wT (i := 4) (oi := { dst := some 69, op := Op.load 50 (Operand.tmp 68), type := 50, pos := "ref.go:26", after := #[{ on := 3, ground := Ground.data }], guard := none }) (v := (.agg #[.int .u8 p.kd, .int .i64 p.sq, .string p.ky, .string p.to, .string p.vl, .int .u64 p.dl] : Value)) rfl (Or.inl ⟨by rfl, ?_⟩) HHeld.out ?_
                    · intro V hV; have hc0 := bel_later hV P0.out; have hc1 := bel_later hV P1.out; have hc2 := bel_later hV P2.out; have hc3 := bel_later hV P3.out; have hc4 := bel_later hV P4.out; have hc5 := bel_later hV P5.out; clear hV; go_simp
                    try simp only [pu, pn, s1, s2, s3]
                    refine wT (i := 6) (oi := { dst := some 71, op := Op.move (Operand.tmp 0), type := 25, pos := "ref.go:26", after := #[], guard := none }) (v := ?_) rfl (Or.inl ⟨by rfl, ?_⟩) HHeld.out ?_
                    rotate_left
                    · intro w hSw; clear hSw; go_simp; try with_reducible rfl
                    try simp only [pu, pn, s1, s2, s3]
                    refine wT (i := 7) (oi := { dst := some 72, op := Op.move (Operand.tmp 3), type := 3, pos := "ref.go:26", after := #[], guard := none }) (v := ?_) rfl (Or.inl ⟨by rfl, ?_⟩) HHeld.out ?_
                    rotate_left
                    · intro w hSw; clear hSw; go_simp; try with_reducible rfl
                    try simp only [pu, pn, s1, s2, s3]
                    refine wT (i := 8) (oi := { dst := some 73, op := Op.indexAddr 25 (Operand.tmp 71) (Operand.tmp 72), type := 0, pos := "ref.go:26", after := #[{ on := 6, ground := Ground.data }, { on := 7, ground := Ground.data }], guard := none }) (v := ?_) rfl (Or.inl ⟨by rfl, ?_⟩) HHeld.out ?_
                    rotate_left
                    · intro w hSw; clear hSw; go_simp; try with_reducible rfl
                    try simp only [pu, pn, s1, s2, s3]
                    refine wT (i := 9) (oi := { dst := some 74, op := Op.load 50 (Operand.tmp 73), type := 50, pos := "ref.go:26", after := #[{ on := 8, ground := Ground.data }], guard := none }) (v := (.agg #[.int .u8 x.kd, .int .i64 x.sq, .string x.ky, .string x.to, .string x.vl, .int .u64 x.dl] : Value)) rfl (Or.inl ⟨by rfl, ?_⟩) HHeld.out ?_
                    · intro V hV; have hc0 := bel_later hV G0.out; have hc1 := bel_later hV G1.out; have hc2 := bel_later hV G2.out; have hc3 := bel_later hV G3.out; have hc4 := bel_later hV G4.out; have hc5 := bel_later hV G5.out; clear hV; go_simp
                    try simp only [pu, pn, s1, s2, s3]
                    refine wpAnyH_ready (rs := [5, 15]) (by kernel_rfl) (by simp) ?_
                    refine AllReadyH.cons (o := { dst := some 70, op := Op.call { callee := Callee.value (Operand.func 40), args := #[Operand.tmp 69], argTypes := #[50] }, type := 30, pos := "ref.go:26", after := #[{ on := 4, ground := Ground.data }], guard := none }) rfl (fun K hK => ?_) (AllReadyH.cons (o := { dst := some 4, op := Op.alloc 30, type := 0, pos := "ref.go:26", after := #[], guard := none }) rfl (fun K hK => ?_) AllReadyH.nil)
                    · go_simp
                      go_at_call 40; (refine (rspan_any p HOP.out _).mono ?_); rintro e v5 ⟨rfl, cc⟩; have C5 := Lib.hid (bel_trans HHeld.out cc); clear cc
                      refine hK.out _ _ ?_ (fun hHeld => ?_)
                      · exact C5.out
                      clear HHeld; have HHeld := Lib.hid hHeld; clear hHeld
                      clear hK K
                      try simp only [pu, pn, s1, s2, s3]
                      refine wpAnyH_ready (rs := [10, 15]) (by kernel_rfl) (by simp) ?_
                      refine AllReadyH.cons (o := { dst := some 75, op := Op.call { callee := Callee.value (Operand.func 40), args := #[Operand.tmp 74], argTypes := #[50] }, type := 30, pos := "ref.go:26", after := #[{ on := 9, ground := Ground.data }, { on := 5, ground := Ground.chain }], guard := none }) rfl (fun K hK => ?_) (AllReadyH.cons (o := { dst := some 4, op := Op.alloc 30, type := 0, pos := "ref.go:26", after := #[], guard := none }) rfl (fun K hK => ?_) AllReadyH.nil)
                      · go_simp
                        go_at_call 40; (refine (rspan_any x HOX.out _).mono ?_); rintro e v10 ⟨rfl, cc⟩; have C10 := Lib.hid (bel_trans HHeld.out cc); clear cc
                        refine hK.out _ _ ?_ (fun hHeld => ?_)
                        · exact C10.out
                        clear HHeld; have HHeld := Lib.hid hHeld; clear hHeld
                        clear hK K
                        try simp only [pu, pn, s1, s2, s3]
                        refine wpAnyH_ready (rs := [11, 15]) (by kernel_rfl) (by simp) ?_
                        refine AllReadyH.cons (o := { dst := some 76, op := Op.call { callee := Callee.value (Operand.func 42), args := #[Operand.tmp 70, Operand.tmp 75], argTypes := #[30, 30] }, type := 76, pos := "ref.go:26", after := #[{ on := 5, ground := Ground.data }, { on := 10, ground := Ground.data }, { on := 10, ground := Ground.chain }], guard := none }) rfl (fun K hK => ?_) (AllReadyH.cons (o := { dst := some 4, op := Op.alloc 30, type := 0, pos := "ref.go:26", after := #[], guard := none }) rfl (fun K hK => ?_) AllReadyH.nil)
                        · go_simp
                          go_at_call 42; (refine (AM.out _).mono ?_); rintro e v11 ⟨rfl, cc⟩; have C11 := Lib.hid (bel_trans HHeld.out cc); clear cc
                          refine hK.out _ _ ?_ (fun hHeld => ?_)
                          · exact C11.out
                          clear HHeld; have HHeld := Lib.hid hHeld; clear hHeld
                          clear hK K
                          try simp only [pu, pn, s1, s2, s3]
                          refine wT (i := 12) (oi := { dst := some 64, op := Op.move (Operand.tmp 76), type := 76, pos := "ref.go:26", after := #[{ on := 11, ground := Ground.data }], guard := none }) (v := ?_) rfl (Or.inl ⟨by rfl, ?_⟩) HHeld.out ?_
                          rotate_left
                          · intro w hSw; clear hSw; go_simp; try with_reducible rfl
                          try simp only [pu, pn, s1, s2, s3]
                          refine wT (i := 13) (oi := { dst := some 77, op := Op.extract (Operand.tmp 64) 0, type := 30, pos := "ref.go:26", after := #[{ on := 12, ground := Ground.data }], guard := none }) (v := ?_) rfl (Or.inl ⟨by rfl, ?_⟩) HHeld.out ?_
                          rotate_left
                          · intro w hSw; clear hSw; go_simp; try with_reducible rfl
                          try simp only [pu, pn, s1, s2, s3]
                          refine wT (i := 14) (oi := { dst := some 78, op := Op.extract (Operand.tmp 64) 1, type := 4, pos := "ref.go:26", after := #[{ on := 12, ground := Ground.data }, { on := 16, ground := Ground.gcOnly Departure.lateStores }], guard := none }) (v := ?_) rfl (Or.inl ⟨by rfl, ?_⟩) HHeld.out ?_
                          rotate_left
                          · intro w hSw; clear hSw; go_simp; try with_reducible rfl
                          try simp only [pu, pn, s1, s2, s3]
                          refine wpAnyH_ready (rs := [15]) (by kernel_rfl) (by simp) ?_
                          refine AllReadyH.cons (o := { dst := some 4, op := Op.alloc 30, type := 0, pos := "ref.go:26", after := #[], guard := none }) rfl (fun K hK => ?_) AllReadyH.nil
                          have ZZ := Lib.hid (heap_alloc_new v11 (rgc emptyS emptyS))
                          have LE := Lib.hid (HHeld.out.size)
                          have CA := Lib.hid (bel_alloc HHeld.out (rgc emptyS emptyS))
                          go_simp
                          refine hK.out _ _ ?_ (fun hHeld => ?_)
                          · exact CA.out
                          clear HHeld; have HHeld := Lib.hid hHeld; clear hHeld
                          clear hK K
                          try simp only [pu, pn, s1, s2, s3]
                          refine wpAnyH_ready (rs := [16]) (by kernel_rfl) (by simp) ?_
                          refine AllReadyH.cons (o := { dst := none, op := Op.store 30 (Operand.tmp 4) (Operand.tmp 77), type := 0, pos := "ref.go:26", after := #[{ on := 15, ground := Ground.data }, { on := 13, ground := Ground.data }, { on := 11, ground := Ground.chain }, { on := 0, ground := Ground.phase }, { on := 1, ground := Ground.phase }, { on := 2, ground := Ground.phase }, { on := 3, ground := Ground.phase }, { on := 4, ground := Ground.phase }, { on := 5, ground := Ground.phase }, { on := 6, ground := Ground.phase }, { on := 7, ground := Ground.phase }, { on := 8, ground := Ground.phase }, { on := 9, ground := Ground.phase }, { on := 10, ground := Ground.phase }, { on := 11, ground := Ground.phase }, { on := 12, ground := Ground.phase }, { on := 13, ground := Ground.phase }, { on := 14, ground := Ground.textOnly Departure.lateStores }, { on := 15, ground := Ground.phase }], guard := none }) rfl (fun K hK => ?_) AllReadyH.nil
                          obtain ⟨f0, f1, f2, f3⟩ := has_two ZZ.out
                          have CS := Lib.hid HHeld.out
                          go_simp
                          refine hK.out _ _ ?_ (fun hHeld => ?_)
                          · first | exact bel_alloc C11.out _ | exact Below.setCell (Below.setCell CS.out (p := ⟨_, _, none⟩) LE.out _) (p := ⟨_, _, none⟩) LE.out _
                          clear HHeld; have HHeld := Lib.hid hHeld; clear hHeld
                          clear hK K
                          try simp only [pu, pn, s1, s2, s3]
                          refine wT (i := 17) (oi := { dst := some 5, op := Op.assign (Operand.tmp 78), type := 4, pos := "ref.go:26", after := #[{ on := 14, ground := Ground.data }, { on := 16, ground := Ground.chain }, { on := 0, ground := Ground.phase }, { on := 1, ground := Ground.phase }, { on := 2, ground := Ground.phase }, { on := 3, ground := Ground.phase }, { on := 4, ground := Ground.phase }, { on := 5, ground := Ground.phase }, { on := 6, ground := Ground.phase }, { on := 7, ground := Ground.phase }, { on := 8, ground := Ground.phase }, { on := 9, ground := Ground.phase }, { on := 10, ground := Ground.phase }, { on := 11, ground := Ground.phase }, { on := 12, ground := Ground.phase }, { on := 13, ground := Ground.phase }, { on := 14, ground := Ground.phase }, { on := 15, ground := Ground.phase }, { on := 16, ground := Ground.phase }], guard := none }) (v := ?_) rfl (Or.inl ⟨by rfl, ?_⟩) HHeld.out ?_
                          rotate_left
                          · intro w hSw; clear hSw; go_simp; try with_reducible rfl
                          try simp only [pu, pn, s1, s2, s3]
                          refine wpAnyH_done (by kernel_rfl) ?_ _
                          have CZ := Lib.hid HHeld.out
                          go_wp2
                          exact ⟨⟨j + 1 + 1, by omega, by simp, Lib.hid (next_ok HI.out (by rw [HRI.out]; simp [rcP, ea, es, HM.out])), bel_trans HB.out CZ.out⟩, by simp [intOf]; omega⟩
                        · have ZZ := Lib.hid (heap_alloc_new v10 (rgc emptyS emptyS))
                          have LE := Lib.hid (HHeld.out.size)
                          have CA := Lib.hid (bel_alloc HHeld.out (rgc emptyS emptyS))
                          go_simp
                          refine hK.out _ _ ?_ (fun hHeld => ?_)
                          · exact CA.out
                          clear HHeld; have HHeld := Lib.hid hHeld; clear hHeld
                          clear hK K
                          try simp only [pu, pn, s1, s2, s3]
                          refine wpAnyH_ready (rs := [11]) (by kernel_rfl) (by simp) ?_
                          refine AllReadyH.cons (o := { dst := some 76, op := Op.call { callee := Callee.value (Operand.func 42), args := #[Operand.tmp 70, Operand.tmp 75], argTypes := #[30, 30] }, type := 76, pos := "ref.go:26", after := #[{ on := 5, ground := Ground.data }, { on := 10, ground := Ground.data }, { on := 10, ground := Ground.chain }], guard := none }) rfl (fun K hK => ?_) AllReadyH.nil
                          go_simp
                          go_at_call 42; (refine (AM.out _).mono ?_); rintro e v11 ⟨rfl, cc⟩; have C11 := Lib.hid (bel_trans HHeld.out cc); replace ZZ := Lib.hid (keep_bel cc ZZ.out); clear cc
                          refine hK.out _ _ ?_ (fun hHeld => ?_)
                          · exact C11.out
                          clear HHeld; have HHeld := Lib.hid hHeld; clear hHeld
                          clear hK K
                          try simp only [pu, pn, s1, s2, s3]
                          refine wT (i := 12) (oi := { dst := some 64, op := Op.move (Operand.tmp 76), type := 76, pos := "ref.go:26", after := #[{ on := 11, ground := Ground.data }], guard := none }) (v := ?_) rfl (Or.inl ⟨by rfl, ?_⟩) HHeld.out ?_
                          rotate_left
                          · intro w hSw; clear hSw; go_simp; try with_reducible rfl
                          try simp only [pu, pn, s1, s2, s3]
                          refine wT (i := 13) (oi := { dst := some 77, op := Op.extract (Operand.tmp 64) 0, type := 30, pos := "ref.go:26", after := #[{ on := 12, ground := Ground.data }], guard := none }) (v := ?_) rfl (Or.inl ⟨by rfl, ?_⟩) HHeld.out ?_
                          rotate_left
                          · intro w hSw; clear hSw; go_simp; try with_reducible rfl
                          try simp only [pu, pn, s1, s2, s3]
                          refine wT (i := 14) (oi := { dst := some 78, op := Op.extract (Operand.tmp 64) 1, type := 4, pos := "ref.go:26", after := #[{ on := 12, ground := Ground.data }, { on := 16, ground := Ground.gcOnly Departure.lateStores }], guard := none }) (v := ?_) rfl (Or.inl ⟨by rfl, ?_⟩) HHeld.out ?_
                          rotate_left
                          · intro w hSw; clear hSw; go_simp; try with_reducible rfl
                          try simp only [pu, pn, s1, s2, s3]
                          refine wpAnyH_ready (rs := [16]) (by kernel_rfl) (by simp) ?_
                          refine AllReadyH.cons (o := { dst := none, op := Op.store 30 (Operand.tmp 4) (Operand.tmp 77), type := 0, pos := "ref.go:26", after := #[{ on := 15, ground := Ground.data }, { on := 13, ground := Ground.data }, { on := 11, ground := Ground.chain }, { on := 0, ground := Ground.phase }, { on := 1, ground := Ground.phase }, { on := 2, ground := Ground.phase }, { on := 3, ground := Ground.phase }, { on := 4, ground := Ground.phase }, { on := 5, ground := Ground.phase }, { on := 6, ground := Ground.phase }, { on := 7, ground := Ground.phase }, { on := 8, ground := Ground.phase }, { on := 9, ground := Ground.phase }, { on := 10, ground := Ground.phase }, { on := 11, ground := Ground.phase }, { on := 12, ground := Ground.phase }, { on := 13, ground := Ground.phase }, { on := 14, ground := Ground.textOnly Departure.lateStores }, { on := 15, ground := Ground.phase }], guard := none }) rfl (fun K hK => ?_) AllReadyH.nil
                          obtain ⟨f0, f1, f2, f3⟩ := has_two ZZ.out
                          have CS := Lib.hid HHeld.out
                          go_simp
                          refine hK.out _ _ ?_ (fun hHeld => ?_)
                          · first | exact bel_alloc C11.out _ | exact Below.setCell (Below.setCell CS.out (p := ⟨_, _, none⟩) LE.out _) (p := ⟨_, _, none⟩) LE.out _
                          clear HHeld; have HHeld := Lib.hid hHeld; clear hHeld
                          clear hK K
                          try simp only [pu, pn, s1, s2, s3]
                          refine wT (i := 17) (oi := { dst := some 5, op := Op.assign (Operand.tmp 78), type := 4, pos := "ref.go:26", after := #[{ on := 14, ground := Ground.data }, { on := 16, ground := Ground.chain }, { on := 0, ground := Ground.phase }, { on := 1, ground := Ground.phase }, { on := 2, ground := Ground.phase }, { on := 3, ground := Ground.phase }, { on := 4, ground := Ground.phase }, { on := 5, ground := Ground.phase }, { on := 6, ground := Ground.phase }, { on := 7, ground := Ground.phase }, { on := 8, ground := Ground.phase }, { on := 9, ground := Ground.phase }, { on := 10, ground := Ground.phase }, { on := 11, ground := Ground.phase }, { on := 12, ground := Ground.phase }, { on := 13, ground := Ground.phase }, { on := 14, ground := Ground.phase }, { on := 15, ground := Ground.phase }, { on := 16, ground := Ground.phase }], guard := none }) (v := ?_) rfl (Or.inl ⟨by rfl, ?_⟩) HHeld.out ?_
                          rotate_left
                          · intro w hSw; clear hSw; go_simp; try with_reducible rfl
                          try simp only [pu, pn, s1, s2, s3]
                          refine wpAnyH_done (by kernel_rfl) ?_ _
                          have CZ := Lib.hid HHeld.out
                          go_wp2
                          exact ⟨⟨j + 1 + 1, by omega, by simp, Lib.hid (next_ok HI.out (by rw [HRI.out]; simp [rcP, ea, es, HM.out])), bel_trans HB.out CZ.out⟩, by simp [intOf]; omega⟩
                      · have ZZ := Lib.hid (heap_alloc_new v5 (rgc emptyS emptyS))
                        have LE := Lib.hid (HHeld.out.size)
                        have CA := Lib.hid (bel_alloc HHeld.out (rgc emptyS emptyS))
                        go_simp
                        refine hK.out _ _ ?_ (fun hHeld => ?_)
                        · exact CA.out
                        clear HHeld; have HHeld := Lib.hid hHeld; clear hHeld
                        clear hK K
                        try simp only [pu, pn, s1, s2, s3]
                        refine wpAnyH_ready (rs := [10]) (by kernel_rfl) (by simp) ?_
                        refine AllReadyH.cons (o := { dst := some 75, op := Op.call { callee := Callee.value (Operand.func 40), args := #[Operand.tmp 74], argTypes := #[50] }, type := 30, pos := "ref.go:26", after := #[{ on := 9, ground := Ground.data }, { on := 5, ground := Ground.chain }], guard := none }) rfl (fun K hK => ?_) AllReadyH.nil
                        go_simp
                        go_at_call 40; (refine (rspan_any x HOX.out _).mono ?_); rintro e v10 ⟨rfl, cc⟩; have C10 := Lib.hid (bel_trans HHeld.out cc); replace ZZ := Lib.hid (keep_bel cc ZZ.out); clear cc
                        refine hK.out _ _ ?_ (fun hHeld => ?_)
                        · exact C10.out
                        clear HHeld; have HHeld := Lib.hid hHeld; clear hHeld
                        clear hK K
                        try simp only [pu, pn, s1, s2, s3]
                        refine wpAnyH_ready (rs := [11]) (by kernel_rfl) (by simp) ?_
                        refine AllReadyH.cons (o := { dst := some 76, op := Op.call { callee := Callee.value (Operand.func 42), args := #[Operand.tmp 70, Operand.tmp 75], argTypes := #[30, 30] }, type := 76, pos := "ref.go:26", after := #[{ on := 5, ground := Ground.data }, { on := 10, ground := Ground.data }, { on := 10, ground := Ground.chain }], guard := none }) rfl (fun K hK => ?_) AllReadyH.nil
                        go_simp
                        go_at_call 42; (refine (AM.out _).mono ?_); rintro e v11 ⟨rfl, cc⟩; have C11 := Lib.hid (bel_trans HHeld.out cc); replace ZZ := Lib.hid (keep_bel cc ZZ.out); clear cc
                        refine hK.out _ _ ?_ (fun hHeld => ?_)
                        · exact C11.out
                        clear HHeld; have HHeld := Lib.hid hHeld; clear hHeld
                        clear hK K
                        try simp only [pu, pn, s1, s2, s3]
                        refine wT (i := 12) (oi := { dst := some 64, op := Op.move (Operand.tmp 76), type := 76, pos := "ref.go:26", after := #[{ on := 11, ground := Ground.data }], guard := none }) (v := ?_) rfl (Or.inl ⟨by rfl, ?_⟩) HHeld.out ?_
                        rotate_left
                        · intro w hSw; clear hSw; go_simp; try with_reducible rfl
                        try simp only [pu, pn, s1, s2, s3]
                        refine wT (i := 13) (oi := { dst := some 77, op := Op.extract (Operand.tmp 64) 0, type := 30, pos := "ref.go:26", after := #[{ on := 12, ground := Ground.data }], guard := none }) (v := ?_) rfl (Or.inl ⟨by rfl, ?_⟩) HHeld.out ?_
                        rotate_left
                        · intro w hSw; clear hSw; go_simp; try with_reducible rfl
                        try simp only [pu, pn, s1, s2, s3]
                        refine wT (i := 14) (oi := { dst := some 78, op := Op.extract (Operand.tmp 64) 1, type := 4, pos := "ref.go:26", after := #[{ on := 12, ground := Ground.data }, { on := 16, ground := Ground.gcOnly Departure.lateStores }], guard := none }) (v := ?_) rfl (Or.inl ⟨by rfl, ?_⟩) HHeld.out ?_
                        rotate_left
                        · intro w hSw; clear hSw; go_simp; try with_reducible rfl
                        try simp only [pu, pn, s1, s2, s3]
                        refine wpAnyH_ready (rs := [16]) (by kernel_rfl) (by simp) ?_
                        refine AllReadyH.cons (o := { dst := none, op := Op.store 30 (Operand.tmp 4) (Operand.tmp 77), type := 0, pos := "ref.go:26", after := #[{ on := 15, ground := Ground.data }, { on := 13, ground := Ground.data }, { on := 11, ground := Ground.chain }, { on := 0, ground := Ground.phase }, { on := 1, ground := Ground.phase }, { on := 2, ground := Ground.phase }, { on := 3, ground := Ground.phase }, { on := 4, ground := Ground.phase }, { on := 5, ground := Ground.phase }, { on := 6, ground := Ground.phase }, { on := 7, ground := Ground.phase }, { on := 8, ground := Ground.phase }, { on := 9, ground := Ground.phase }, { on := 10, ground := Ground.phase }, { on := 11, ground := Ground.phase }, { on := 12, ground := Ground.phase }, { on := 13, ground := Ground.phase }, { on := 14, ground := Ground.textOnly Departure.lateStores }, { on := 15, ground := Ground.phase }], guard := none }) rfl (fun K hK => ?_) AllReadyH.nil
                        obtain ⟨f0, f1, f2, f3⟩ := has_two ZZ.out
                        have CS := Lib.hid HHeld.out
                        go_simp
                        refine hK.out _ _ ?_ (fun hHeld => ?_)
                        · first | exact bel_alloc C11.out _ | exact Below.setCell (Below.setCell CS.out (p := ⟨_, _, none⟩) LE.out _) (p := ⟨_, _, none⟩) LE.out _
                        clear HHeld; have HHeld := Lib.hid hHeld; clear hHeld
                        clear hK K
                        try simp only [pu, pn, s1, s2, s3]
                        refine wT (i := 17) (oi := { dst := some 5, op := Op.assign (Operand.tmp 78), type := 4, pos := "ref.go:26", after := #[{ on := 14, ground := Ground.data }, { on := 16, ground := Ground.chain }, { on := 0, ground := Ground.phase }, { on := 1, ground := Ground.phase }, { on := 2, ground := Ground.phase }, { on := 3, ground := Ground.phase }, { on := 4, ground := Ground.phase }, { on := 5, ground := Ground.phase }, { on := 6, ground := Ground.phase }, { on := 7, ground := Ground.phase }, { on := 8, ground := Ground.phase }, { on := 9, ground := Ground.phase }, { on := 10, ground := Ground.phase }, { on := 11, ground := Ground.phase }, { on := 12, ground := Ground.phase }, { on := 13, ground := Ground.phase }, { on := 14, ground := Ground.phase }, { on := 15, ground := Ground.phase }, { on := 16, ground := Ground.phase }], guard := none }) (v := ?_) rfl (Or.inl ⟨by rfl, ?_⟩) HHeld.out ?_
                        rotate_left
                        · intro w hSw; clear hSw; go_simp; try with_reducible rfl
                        try simp only [pu, pn, s1, s2, s3]
                        refine wpAnyH_done (by kernel_rfl) ?_ _
                        have CZ := Lib.hid HHeld.out
                        go_wp2
                        exact ⟨⟨j + 1 + 1, by omega, by simp, Lib.hid (next_ok HI.out (by rw [HRI.out]; simp [rcP, ea, es, HM.out])), bel_trans HB.out CZ.out⟩, by simp [intOf]; omega⟩
                    · have ZZ := Lib.hid (show (W3.alloc (rgc emptyS emptyS)).drew.heap[W3.heap.size]? = some (rgc emptyS emptyS) from keep_bel ((Below.refl _ _).drew) (heap_alloc_new _ _))
                      have LE := Lib.hid (HHeld.out.size)
                      have CA := Lib.hid (bel_alloc HHeld.out (rgc emptyS emptyS))
                      go_simp
                      refine hK.out _ _ ?_ (fun hHeld => ?_)
                      · exact CA.out
                      clear HHeld; have HHeld := Lib.hid hHeld; clear hHeld
                      clear hK K
                      try simp only [pu, pn, s1, s2, s3]
                      refine wpAnyH_ready (rs := [5]) (by kernel_rfl) (by simp) ?_
                      refine AllReadyH.cons (o := { dst := some 70, op := Op.call { callee := Callee.value (Operand.func 40), args := #[Operand.tmp 69], argTypes := #[50] }, type := 30, pos := "ref.go:26", after := #[{ on := 4, ground := Ground.data }], guard := none }) rfl (fun K hK => ?_) AllReadyH.nil
                      go_simp
                      go_at_call 40; (refine (rspan_any p HOP.out _).mono ?_); rintro e v5 ⟨rfl, cc⟩; have C5 := Lib.hid (bel_trans HHeld.out cc); replace ZZ := Lib.hid (keep_bel cc ZZ.out); clear cc
                      refine hK.out _ _ ?_ (fun hHeld => ?_)
                      · exact C5.out
                      clear HHeld; have HHeld := Lib.hid hHeld; clear hHeld
                      clear hK K
                      try simp only [pu, pn, s1, s2, s3]
                      refine wpAnyH_ready (rs := [10]) (by kernel_rfl) (by simp) ?_
                      refine AllReadyH.cons (o := { dst := some 75, op := Op.call { callee := Callee.value (Operand.func 40), args := #[Operand.tmp 74], argTypes := #[50] }, type := 30, pos := "ref.go:26", after := #[{ on := 9, ground := Ground.data }, { on := 5, ground := Ground.chain }], guard := none }) rfl (fun K hK => ?_) AllReadyH.nil
                      go_simp
                      go_at_call 40; (refine (rspan_any x HOX.out _).mono ?_); rintro e v10 ⟨rfl, cc⟩; have C10 := Lib.hid (bel_trans HHeld.out cc); replace ZZ := Lib.hid (keep_bel cc ZZ.out); clear cc
                      refine hK.out _ _ ?_ (fun hHeld => ?_)
                      · exact C10.out
                      clear HHeld; have HHeld := Lib.hid hHeld; clear hHeld
                      clear hK K
                      try simp only [pu, pn, s1, s2, s3]
                      refine wpAnyH_ready (rs := [11]) (by kernel_rfl) (by simp) ?_
                      refine AllReadyH.cons (o := { dst := some 76, op := Op.call { callee := Callee.value (Operand.func 42), args := #[Operand.tmp 70, Operand.tmp 75], argTypes := #[30, 30] }, type := 76, pos := "ref.go:26", after := #[{ on := 5, ground := Ground.data }, { on := 10, ground := Ground.data }, { on := 10, ground := Ground.chain }], guard := none }) rfl (fun K hK => ?_) AllReadyH.nil
                      go_simp
                      go_at_call 42; (refine (AM.out _).mono ?_); rintro e v11 ⟨rfl, cc⟩; have C11 := Lib.hid (bel_trans HHeld.out cc); replace ZZ := Lib.hid (keep_bel cc ZZ.out); clear cc
                      refine hK.out _ _ ?_ (fun hHeld => ?_)
                      · exact C11.out
                      clear HHeld; have HHeld := Lib.hid hHeld; clear hHeld
                      clear hK K
                      try simp only [pu, pn, s1, s2, s3]
                      refine wT (i := 12) (oi := { dst := some 64, op := Op.move (Operand.tmp 76), type := 76, pos := "ref.go:26", after := #[{ on := 11, ground := Ground.data }], guard := none }) (v := ?_) rfl (Or.inl ⟨by rfl, ?_⟩) HHeld.out ?_
                      rotate_left
                      · intro w hSw; clear hSw; go_simp; try with_reducible rfl
                      try simp only [pu, pn, s1, s2, s3]
                      refine wT (i := 13) (oi := { dst := some 77, op := Op.extract (Operand.tmp 64) 0, type := 30, pos := "ref.go:26", after := #[{ on := 12, ground := Ground.data }], guard := none }) (v := ?_) rfl (Or.inl ⟨by rfl, ?_⟩) HHeld.out ?_
                      rotate_left
                      · intro w hSw; clear hSw; go_simp; try with_reducible rfl
                      try simp only [pu, pn, s1, s2, s3]
                      refine wT (i := 14) (oi := { dst := some 78, op := Op.extract (Operand.tmp 64) 1, type := 4, pos := "ref.go:26", after := #[{ on := 12, ground := Ground.data }, { on := 16, ground := Ground.gcOnly Departure.lateStores }], guard := none }) (v := ?_) rfl (Or.inl ⟨by rfl, ?_⟩) HHeld.out ?_
                      rotate_left
                      · intro w hSw; clear hSw; go_simp; try with_reducible rfl
                      try simp only [pu, pn, s1, s2, s3]
                      refine wpAnyH_ready (rs := [16]) (by kernel_rfl) (by simp) ?_
                      refine AllReadyH.cons (o := { dst := none, op := Op.store 30 (Operand.tmp 4) (Operand.tmp 77), type := 0, pos := "ref.go:26", after := #[{ on := 15, ground := Ground.data }, { on := 13, ground := Ground.data }, { on := 11, ground := Ground.chain }, { on := 0, ground := Ground.phase }, { on := 1, ground := Ground.phase }, { on := 2, ground := Ground.phase }, { on := 3, ground := Ground.phase }, { on := 4, ground := Ground.phase }, { on := 5, ground := Ground.phase }, { on := 6, ground := Ground.phase }, { on := 7, ground := Ground.phase }, { on := 8, ground := Ground.phase }, { on := 9, ground := Ground.phase }, { on := 10, ground := Ground.phase }, { on := 11, ground := Ground.phase }, { on := 12, ground := Ground.phase }, { on := 13, ground := Ground.phase }, { on := 14, ground := Ground.textOnly Departure.lateStores }, { on := 15, ground := Ground.phase }], guard := none }) rfl (fun K hK => ?_) AllReadyH.nil
                      obtain ⟨f0, f1, f2, f3⟩ := has_two ZZ.out
                      have CS := Lib.hid HHeld.out
                      go_simp
                      refine hK.out _ _ ?_ (fun hHeld => ?_)
                      · first | exact bel_alloc C11.out _ | exact Below.setCell (Below.setCell CS.out (p := ⟨_, _, none⟩) LE.out _) (p := ⟨_, _, none⟩) LE.out _
                      clear HHeld; have HHeld := Lib.hid hHeld; clear hHeld
                      clear hK K
                      try simp only [pu, pn, s1, s2, s3]
                      refine wT (i := 17) (oi := { dst := some 5, op := Op.assign (Operand.tmp 78), type := 4, pos := "ref.go:26", after := #[{ on := 14, ground := Ground.data }, { on := 16, ground := Ground.chain }, { on := 0, ground := Ground.phase }, { on := 1, ground := Ground.phase }, { on := 2, ground := Ground.phase }, { on := 3, ground := Ground.phase }, { on := 4, ground := Ground.phase }, { on := 5, ground := Ground.phase }, { on := 6, ground := Ground.phase }, { on := 7, ground := Ground.phase }, { on := 8, ground := Ground.phase }, { on := 9, ground := Ground.phase }, { on := 10, ground := Ground.phase }, { on := 11, ground := Ground.phase }, { on := 12, ground := Ground.phase }, { on := 13, ground := Ground.phase }, { on := 14, ground := Ground.phase }, { on := 15, ground := Ground.phase }, { on := 16, ground := Ground.phase }], guard := none }) (v := ?_) rfl (Or.inl ⟨by rfl, ?_⟩) HHeld.out ?_
                      rotate_left
                      · intro w hSw; clear hSw; go_simp; try with_reducible rfl
                      try simp only [pu, pn, s1, s2, s3]
                      refine wpAnyH_done (by kernel_rfl) ?_ _
                      have CZ := Lib.hid HHeld.out
                      go_wp2
                      exact ⟨⟨j + 1 + 1, by omega, by simp, Lib.hid (next_ok HI.out (by rw [HRI.out]; simp [rcP, ea, es, HM.out])), bel_trans HB.out CZ.out⟩, by simp [intOf]; omega⟩
                  · refine wp_region_held_drew (S := (fun V : World => Below wr.heap.size wr V)) (by kernel_rfl) ?_ (fun hHeld => ?_)
                    · exact HW3.out.drew
                    have HHeld := Lib.hid hHeld; clear hHeld
                    refine wT (i := 0) (oi := { dst := some 65, op := Op.move (Operand.tmp 0), type := 25, pos := "ref.go:26", after := #[], guard := none }) (v := ?_) rfl (Or.inl ⟨by rfl, ?_⟩) HHeld.out ?_
                    rotate_left
                    · intro w hSw; clear hSw; go_simp; try with_reducible rfl
                    try simp only [pu, pn, s1, s2, s3]
                    refine wT (i := 1) (oi := { dst := some 66, op := Op.move (Operand.tmp 3), type := 3, pos := "ref.go:26", after := #[], guard := none }) (v := ?_) rfl (Or.inl ⟨by rfl, ?_⟩) HHeld.out ?_
                    rotate_left
                    · intro w hSw; clear hSw; go_simp; try with_reducible rfl
                    try simp only [pu, pn, s1, s2, s3]
                    refine wT (i := 2) (oi := { dst := some 67, op := Op.binOp BinOp.sub 3 (Operand.tmp 66) (Operand.const (Value.int IntKind.i64 1)) 3, type := 3, pos := "ref.go:26", after := #[{ on := 1, ground := Ground.data }], guard := none }) (v := ?_) rfl (Or.inl ⟨by rfl, ?_⟩) HHeld.out ?_
                    rotate_left
                    · intro w hSw; clear hSw; go_simp; try with_reducible rfl
                    try simp only [pu, pn, s1, s2, s3]
                    refine wT (i := 3) (oi := { dst := some 68, op := Op.indexAddr 25 (Operand.tmp 65) (Operand.tmp 67), type := 0, pos := "ref.go:26", after := #[{ on := 0, ground := Ground.data }, { on := 2, ground := Ground.data }], guard := none }) (v := ?_) rfl (Or.inl ⟨by rfl, ?_⟩) HHeld.out ?_
                    rotate_left
                    · intro w hSw; clear hSw; go_simp; try with_reducible rfl
                    try simp only [pu, pn, s1, s2, s3]
                    refine wT (i := 4) (oi := { dst := some 69, op := Op.load 50 (Operand.tmp 68), type := 50, pos := "ref.go:26", after := #[{ on := 3, ground := Ground.data }], guard := none }) (v := (.agg #[.int .u8 p.kd, .int .i64 p.sq, .string p.ky, .string p.to, .string p.vl, .int .u64 p.dl] : Value)) rfl (Or.inl ⟨by rfl, ?_⟩) HHeld.out ?_
                    · intro V hV; have hc0 := bel_later hV P0.out; have hc1 := bel_later hV P1.out; have hc2 := bel_later hV P2.out; have hc3 := bel_later hV P3.out; have hc4 := bel_later hV P4.out; have hc5 := bel_later hV P5.out; clear hV; go_simp
                    try simp only [pu, pn, s1, s2, s3]
                    refine wT (i := 6) (oi := { dst := some 71, op := Op.move (Operand.tmp 0), type := 25, pos := "ref.go:26", after := #[], guard := none }) (v := ?_) rfl (Or.inl ⟨by rfl, ?_⟩) HHeld.out ?_
                    rotate_left
                    · intro w hSw; clear hSw; go_simp; try with_reducible rfl
                    try simp only [pu, pn, s1, s2, s3]
                    refine wT (i := 7) (oi := { dst := some 72, op := Op.move (Operand.tmp 3), type := 3, pos := "ref.go:26", after := #[], guard := none }) (v := ?_) rfl (Or.inl ⟨by rfl, ?_⟩) HHeld.out ?_
                    rotate_left
                    · intro w hSw; clear hSw; go_simp; try with_reducible rfl
                    try simp only [pu, pn, s1, s2, s3]
                    refine wT (i := 8) (oi := { dst := some 73, op := Op.indexAddr 25 (Operand.tmp 71) (Operand.tmp 72), type := 0, pos := "ref.go:26", after := #[{ on := 6, ground := Ground.data }, { on := 7, ground := Ground.data }], guard := none }) (v := ?_) rfl (Or.inl ⟨by rfl, ?_⟩) HHeld.out ?_
                    rotate_left
                    · intro w hSw; clear hSw; go_simp; try with_reducible rfl
                    try simp only [pu, pn, s1, s2, s3]
                    refine wT (i := 9) (oi := { dst := some 74, op := Op.load 50 (Operand.tmp 73), type := 50, pos := "ref.go:26", after := #[{ on := 8, ground := Ground.data }], guard := none }) (v := (.agg #[.int .u8 x.kd, .int .i64 x.sq, .string x.ky, .string x.to, .string x.vl, .int .u64 x.dl] : Value)) rfl (Or.inl ⟨by rfl, ?_⟩) HHeld.out ?_
                    · intro V hV; have hc0 := bel_later hV G0.out; have hc1 := bel_later hV G1.out; have hc2 := bel_later hV G2.out; have hc3 := bel_later hV G3.out; have hc4 := bel_later hV G4.out; have hc5 := bel_later hV G5.out; clear hV; go_simp
                    try simp only [pu, pn, s1, s2, s3]
                    refine wpAnyH_ready (rs := [5, 15]) (by kernel_rfl) (by simp) ?_
                    refine AllReadyH.cons (o := { dst := some 70, op := Op.call { callee := Callee.value (Operand.func 40), args := #[Operand.tmp 69], argTypes := #[50] }, type := 30, pos := "ref.go:26", after := #[{ on := 4, ground := Ground.data }], guard := none }) rfl (fun K hK => ?_) (AllReadyH.cons (o := { dst := some 4, op := Op.alloc 30, type := 0, pos := "ref.go:26", after := #[], guard := none }) rfl (fun K hK => ?_) AllReadyH.nil)
                    · go_simp
                      go_at_call 40; (refine (rspan_any p HOP.out _).mono ?_); rintro e v5 ⟨rfl, cc⟩; have C5 := Lib.hid (bel_trans HHeld.out cc); clear cc
                      refine hK.out _ _ ?_ (fun hHeld => ?_)
                      · exact C5.out
                      clear HHeld; have HHeld := Lib.hid hHeld; clear hHeld
                      clear hK K
                      try simp only [pu, pn, s1, s2, s3]
                      refine wpAnyH_ready (rs := [10, 15]) (by kernel_rfl) (by simp) ?_
                      refine AllReadyH.cons (o := { dst := some 75, op := Op.call { callee := Callee.value (Operand.func 40), args := #[Operand.tmp 74], argTypes := #[50] }, type := 30, pos := "ref.go:26", after := #[{ on := 9, ground := Ground.data }, { on := 5, ground := Ground.chain }], guard := none }) rfl (fun K hK => ?_) (AllReadyH.cons (o := { dst := some 4, op := Op.alloc 30, type := 0, pos := "ref.go:26", after := #[], guard := none }) rfl (fun K hK => ?_) AllReadyH.nil)
                      · go_simp
                        go_at_call 40; (refine (rspan_any x HOX.out _).mono ?_); rintro e v10 ⟨rfl, cc⟩; have C10 := Lib.hid (bel_trans HHeld.out cc); clear cc
                        refine hK.out _ _ ?_ (fun hHeld => ?_)
                        · exact C10.out
                        clear HHeld; have HHeld := Lib.hid hHeld; clear hHeld
                        clear hK K
                        try simp only [pu, pn, s1, s2, s3]
                        refine wpAnyH_ready (rs := [11, 15]) (by kernel_rfl) (by simp) ?_
                        refine AllReadyH.cons (o := { dst := some 76, op := Op.call { callee := Callee.value (Operand.func 42), args := #[Operand.tmp 70, Operand.tmp 75], argTypes := #[30, 30] }, type := 76, pos := "ref.go:26", after := #[{ on := 5, ground := Ground.data }, { on := 10, ground := Ground.data }, { on := 10, ground := Ground.chain }], guard := none }) rfl (fun K hK => ?_) (AllReadyH.cons (o := { dst := some 4, op := Op.alloc 30, type := 0, pos := "ref.go:26", after := #[], guard := none }) rfl (fun K hK => ?_) AllReadyH.nil)
                        · go_simp
                          go_at_call 42; (refine (AM.out _).mono ?_); rintro e v11 ⟨rfl, cc⟩; have C11 := Lib.hid (bel_trans HHeld.out cc); clear cc
                          refine hK.out _ _ ?_ (fun hHeld => ?_)
                          · exact C11.out
                          clear HHeld; have HHeld := Lib.hid hHeld; clear hHeld
                          clear hK K
                          try simp only [pu, pn, s1, s2, s3]
                          refine wT (i := 12) (oi := { dst := some 64, op := Op.move (Operand.tmp 76), type := 76, pos := "ref.go:26", after := #[{ on := 11, ground := Ground.data }], guard := none }) (v := ?_) rfl (Or.inl ⟨by rfl, ?_⟩) HHeld.out ?_
                          rotate_left
                          · intro w hSw; clear hSw; go_simp; try with_reducible rfl
                          try simp only [pu, pn, s1, s2, s3]
                          refine wT (i := 13) (oi := { dst := some 77, op := Op.extract (Operand.tmp 64) 0, type := 30, pos := "ref.go:26", after := #[{ on := 12, ground := Ground.data }], guard := none }) (v := ?_) rfl (Or.inl ⟨by rfl, ?_⟩) HHeld.out ?_
                          rotate_left
                          · intro w hSw; clear hSw; go_simp; try with_reducible rfl
                          try simp only [pu, pn, s1, s2, s3]
                          refine wT (i := 14) (oi := { dst := some 78, op := Op.extract (Operand.tmp 64) 1, type := 4, pos := "ref.go:26", after := #[{ on := 12, ground := Ground.data }, { on := 16, ground := Ground.gcOnly Departure.lateStores }], guard := none }) (v := ?_) rfl (Or.inl ⟨by rfl, ?_⟩) HHeld.out ?_
                          rotate_left
                          · intro w hSw; clear hSw; go_simp; try with_reducible rfl
                          try simp only [pu, pn, s1, s2, s3]
                          refine wpAnyH_ready (rs := [15]) (by kernel_rfl) (by simp) ?_
                          refine AllReadyH.cons (o := { dst := some 4, op := Op.alloc 30, type := 0, pos := "ref.go:26", after := #[], guard := none }) rfl (fun K hK => ?_) AllReadyH.nil
                          have ZZ := Lib.hid (heap_alloc_new v11 (rgc emptyS emptyS))
                          have LE := Lib.hid (HHeld.out.size)
                          have CA := Lib.hid (bel_alloc HHeld.out (rgc emptyS emptyS))
                          go_simp
                          refine hK.out _ _ ?_ (fun hHeld => ?_)
                          · exact CA.out
                          clear HHeld; have HHeld := Lib.hid hHeld; clear hHeld
                          clear hK K
                          try simp only [pu, pn, s1, s2, s3]
                          refine wpAnyH_ready (rs := [16]) (by kernel_rfl) (by simp) ?_
                          refine AllReadyH.cons (o := { dst := none, op := Op.store 30 (Operand.tmp 4) (Operand.tmp 77), type := 0, pos := "ref.go:26", after := #[{ on := 15, ground := Ground.data }, { on := 13, ground := Ground.data }, { on := 11, ground := Ground.chain }, { on := 0, ground := Ground.phase }, { on := 1, ground := Ground.phase }, { on := 2, ground := Ground.phase }, { on := 3, ground := Ground.phase }, { on := 4, ground := Ground.phase }, { on := 5, ground := Ground.phase }, { on := 6, ground := Ground.phase }, { on := 7, ground := Ground.phase }, { on := 8, ground := Ground.phase }, { on := 9, ground := Ground.phase }, { on := 10, ground := Ground.phase }, { on := 11, ground := Ground.phase }, { on := 12, ground := Ground.phase }, { on := 13, ground := Ground.phase }, { on := 14, ground := Ground.textOnly Departure.lateStores }, { on := 15, ground := Ground.phase }], guard := none }) rfl (fun K hK => ?_) AllReadyH.nil
                          obtain ⟨f0, f1, f2, f3⟩ := has_two ZZ.out
                          have CS := Lib.hid HHeld.out
                          go_simp
                          refine hK.out _ _ ?_ (fun hHeld => ?_)
                          · first | exact bel_alloc C11.out _ | exact Below.setCell (Below.setCell CS.out (p := ⟨_, _, none⟩) LE.out _) (p := ⟨_, _, none⟩) LE.out _
                          clear HHeld; have HHeld := Lib.hid hHeld; clear hHeld
                          clear hK K
                          try simp only [pu, pn, s1, s2, s3]
                          refine wT (i := 17) (oi := { dst := some 5, op := Op.assign (Operand.tmp 78), type := 4, pos := "ref.go:26", after := #[{ on := 14, ground := Ground.data }, { on := 16, ground := Ground.chain }, { on := 0, ground := Ground.phase }, { on := 1, ground := Ground.phase }, { on := 2, ground := Ground.phase }, { on := 3, ground := Ground.phase }, { on := 4, ground := Ground.phase }, { on := 5, ground := Ground.phase }, { on := 6, ground := Ground.phase }, { on := 7, ground := Ground.phase }, { on := 8, ground := Ground.phase }, { on := 9, ground := Ground.phase }, { on := 10, ground := Ground.phase }, { on := 11, ground := Ground.phase }, { on := 12, ground := Ground.phase }, { on := 13, ground := Ground.phase }, { on := 14, ground := Ground.phase }, { on := 15, ground := Ground.phase }, { on := 16, ground := Ground.phase }], guard := none }) (v := ?_) rfl (Or.inl ⟨by rfl, ?_⟩) HHeld.out ?_
                          rotate_left
                          · intro w hSw; clear hSw; go_simp; try with_reducible rfl
                          try simp only [pu, pn, s1, s2, s3]
                          refine wpAnyH_done (by kernel_rfl) ?_ _
                          have CZ := Lib.hid HHeld.out
                          go_wp2
                          go_ret
                          exact ⟨by rw [HR.out, right_no HKL.out (by rw [HRI.out]; simp [rcP, ea, es, HM.out])]; rfl, bel_trans HB.out CZ.out⟩
                        · have ZZ := Lib.hid (heap_alloc_new v10 (rgc emptyS emptyS))
                          have LE := Lib.hid (HHeld.out.size)
                          have CA := Lib.hid (bel_alloc HHeld.out (rgc emptyS emptyS))
                          go_simp
                          refine hK.out _ _ ?_ (fun hHeld => ?_)
                          · exact CA.out
                          clear HHeld; have HHeld := Lib.hid hHeld; clear hHeld
                          clear hK K
                          try simp only [pu, pn, s1, s2, s3]
                          refine wpAnyH_ready (rs := [11]) (by kernel_rfl) (by simp) ?_
                          refine AllReadyH.cons (o := { dst := some 76, op := Op.call { callee := Callee.value (Operand.func 42), args := #[Operand.tmp 70, Operand.tmp 75], argTypes := #[30, 30] }, type := 76, pos := "ref.go:26", after := #[{ on := 5, ground := Ground.data }, { on := 10, ground := Ground.data }, { on := 10, ground := Ground.chain }], guard := none }) rfl (fun K hK => ?_) AllReadyH.nil
                          go_simp
                          go_at_call 42; (refine (AM.out _).mono ?_); rintro e v11 ⟨rfl, cc⟩; have C11 := Lib.hid (bel_trans HHeld.out cc); replace ZZ := Lib.hid (keep_bel cc ZZ.out); clear cc
                          refine hK.out _ _ ?_ (fun hHeld => ?_)
                          · exact C11.out
                          clear HHeld; have HHeld := Lib.hid hHeld; clear hHeld
                          clear hK K
                          try simp only [pu, pn, s1, s2, s3]
                          refine wT (i := 12) (oi := { dst := some 64, op := Op.move (Operand.tmp 76), type := 76, pos := "ref.go:26", after := #[{ on := 11, ground := Ground.data }], guard := none }) (v := ?_) rfl (Or.inl ⟨by rfl, ?_⟩) HHeld.out ?_
                          rotate_left
                          · intro w hSw; clear hSw; go_simp; try with_reducible rfl
                          try simp only [pu, pn, s1, s2, s3]
                          refine wT (i := 13) (oi := { dst := some 77, op := Op.extract (Operand.tmp 64) 0, type := 30, pos := "ref.go:26", after := #[{ on := 12, ground := Ground.data }], guard := none }) (v := ?_) rfl (Or.inl ⟨by rfl, ?_⟩) HHeld.out ?_
                          rotate_left
                          · intro w hSw; clear hSw; go_simp; try with_reducible rfl
                          try simp only [pu, pn, s1, s2, s3]
                          refine wT (i := 14) (oi := { dst := some 78, op := Op.extract (Operand.tmp 64) 1, type := 4, pos := "ref.go:26", after := #[{ on := 12, ground := Ground.data }, { on := 16, ground := Ground.gcOnly Departure.lateStores }], guard := none }) (v := ?_) rfl (Or.inl ⟨by rfl, ?_⟩) HHeld.out ?_
                          rotate_left
                          · intro w hSw; clear hSw; go_simp; try with_reducible rfl
                          try simp only [pu, pn, s1, s2, s3]
                          refine wpAnyH_ready (rs := [16]) (by kernel_rfl) (by simp) ?_
                          refine AllReadyH.cons (o := { dst := none, op := Op.store 30 (Operand.tmp 4) (Operand.tmp 77), type := 0, pos := "ref.go:26", after := #[{ on := 15, ground := Ground.data }, { on := 13, ground := Ground.data }, { on := 11, ground := Ground.chain }, { on := 0, ground := Ground.phase }, { on := 1, ground := Ground.phase }, { on := 2, ground := Ground.phase }, { on := 3, ground := Ground.phase }, { on := 4, ground := Ground.phase }, { on := 5, ground := Ground.phase }, { on := 6, ground := Ground.phase }, { on := 7, ground := Ground.phase }, { on := 8, ground := Ground.phase }, { on := 9, ground := Ground.phase }, { on := 10, ground := Ground.phase }, { on := 11, ground := Ground.phase }, { on := 12, ground := Ground.phase }, { on := 13, ground := Ground.phase }, { on := 14, ground := Ground.textOnly Departure.lateStores }, { on := 15, ground := Ground.phase }], guard := none }) rfl (fun K hK => ?_) AllReadyH.nil
                          obtain ⟨f0, f1, f2, f3⟩ := has_two ZZ.out
                          have CS := Lib.hid HHeld.out
                          go_simp
                          refine hK.out _ _ ?_ (fun hHeld => ?_)
                          · first | exact bel_alloc C11.out _ | exact Below.setCell (Below.setCell CS.out (p := ⟨_, _, none⟩) LE.out _) (p := ⟨_, _, none⟩) LE.out _
                          clear HHeld; have HHeld := Lib.hid hHeld; clear hHeld
                          clear hK K
                          try simp only [pu, pn, s1, s2, s3]
                          refine wT (i := 17) (oi := { dst := some 5, op := Op.assign (Operand.tmp 78), type := 4, pos := "ref.go:26", after := #[{ on := 14, ground := Ground.data }, { on := 16, ground := Ground.chain }, { on := 0, ground := Ground.phase }, { on := 1, ground := Ground.phase }, { on := 2, ground := Ground.phase }, { on := 3, ground := Ground.phase }, { on := 4, ground := Ground.phase }, { on := 5, ground := Ground.phase }, { on := 6, ground := Ground.phase }, { on := 7, ground := Ground.phase }, { on := 8, ground := Ground.phase }, { on := 9, ground := Ground.phase }, { on := 10, ground := Ground.phase }, { on := 11, ground := Ground.phase }, { on := 12, ground := Ground.phase }, { on := 13, ground := Ground.phase }, { on := 14, ground := Ground.phase }, { on := 15, ground := Ground.phase }, { on := 16, ground := Ground.phase }], guard := none }) (v := ?_) rfl (Or.inl ⟨by rfl, ?_⟩) HHeld.out ?_
                          rotate_left
                          · intro w hSw; clear hSw; go_simp; try with_reducible rfl
                          try simp only [pu, pn, s1, s2, s3]
                          refine wpAnyH_done (by kernel_rfl) ?_ _
                          have CZ := Lib.hid HHeld.out
                          go_wp2
                          go_ret
                          exact ⟨by rw [HR.out, right_no HKL.out (by rw [HRI.out]; simp [rcP, ea, es, HM.out])]; rfl, bel_trans HB.out CZ.out⟩
                      · have ZZ := Lib.hid (heap_alloc_new v5 (rgc emptyS emptyS))
                        have LE := Lib.hid (HHeld.out.size)
                        have CA := Lib.hid (bel_alloc HHeld.out (rgc emptyS emptyS))
                        go_simp
                        refine hK.out _ _ ?_ (fun hHeld => ?_)
                        · exact CA.out
                        clear HHeld; have HHeld := Lib.hid hHeld; clear hHeld
                        clear hK K
                        try simp only [pu, pn, s1, s2, s3]
                        refine wpAnyH_ready (rs := [10]) (by kernel_rfl) (by simp) ?_
                        refine AllReadyH.cons (o := { dst := some 75, op := Op.call { callee := Callee.value (Operand.func 40), args := #[Operand.tmp 74], argTypes := #[50] }, type := 30, pos := "ref.go:26", after := #[{ on := 9, ground := Ground.data }, { on := 5, ground := Ground.chain }], guard := none }) rfl (fun K hK => ?_) AllReadyH.nil
                        go_simp
                        go_at_call 40; (refine (rspan_any x HOX.out _).mono ?_); rintro e v10 ⟨rfl, cc⟩; have C10 := Lib.hid (bel_trans HHeld.out cc); replace ZZ := Lib.hid (keep_bel cc ZZ.out); clear cc
                        refine hK.out _ _ ?_ (fun hHeld => ?_)
                        · exact C10.out
                        clear HHeld; have HHeld := Lib.hid hHeld; clear hHeld
                        clear hK K
                        try simp only [pu, pn, s1, s2, s3]
                        refine wpAnyH_ready (rs := [11]) (by kernel_rfl) (by simp) ?_
                        refine AllReadyH.cons (o := { dst := some 76, op := Op.call { callee := Callee.value (Operand.func 42), args := #[Operand.tmp 70, Operand.tmp 75], argTypes := #[30, 30] }, type := 76, pos := "ref.go:26", after := #[{ on := 5, ground := Ground.data }, { on := 10, ground := Ground.data }, { on := 10, ground := Ground.chain }], guard := none }) rfl (fun K hK => ?_) AllReadyH.nil
                        go_simp
                        go_at_call 42; (refine (AM.out _).mono ?_); rintro e v11 ⟨rfl, cc⟩; have C11 := Lib.hid (bel_trans HHeld.out cc); replace ZZ := Lib.hid (keep_bel cc ZZ.out); clear cc
                        refine hK.out _ _ ?_ (fun hHeld => ?_)
                        · exact C11.out
                        clear HHeld; have HHeld := Lib.hid hHeld; clear hHeld
                        clear hK K
                        try simp only [pu, pn, s1, s2, s3]
                        refine wT (i := 12) (oi := { dst := some 64, op := Op.move (Operand.tmp 76), type := 76, pos := "ref.go:26", after := #[{ on := 11, ground := Ground.data }], guard := none }) (v := ?_) rfl (Or.inl ⟨by rfl, ?_⟩) HHeld.out ?_
                        rotate_left
                        · intro w hSw; clear hSw; go_simp; try with_reducible rfl
                        try simp only [pu, pn, s1, s2, s3]
                        refine wT (i := 13) (oi := { dst := some 77, op := Op.extract (Operand.tmp 64) 0, type := 30, pos := "ref.go:26", after := #[{ on := 12, ground := Ground.data }], guard := none }) (v := ?_) rfl (Or.inl ⟨by rfl, ?_⟩) HHeld.out ?_
                        rotate_left
                        · intro w hSw; clear hSw; go_simp; try with_reducible rfl
                        try simp only [pu, pn, s1, s2, s3]
                        refine wT (i := 14) (oi := { dst := some 78, op := Op.extract (Operand.tmp 64) 1, type := 4, pos := "ref.go:26", after := #[{ on := 12, ground := Ground.data }, { on := 16, ground := Ground.gcOnly Departure.lateStores }], guard := none }) (v := ?_) rfl (Or.inl ⟨by rfl, ?_⟩) HHeld.out ?_
                        rotate_left
                        · intro w hSw; clear hSw; go_simp; try with_reducible rfl
                        try simp only [pu, pn, s1, s2, s3]
                        refine wpAnyH_ready (rs := [16]) (by kernel_rfl) (by simp) ?_
                        refine AllReadyH.cons (o := { dst := none, op := Op.store 30 (Operand.tmp 4) (Operand.tmp 77), type := 0, pos := "ref.go:26", after := #[{ on := 15, ground := Ground.data }, { on := 13, ground := Ground.data }, { on := 11, ground := Ground.chain }, { on := 0, ground := Ground.phase }, { on := 1, ground := Ground.phase }, { on := 2, ground := Ground.phase }, { on := 3, ground := Ground.phase }, { on := 4, ground := Ground.phase }, { on := 5, ground := Ground.phase }, { on := 6, ground := Ground.phase }, { on := 7, ground := Ground.phase }, { on := 8, ground := Ground.phase }, { on := 9, ground := Ground.phase }, { on := 10, ground := Ground.phase }, { on := 11, ground := Ground.phase }, { on := 12, ground := Ground.phase }, { on := 13, ground := Ground.phase }, { on := 14, ground := Ground.textOnly Departure.lateStores }, { on := 15, ground := Ground.phase }], guard := none }) rfl (fun K hK => ?_) AllReadyH.nil
                        obtain ⟨f0, f1, f2, f3⟩ := has_two ZZ.out
                        have CS := Lib.hid HHeld.out
                        go_simp
                        refine hK.out _ _ ?_ (fun hHeld => ?_)
                        · first | exact bel_alloc C11.out _ | exact Below.setCell (Below.setCell CS.out (p := ⟨_, _, none⟩) LE.out _) (p := ⟨_, _, none⟩) LE.out _
                        clear HHeld; have HHeld := Lib.hid hHeld; clear hHeld
                        clear hK K
                        try simp only [pu, pn, s1, s2, s3]
                        refine wT (i := 17) (oi := { dst := some 5, op := Op.assign (Operand.tmp 78), type := 4, pos := "ref.go:26", after := #[{ on := 14, ground := Ground.data }, { on := 16, ground := Ground.chain }, { on := 0, ground := Ground.phase }, { on := 1, ground := Ground.phase }, { on := 2, ground := Ground.phase }, { on := 3, ground := Ground.phase }, { on := 4, ground := Ground.phase }, { on := 5, ground := Ground.phase }, { on := 6, ground := Ground.phase }, { on := 7, ground := Ground.phase }, { on := 8, ground := Ground.phase }, { on := 9, ground := Ground.phase }, { on := 10, ground := Ground.phase }, { on := 11, ground := Ground.phase }, { on := 12, ground := Ground.phase }, { on := 13, ground := Ground.phase }, { on := 14, ground := Ground.phase }, { on := 15, ground := Ground.phase }, { on := 16, ground := Ground.phase }], guard := none }) (v := ?_) rfl (Or.inl ⟨by rfl, ?_⟩) HHeld.out ?_
                        rotate_left
                        · intro w hSw; clear hSw; go_simp; try with_reducible rfl
                        try simp only [pu, pn, s1, s2, s3]
                        refine wpAnyH_done (by kernel_rfl) ?_ _
                        have CZ := Lib.hid HHeld.out
                        go_wp2
                        go_ret
                        exact ⟨by rw [HR.out, right_no HKL.out (by rw [HRI.out]; simp [rcP, ea, es, HM.out])]; rfl, bel_trans HB.out CZ.out⟩
                    · have ZZ := Lib.hid (show (W3.alloc (rgc emptyS emptyS)).drew.heap[W3.heap.size]? = some (rgc emptyS emptyS) from keep_bel ((Below.refl _ _).drew) (heap_alloc_new _ _))
                      have LE := Lib.hid (HHeld.out.size)
                      have CA := Lib.hid (bel_alloc HHeld.out (rgc emptyS emptyS))
                      go_simp
                      refine hK.out _ _ ?_ (fun hHeld => ?_)
                      · exact CA.out
                      clear HHeld; have HHeld := Lib.hid hHeld; clear hHeld
                      clear hK K
                      try simp only [pu, pn, s1, s2, s3]
                      refine wpAnyH_ready (rs := [5]) (by kernel_rfl) (by simp) ?_
                      refine AllReadyH.cons (o := { dst := some 70, op := Op.call { callee := Callee.value (Operand.func 40), args := #[Operand.tmp 69], argTypes := #[50] }, type := 30, pos := "ref.go:26", after := #[{ on := 4, ground := Ground.data }], guard := none }) rfl (fun K hK => ?_) AllReadyH.nil
                      go_simp
                      go_at_call 40; (refine (rspan_any p HOP.out _).mono ?_); rintro e v5 ⟨rfl, cc⟩; have C5 := Lib.hid (bel_trans HHeld.out cc); replace ZZ := Lib.hid (keep_bel cc ZZ.out); clear cc
                      refine hK.out _ _ ?_ (fun hHeld => ?_)
                      · exact C5.out
                      clear HHeld; have HHeld := Lib.hid hHeld; clear hHeld
                      clear hK K
                      try simp only [pu, pn, s1, s2, s3]
                      refine wpAnyH_ready (rs := [10]) (by kernel_rfl) (by simp) ?_
                      refine AllReadyH.cons (o := { dst := some 75, op := Op.call { callee := Callee.value (Operand.func 40), args := #[Operand.tmp 74], argTypes := #[50] }, type := 30, pos := "ref.go:26", after := #[{ on := 9, ground := Ground.data }, { on := 5, ground := Ground.chain }], guard := none }) rfl (fun K hK => ?_) AllReadyH.nil
                      go_simp
                      go_at_call 40; (refine (rspan_any x HOX.out _).mono ?_); rintro e v10 ⟨rfl, cc⟩; have C10 := Lib.hid (bel_trans HHeld.out cc); replace ZZ := Lib.hid (keep_bel cc ZZ.out); clear cc
                      refine hK.out _ _ ?_ (fun hHeld => ?_)
                      · exact C10.out
                      clear HHeld; have HHeld := Lib.hid hHeld; clear hHeld
                      clear hK K
                      try simp only [pu, pn, s1, s2, s3]
                      refine wpAnyH_ready (rs := [11]) (by kernel_rfl) (by simp) ?_
                      refine AllReadyH.cons (o := { dst := some 76, op := Op.call { callee := Callee.value (Operand.func 42), args := #[Operand.tmp 70, Operand.tmp 75], argTypes := #[30, 30] }, type := 76, pos := "ref.go:26", after := #[{ on := 5, ground := Ground.data }, { on := 10, ground := Ground.data }, { on := 10, ground := Ground.chain }], guard := none }) rfl (fun K hK => ?_) AllReadyH.nil
                      go_simp
                      go_at_call 42; (refine (AM.out _).mono ?_); rintro e v11 ⟨rfl, cc⟩; have C11 := Lib.hid (bel_trans HHeld.out cc); replace ZZ := Lib.hid (keep_bel cc ZZ.out); clear cc
                      refine hK.out _ _ ?_ (fun hHeld => ?_)
                      · exact C11.out
                      clear HHeld; have HHeld := Lib.hid hHeld; clear hHeld
                      clear hK K
                      try simp only [pu, pn, s1, s2, s3]
                      refine wT (i := 12) (oi := { dst := some 64, op := Op.move (Operand.tmp 76), type := 76, pos := "ref.go:26", after := #[{ on := 11, ground := Ground.data }], guard := none }) (v := ?_) rfl (Or.inl ⟨by rfl, ?_⟩) HHeld.out ?_
                      rotate_left
                      · intro w hSw; clear hSw; go_simp; try with_reducible rfl
                      try simp only [pu, pn, s1, s2, s3]
                      refine wT (i := 13) (oi := { dst := some 77, op := Op.extract (Operand.tmp 64) 0, type := 30, pos := "ref.go:26", after := #[{ on := 12, ground := Ground.data }], guard := none }) (v := ?_) rfl (Or.inl ⟨by rfl, ?_⟩) HHeld.out ?_
                      rotate_left
                      · intro w hSw; clear hSw; go_simp; try with_reducible rfl
                      try simp only [pu, pn, s1, s2, s3]
                      refine wT (i := 14) (oi := { dst := some 78, op := Op.extract (Operand.tmp 64) 1, type := 4, pos := "ref.go:26", after := #[{ on := 12, ground := Ground.data }, { on := 16, ground := Ground.gcOnly Departure.lateStores }], guard := none }) (v := ?_) rfl (Or.inl ⟨by rfl, ?_⟩) HHeld.out ?_
                      rotate_left
                      · intro w hSw; clear hSw; go_simp; try with_reducible rfl
                      try simp only [pu, pn, s1, s2, s3]
                      refine wpAnyH_ready (rs := [16]) (by kernel_rfl) (by simp) ?_
                      refine AllReadyH.cons (o := { dst := none, op := Op.store 30 (Operand.tmp 4) (Operand.tmp 77), type := 0, pos := "ref.go:26", after := #[{ on := 15, ground := Ground.data }, { on := 13, ground := Ground.data }, { on := 11, ground := Ground.chain }, { on := 0, ground := Ground.phase }, { on := 1, ground := Ground.phase }, { on := 2, ground := Ground.phase }, { on := 3, ground := Ground.phase }, { on := 4, ground := Ground.phase }, { on := 5, ground := Ground.phase }, { on := 6, ground := Ground.phase }, { on := 7, ground := Ground.phase }, { on := 8, ground := Ground.phase }, { on := 9, ground := Ground.phase }, { on := 10, ground := Ground.phase }, { on := 11, ground := Ground.phase }, { on := 12, ground := Ground.phase }, { on := 13, ground := Ground.phase }, { on := 14, ground := Ground.textOnly Departure.lateStores }, { on := 15, ground := Ground.phase }], guard := none }) rfl (fun K hK => ?_) AllReadyH.nil
                      obtain ⟨f0, f1, f2, f3⟩ := has_two ZZ.out
                      have CS := Lib.hid HHeld.out
                      go_simp
                      refine hK.out _ _ ?_ (fun hHeld => ?_)
                      · first | exact bel_alloc C11.out _ | exact Below.setCell (Below.setCell CS.out (p := ⟨_, _, none⟩) LE.out _) (p := ⟨_, _, none⟩) LE.out _
                      clear HHeld; have HHeld := Lib.hid hHeld; clear hHeld
                      clear hK K
                      try simp only [pu, pn, s1, s2, s3]
                      refine wT (i := 17) (oi := { dst := some 5, op := Op.assign (Operand.tmp 78), type := 4, pos := "ref.go:26", after := #[{ on := 14, ground := Ground.data }, { on := 16, ground := Ground.chain }, { on := 0, ground := Ground.phase }, { on := 1, ground := Ground.phase }, { on := 2, ground := Ground.phase }, { on := 3, ground := Ground.phase }, { on := 4, ground := Ground.phase }, { on := 5, ground := Ground.phase }, { on := 6, ground := Ground.phase }, { on := 7, ground := Ground.phase }, { on := 8, ground := Ground.phase }, { on := 9, ground := Ground.phase }, { on := 10, ground := Ground.phase }, { on := 11, ground := Ground.phase }, { on := 12, ground := Ground.phase }, { on := 13, ground := Ground.phase }, { on := 14, ground := Ground.phase }, { on := 15, ground := Ground.phase }, { on := 16, ground := Ground.phase }], guard := none }) (v := ?_) rfl (Or.inl ⟨by rfl, ?_⟩) HHeld.out ?_
                      rotate_left
                      · intro w hSw; clear hSw; go_simp; try with_reducible rfl
                      try simp only [pu, pn, s1, s2, s3]
                      refine wpAnyH_done (by kernel_rfl) ?_ _
                      have CZ := Lib.hid HHeld.out
                      go_wp2
                      go_ret
                      exact ⟨by rw [HR.out, right_no HKL.out (by rw [HRI.out]; simp [rcP, ea, es, HM.out])]; rfl, bel_trans HB.out CZ.out⟩
        · go_wp2
          go_ret
          exact ⟨by rw [HR.out, right_no HKL.out (rcI_bad HX.out (by unfold rcX; rw [decide_eq_false (show ¬ x.kd ≤ 4 by omega)]; simp))]; rfl, HB.out⟩
      · go_wp2
        go_ret
        exact ⟨by rw [HR.out, right_no HKL.out (rcI_bad HX.out (by unfold rcX; rw [decide_eq_false (show ¬ 1 ≤ x.kd by omega)]; simp))]; rfl, HB.out⟩
    · have hk1 : ¬ (k : Int) < (n : Int) := by omega
      go_wp2
      go_ret
      exact ⟨by rw [HR.out, right_yes (fun i hi => HI.out i (by rw [HL.out] at hi; omega))]; rfl, HB.out⟩
end Go.Proofs.YtilnpeekajnlhaaGreat
