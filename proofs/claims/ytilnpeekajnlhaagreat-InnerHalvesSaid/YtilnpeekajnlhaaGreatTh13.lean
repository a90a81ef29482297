/- Pivots: what the document says that parts a range. -/
import Derived.Test.YtilnpeekajnlhaaGreatTh02
import Derived.Test.YtilnpeekajnlhaaGreatTh12
set_option linter.unusedVariables false
set_option linter.unusedSimpArgs false
namespace Go.Proofs.YtilnpeekajnlhaaGreat.Pv
open Go.RowKit

set_option maxHeartbeats 2000000 in
theorem rright_all (A : Option Addr) (p : List ByteArray) (n c : Nat) (f t : ByteArray) (w : World) (hl : p.length = n) (hn : n ≤ 1000) (hr : RdS w A p) :
    Calls Tryz.prog 16 #[.slice A n c, .agg #[.string f, .string t]] w fun e w' => e = .returned (.bool (rightB p f t)) ∧ Below w.heap.size w w' := by
  have B0 : Hid (Below w.heap.size w (w.alloc (rgc f t))) := Lib.hid ((Below.refl _ _).alloc (Nat.le_refl _) _)
  have G := Lib.hid (rgcell (w := w) f t)
  have C1 := Lib.hid (fun W => rright_any f t W)
  have C2 := Lib.hid (fun W (hb : Below w.heap.size w W) => rrises_any A p n c W hl hn (Rd.later hr hb))
  have HR := Lib.hid hr
  have HL := Lib.hid hl
  clear hr hl
  go_enter Tryz.func16, Tryz.ntmps16
  go_wp2
  generalize (w.alloc (rgc f t)) = W0 at *
  go_loopw [5] (fun iv wr => ∃ k d : Nat, k ≤ n ∧ iv = .int .i64 k ∧ inK p f t k = true ∧ wr = W0.drewN d) (fun i _ => n - (intOf i).toNat)
  case atStart => exact ⟨0, 0, by omega, rfl, rfl, rfl⟩
  case round =>
    obtain ⟨k, d, hk, rfl, hh, hwr⟩ := hrel
    have HH := Lib.hid hh
    have HW := Lib.hid hwr
    have BW : Hid (Below w.heap.size w wr) := Lib.hid (by rw [hwr]; exact bel_drewN B0.out d)
    have g0 : wr.cell? ⟨w.heap.size, 0, none⟩ = some (.string f) := by rw [hwr]; exact G.out.1
    have g1 : wr.cell? ⟨w.heap.size, 1, none⟩ = some (.string t) := by rw [hwr]; exact G.out.2
    clear hh hwr
    by_cases h8 : k < n
    · have i1 : (k : Int) < (n : Int) := by omega
      have i0 : (0 : Int) ≤ (k : Int) := by omega
      obtain ⟨b, off, rfl, hlt, f0⟩ := rds_get (Rd.later HR.out BW.out) (k := k) (by have := HL.out; omega)
      have hst : inK p f t (k + 1) = (inK p f t k && (lt f (at_ p k) && (emp t || lt (at_ p k) t))) := rfl
      rw [HH.out, Bool.true_and] at hst
      obtain ⟨x, hx⟩ : ∃ x, x = at_ p k := ⟨_, rfl⟩
      rw [← hx] at f0 hst
      have HST := Lib.hid hst
      have HLT := Lib.hid hlt
      clear hst hx hlt
      go_wp2_with fail
      have HH0 := Lib.hid (And.intro g0 (And.intro g1 f0))
      clear g0 g1 f0
      cases hv : lt f x
      · have hr : Hid (rightB p f t = false) := Lib.hid (by unfold rightB; rw [in_less (k := k + 1) (by rw [HST.out, hv]; rfl) _ (by have := HL.out; omega)]; rfl)
        rcases le_facts f x hv with ⟨k1, k2⟩ | ⟨k1, k2⟩
        all_goals
          clear hv HST
          refine wp_region_held_drew (S := (fun V => V.cell? ⟨w.heap.size, 0, none⟩ = some (.string f) ∧ V.cell? ⟨w.heap.size, 1, none⟩ = some (.string t) ∧ V.cell? ⟨b, off + k, none⟩ = some (.string x))) (by kernel_rfl) ?_ (fun hHeld => ?_)
          · exact HH0.out
          have HHeld := Lib.hid hHeld; clear hHeld
          refine wT (i := 0) (oi := { dst := some 12, op := Op.move (Operand.tmp 0), type := 23, pos := "ref.go:22", after := #[], guard := none }) (v := ?_) rfl (Or.inl ⟨by rfl, ?_⟩) HHeld.out ?_
          rotate_left
          · intro w hSw; clear hSw; go_simp; try with_reducible rfl
          try simp only [pu, pn, s1, s2, s3]
          refine wT (i := 1) (oi := { dst := some 13, op := Op.move (Operand.tmp 5), type := 3, pos := "ref.go:22", after := #[], guard := none }) (v := ?_) rfl (Or.inl ⟨by rfl, ?_⟩) HHeld.out ?_
          rotate_left
          · intro w hSw; clear hSw; go_simp; try with_reducible rfl
          try simp only [pu, pn, s1, s2, s3]
          refine wT (i := 2) (oi := { dst := some 14, op := Op.indexAddr 23 (Operand.tmp 12) (Operand.tmp 13), type := 0, pos := "ref.go:22", after := #[{ on := 0, ground := Ground.data }, { on := 1, ground := Ground.data }], guard := none }) (v := ?_) rfl (Or.inl ⟨by rfl, ?_⟩) HHeld.out ?_
          rotate_left
          · intro w hSw; clear hSw; go_simp; try with_reducible rfl
          try simp only [pu, pn, s1, s2, s3]
          refine wT (i := 3) (oi := { dst := some 15, op := Op.load 9 (Operand.tmp 14), type := 9, pos := "ref.go:22", after := #[{ on := 2, ground := Ground.data }], guard := none }) (v := Value.string x) rfl (Or.inl ⟨by rfl, ?_⟩) HHeld.out ?_
          · intro V hV; have hc0 := hV.2.2; clear hV; go_simp
          try simp only [pu, pn, s1, s2, s3]
          refine wT (i := 4) (oi := { dst := some 16, op := Op.fieldAddr 30 (Operand.tmp 3) 0, type := 0, pos := "ref.go:22", after := #[], guard := none }) (v := ?_) rfl (Or.inl ⟨by rfl, ?_⟩) HHeld.out ?_
          rotate_left
          · intro w hSw; clear hSw; go_simp; try with_reducible rfl
          try simp only [pu, pn, s1, s2, s3]
          refine wT (i := 5) (oi := { dst := some 17, op := Op.load 9 (Operand.tmp 16), type := 9, pos := "ref.go:22", after := #[{ on := 4, ground := Ground.data }], guard := none }) (v := Value.string f) rfl (Or.inl ⟨by rfl, ?_⟩) HHeld.out ?_
          · intro V hV; have hc0 := hV.1; clear hV; go_simp
          try simp only [pu, pn, s1, s2, s3]
          refine wT (i := 6) (oi := { dst := some 18, op := Op.binOp BinOp.leq 9 (Operand.tmp 15) (Operand.tmp 17) 9, type := 4, pos := "ref.go:22", after := #[{ on := 3, ground := Ground.data }, { on := 5, ground := Ground.data }], guard := none }) (v := ?_) rfl (Or.inl ⟨by rfl, ?_⟩) HHeld.out ?_
          rotate_left
          · intro w hSw; clear hSw; go_simp; try with_reducible rfl
          try simp only [pu, pn, s1, s2, s3]
          refine wT (i := 7) (oi := { dst := some 19, op := Op.move (Operand.tmp 18), type := 4, pos := "ref.go:22", after := #[{ on := 6, ground := Ground.data }], guard := none }) (v := ?_) rfl (Or.inl ⟨by rfl, ?_⟩) HHeld.out ?_
          rotate_left
          · intro w hSw; clear hSw; go_simp; try with_reducible rfl
          try simp only [pu, pn, s1, s2, s3]
          refine wT (i := 8) (oi := { dst := some 20, op := Op.fieldAddr 30 (Operand.tmp 3) 1, type := 0, pos := "ref.go:22", after := #[{ on := 7, ground := Ground.guard }], guard := some (7, false) }) (v := undef) rfl (Or.inr ⟨by rfl, rfl⟩) HHeld.out ?_
          try simp only [pu, pn, s1, s2, s3]
          refine wT (i := 9) (oi := { dst := some 21, op := Op.load 9 (Operand.tmp 20), type := 9, pos := "ref.go:22", after := #[{ on := 8, ground := Ground.data }, { on := 7, ground := Ground.guard }], guard := some (7, false) }) (v := undef) rfl (Or.inr ⟨by rfl, rfl⟩) HHeld.out ?_
          try simp only [pu, pn, s1, s2, s3]
          refine wT (i := 10) (oi := { dst := some 22, op := Op.binOp BinOp.neq 9 (Operand.tmp 21) (Operand.const (Value.string { data := #[] })) 9, type := 4, pos := "ref.go:22", after := #[{ on := 9, ground := Ground.data }, { on := 7, ground := Ground.guard }], guard := some (7, false) }) (v := undef) rfl (Or.inr ⟨by rfl, rfl⟩) HHeld.out ?_
          try simp only [pu, pn, s1, s2, s3]
          refine wT (i := 11) (oi := { dst := some 23, op := Op.move (Operand.tmp 22), type := 4, pos := "ref.go:22", after := #[{ on := 10, ground := Ground.data }, { on := 7, ground := Ground.chain }, { on := 7, ground := Ground.guard }], guard := some (7, false) }) (v := undef) rfl (Or.inr ⟨by rfl, rfl⟩) HHeld.out ?_
          try simp only [pu, pn, s1, s2, s3]
          refine wT (i := 12) (oi := { dst := some 24, op := Op.move (Operand.tmp 0), type := 23, pos := "ref.go:22", after := #[{ on := 11, ground := Ground.guard }], guard := some (11, true) }) (v := undef) rfl (Or.inr ⟨by rfl, rfl⟩) HHeld.out ?_
          try simp only [pu, pn, s1, s2, s3]
          refine wT (i := 13) (oi := { dst := some 25, op := Op.move (Operand.tmp 5), type := 3, pos := "ref.go:22", after := #[{ on := 11, ground := Ground.guard }], guard := some (11, true) }) (v := undef) rfl (Or.inr ⟨by rfl, rfl⟩) HHeld.out ?_
          try simp only [pu, pn, s1, s2, s3]
          refine wT (i := 14) (oi := { dst := some 26, op := Op.indexAddr 23 (Operand.tmp 24) (Operand.tmp 25), type := 0, pos := "ref.go:22", after := #[{ on := 12, ground := Ground.data }, { on := 13, ground := Ground.data }, { on := 11, ground := Ground.guard }], guard := some (11, true) }) (v := undef) rfl (Or.inr ⟨by rfl, rfl⟩) HHeld.out ?_
          try simp only [pu, pn, s1, s2, s3]
          refine wT (i := 15) (oi := { dst := some 27, op := Op.load 9 (Operand.tmp 26), type := 9, pos := "ref.go:22", after := #[{ on := 14, ground := Ground.data }, { on := 11, ground := Ground.guard }], guard := some (11, true) }) (v := undef) rfl (Or.inr ⟨by rfl, rfl⟩) HHeld.out ?_
          try simp only [pu, pn, s1, s2, s3]
          refine wT (i := 16) (oi := { dst := some 28, op := Op.fieldAddr 30 (Operand.tmp 3) 1, type := 0, pos := "ref.go:22", after := #[{ on := 11, ground := Ground.guard }], guard := some (11, true) }) (v := undef) rfl (Or.inr ⟨by rfl, rfl⟩) HHeld.out ?_
          try simp only [pu, pn, s1, s2, s3]
          refine wT (i := 17) (oi := { dst := some 29, op := Op.load 9 (Operand.tmp 28), type := 9, pos := "ref.go:22", after := #[{ on := 16, ground := Ground.data }, { on := 11, ground := Ground.guard }], guard := some (11, true) }) (v := undef) rfl (Or.inr ⟨by rfl, rfl⟩) HHeld.out ?_
          try simp only [pu, pn, s1, s2, s3]
          refine wT (i := 18) (oi := { dst := some 30, op := Op.binOp BinOp.geq 9 (Operand.tmp 27) (Operand.tmp 29) 9, type := 4, pos := "ref.go:22", after := #[{ on := 15, ground := Ground.data }, { on := 17, ground := Ground.data }, { on := 11, ground := Ground.guard }], guard := some (11, true) }) (v := undef) rfl (Or.inr ⟨by rfl, rfl⟩) HHeld.out ?_
          try simp only [pu, pn, s1, s2, s3]
          refine wT (i := 19) (oi := { dst := some 31, op := Op.pick (Operand.tmp 23) (Operand.tmp 30) (Operand.const (Value.bool false)), type := 4, pos := "ref.go:22", after := #[{ on := 11, ground := Ground.data }, { on := 18, ground := Ground.data }, { on := 7, ground := Ground.guard }], guard := some (7, false) }) (v := undef) rfl (Or.inr ⟨by rfl, rfl⟩) HHeld.out ?_
          try simp only [pu, pn, s1, s2, s3]
          refine wT (i := 20) (oi := { dst := some 32, op := Op.pick (Operand.tmp 19) (Operand.const (Value.bool true)) (Operand.tmp 31), type := 4, pos := "ref.go:22", after := #[{ on := 7, ground := Ground.data }, { on := 19, ground := Ground.data }], guard := none }) (v := ?_) rfl (Or.inl ⟨by rfl, ?_⟩) HHeld.out ?_
          rotate_left
          · intro w hSw; clear hSw; go_simp; try with_reducible rfl
          try simp only [pu, pn, s1, s2, s3]
          refine wpAnyH_done (by kernel_rfl) ?_ _
          go_wp2_with fail
          go_ret
          exact ⟨retB_eq hr.out, bel_dw BW.out⟩
      · obtain ⟨k1, k2⟩ := gt_facts f x hv
        cases he : t.toList.isEmpty
        · cases hu : lt x t
          · have hr : Hid (rightB p f t = false) := Lib.hid (by unfold rightB; rw [in_less (k := k + 1) (by rw [HST.out, hv, hu]; unfold emp; rw [he]; rfl) _ (by have := HL.out; omega)]; rfl)
            have k5 : Op.bytesLess x.toList t.toList = false := hu
            clear hv hu HST
            refine wp_region_held_drew (S := (fun V => V.cell? ⟨w.heap.size, 0, none⟩ = some (.string f) ∧ V.cell? ⟨w.heap.size, 1, none⟩ = some (.string t) ∧ V.cell? ⟨b, off + k, none⟩ = some (.string x))) (by kernel_rfl) ?_ (fun hHeld => ?_)
            · exact HH0.out
            have HHeld := Lib.hid hHeld; clear hHeld
            refine wT (i := 0) (oi := { dst := some 12, op := Op.move (Operand.tmp 0), type := 23, pos := "ref.go:22", after := #[], guard := none }) (v := ?_) rfl (Or.inl ⟨by rfl, ?_⟩) HHeld.out ?_
            rotate_left
            · intro w hSw; clear hSw; go_simp; try with_reducible rfl
            try simp only [pu, pn, s1, s2, s3]
            refine wT (i := 1) (oi := { dst := some 13, op := Op.move (Operand.tmp 5), type := 3, pos := "ref.go:22", after := #[], guard := none }) (v := ?_) rfl (Or.inl ⟨by rfl, ?_⟩) HHeld.out ?_
            rotate_left
            · intro w hSw; clear hSw; go_simp; try with_reducible rfl
            try simp only [pu, pn, s1, s2, s3]
            refine wT (i := 2) (oi := { dst := some 14, op := Op.indexAddr 23 (Operand.tmp 12) (Operand.tmp 13), type := 0, pos := "ref.go:22", after := #[{ on := 0, ground := Ground.data }, { on := 1, ground := Ground.data }], guard := none }) (v := ?_) rfl (Or.inl ⟨by rfl, ?_⟩) HHeld.out ?_
            rotate_left
            · intro w hSw; clear hSw; go_simp; try with_reducible rfl
            try simp only [pu, pn, s1, s2, s3]
            refine wT (i := 3) (oi := { dst := some 15, op := Op.load 9 (Operand.tmp 14), type := 9, pos := "ref.go:22", after := #[{ on := 2, ground := Ground.data }], guard := none }) (v := Value.string x) rfl (Or.inl ⟨by rfl, ?_⟩) HHeld.out ?_
            · intro V hV; have hc0 := hV.2.2; clear hV; go_simp
            try simp only [pu, pn, s1, s2, s3]
            refine wT (i := 4) (oi := { dst := some 16, op := Op.fieldAddr 30 (Operand.tmp 3) 0, type := 0, pos := "ref.go:22", after := #[], guard := none }) (v := ?_) rfl (Or.inl ⟨by rfl, ?_⟩) HHeld.out ?_
            rotate_left
            · intro w hSw; clear hSw; go_simp; try with_reducible rfl
            try simp only [pu, pn, s1, s2, s3]
            refine wT (i := 5) (oi := { dst := some 17, op := Op.load 9 (Operand.tmp 16), type := 9, pos := "ref.go:22", after := #[{ on := 4, ground := Ground.data }], guard := none }) (v := Value.string f) rfl (Or.inl ⟨by rfl, ?_⟩) HHeld.out ?_
            · intro V hV; have hc0 := hV.1; clear hV; go_simp
            try simp only [pu, pn, s1, s2, s3]
            refine wT (i := 6) (oi := { dst := some 18, op := Op.binOp BinOp.leq 9 (Operand.tmp 15) (Operand.tmp 17) 9, type := 4, pos := "ref.go:22", after := #[{ on := 3, ground := Ground.data }, { on := 5, ground := Ground.data }], guard := none }) (v := ?_) rfl (Or.inl ⟨by rfl, ?_⟩) HHeld.out ?_
            rotate_left
            · intro w hSw; clear hSw; go_simp; try with_reducible rfl
            try simp only [pu, pn, s1, s2, s3]
            refine wT (i := 7) (oi := { dst := some 19, op := Op.move (Operand.tmp 18), type := 4, pos := "ref.go:22", after := #[{ on := 6, ground := Ground.data }], guard := none }) (v := ?_) rfl (Or.inl ⟨by rfl, ?_⟩) HHeld.out ?_
            rotate_left
            · intro w hSw; clear hSw; go_simp; try with_reducible rfl
            try simp only [pu, pn, s1, s2, s3]
            refine wT (i := 8) (oi := { dst := some 20, op := Op.fieldAddr 30 (Operand.tmp 3) 1, type := 0, pos := "ref.go:22", after := #[{ on := 7, ground := Ground.guard }], guard := some (7, false) }) (v := ?_) rfl (Or.inl ⟨by rfl, ?_⟩) HHeld.out ?_
            rotate_left
            · intro w hSw; clear hSw; go_simp; try with_reducible rfl
            try simp only [pu, pn, s1, s2, s3]
            refine wT (i := 9) (oi := { dst := some 21, op := Op.load 9 (Operand.tmp 20), type := 9, pos := "ref.go:22", after := #[{ on := 8, ground := Ground.data }, { on := 7, ground := Ground.guard }], guard := some (7, false) }) (v := Value.string t) rfl (Or.inl ⟨by rfl, ?_⟩) HHeld.out ?_
            · intro V hV; have hc0 := hV.2.1; clear hV; go_simp
            try simp only [pu, pn, s1, s2, s3]
            refine wT (i := 10) (oi := { dst := some 22, op := Op.binOp BinOp.neq 9 (Operand.tmp 21) (Operand.const (Value.string { data := #[] })) 9, type := 4, pos := "ref.go:22", after := #[{ on := 9, ground := Ground.data }, { on := 7, ground := Ground.guard }], guard := some (7, false) }) (v := ?_) rfl (Or.inl ⟨by rfl, ?_⟩) HHeld.out ?_
            rotate_left
            · intro w hSw; clear hSw; go_simp; try with_reducible rfl
            try simp only [pu, pn, s1, s2, s3]
            refine wT (i := 11) (oi := { dst := some 23, op := Op.move (Operand.tmp 22), type := 4, pos := "ref.go:22", after := #[{ on := 10, ground := Ground.data }, { on := 7, ground := Ground.chain }, { on := 7, ground := Ground.guard }], guard := some (7, false) }) (v := ?_) rfl (Or.inl ⟨by rfl, ?_⟩) HHeld.out ?_
            rotate_left
            · intro w hSw; clear hSw; go_simp; try with_reducible rfl
            try simp only [pu, pn, s1, s2, s3]
            refine wT (i := 12) (oi := { dst := some 24, op := Op.move (Operand.tmp 0), type := 23, pos := "ref.go:22", after := #[{ on := 11, ground := Ground.guard }], guard := some (11, true) }) (v := ?_) rfl (Or.inl ⟨by rfl, ?_⟩) HHeld.out ?_
            rotate_left
            · intro w hSw; clear hSw; go_simp; try with_reducible rfl
            try simp only [pu, pn, s1, s2, s3]
            refine wT (i := 13) (oi := { dst := some 25, op := Op.move (Operand.tmp 5), type := 3, pos := "ref.go:22", after := #[{ on := 11, ground := Ground.guard }], guard := some (11, true) }) (v := ?_) rfl (Or.inl ⟨by rfl, ?_⟩) HHeld.out ?_
            rotate_left
            · intro w hSw; clear hSw; go_simp; try with_reducible rfl
            try simp only [pu, pn, s1, s2, s3]
            refine wT (i := 14) (oi := { dst := some 26, op := Op.indexAddr 23 (Operand.tmp 24) (Operand.tmp 25), type := 0, pos := "ref.go:22", after := #[{ on := 12, ground := Ground.data }, { on := 13, ground := Ground.data }, { on := 11, ground := Ground.guard }], guard := some (11, true) }) (v := ?_) rfl (Or.inl ⟨by rfl, ?_⟩) HHeld.out ?_
            rotate_left
            · intro w hSw; clear hSw; go_simp; try with_reducible rfl
            try simp only [pu, pn, s1, s2, s3]
            refine wT (i := 15) (oi := { dst := some 27, op := Op.load 9 (Operand.tmp 26), type := 9, pos := "ref.go:22", after := #[{ on := 14, ground := Ground.data }, { on := 11, ground := Ground.guard }], guard := some (11, true) }) (v := Value.string x) rfl (Or.inl ⟨by rfl, ?_⟩) HHeld.out ?_
            · intro V hV; have hc0 := hV.2.2; clear hV; go_simp
            try simp only [pu, pn, s1, s2, s3]
            refine wT (i := 16) (oi := { dst := some 28, op := Op.fieldAddr 30 (Operand.tmp 3) 1, type := 0, pos := "ref.go:22", after := #[{ on := 11, ground := Ground.guard }], guard := some (11, true) }) (v := ?_) rfl (Or.inl ⟨by rfl, ?_⟩) HHeld.out ?_
            rotate_left
            · intro w hSw; clear hSw; go_simp; try with_reducible rfl
            try simp only [pu, pn, s1, s2, s3]
            refine wT (i := 17) (oi := { dst := some 29, op := Op.load 9 (Operand.tmp 28), type := 9, pos := "ref.go:22", after := #[{ on := 16, ground := Ground.data }, { on := 11, ground := Ground.guard }], guard := some (11, true) }) (v := Value.string t) rfl (Or.inl ⟨by rfl, ?_⟩) HHeld.out ?_
            · intro V hV; have hc0 := hV.2.1; clear hV; go_simp
            try simp only [pu, pn, s1, s2, s3]
            refine wT (i := 18) (oi := { dst := some 30, op := Op.binOp BinOp.geq 9 (Operand.tmp 27) (Operand.tmp 29) 9, type := 4, pos := "ref.go:22", after := #[{ on := 15, ground := Ground.data }, { on := 17, ground := Ground.data }, { on := 11, ground := Ground.guard }], guard := some (11, true) }) (v := ?_) rfl (Or.inl ⟨by rfl, ?_⟩) HHeld.out ?_
            rotate_left
            · intro w hSw; clear hSw; go_simp; try with_reducible rfl
            try simp only [pu, pn, s1, s2, s3]
            refine wT (i := 19) (oi := { dst := some 31, op := Op.pick (Operand.tmp 23) (Operand.tmp 30) (Operand.const (Value.bool false)), type := 4, pos := "ref.go:22", after := #[{ on := 11, ground := Ground.data }, { on := 18, ground := Ground.data }, { on := 7, ground := Ground.guard }], guard := some (7, false) }) (v := ?_) rfl (Or.inl ⟨by rfl, ?_⟩) HHeld.out ?_
            rotate_left
            · intro w hSw; clear hSw; go_simp; try with_reducible rfl
            try simp only [pu, pn, s1, s2, s3]
            refine wT (i := 20) (oi := { dst := some 32, op := Op.pick (Operand.tmp 19) (Operand.const (Value.bool true)) (Operand.tmp 31), type := 4, pos := "ref.go:22", after := #[{ on := 7, ground := Ground.data }, { on := 19, ground := Ground.data }], guard := none }) (v := ?_) rfl (Or.inl ⟨by rfl, ?_⟩) HHeld.out ?_
            rotate_left
            · intro w hSw; clear hSw; go_simp; try with_reducible rfl
            try simp only [pu, pn, s1, s2, s3]
            refine wpAnyH_done (by kernel_rfl) ?_ _
            go_wp2_with fail
            go_ret
            exact ⟨retB_eq hr.out, bel_dw BW.out⟩
          · have hr : Hid (inK p f t (k + 1) = true) := Lib.hid (by rw [HST.out, hv, hu]; simp)
            have k5 : Op.bytesLess x.toList t.toList = true := hu
            clear hv hu HST
            refine wp_region_held_drew (S := (fun V => V.cell? ⟨w.heap.size, 0, none⟩ = some (.string f) ∧ V.cell? ⟨w.heap.size, 1, none⟩ = some (.string t) ∧ V.cell? ⟨b, off + k, none⟩ = some (.string x))) (by kernel_rfl) ?_ (fun hHeld => ?_)
            · exact HH0.out
            have HHeld := Lib.hid hHeld; clear hHeld
            refine wT (i := 0) (oi := { dst := some 12, op := Op.move (Operand.tmp 0), type := 23, pos := "ref.go:22", after := #[], guard := none }) (v := ?_) rfl (Or.inl ⟨by rfl, ?_⟩) HHeld.out ?_
            rotate_left
            · intro w hSw; clear hSw; go_simp; try with_reducible rfl
            try simp only [pu, pn, s1, s2, s3]
            refine wT (i := 1) (oi := { dst := some 13, op := Op.move (Operand.tmp 5), type := 3, pos := "ref.go:22", after := #[], guard := none }) (v := ?_) rfl (Or.inl ⟨by rfl, ?_⟩) HHeld.out ?_
            rotate_left
            · intro w hSw; clear hSw; go_simp; try with_reducible rfl
            try simp only [pu, pn, s1, s2, s3]
            refine wT (i := 2) (oi := { dst := some 14, op := Op.indexAddr 23 (Operand.tmp 12) (Operand.tmp 13), type := 0, pos := "ref.go:22", after := #[{ on := 0, ground := Ground.data }, { on := 1, ground := Ground.data }], guard := none }) (v := ?_) rfl (Or.inl ⟨by rfl, ?_⟩) HHeld.out ?_
            rotate_left
            · intro w hSw; clear hSw; go_simp; try with_reducible rfl
            try simp only [pu, pn, s1, s2, s3]
            refine wT (i := 3) (oi := { dst := some 15, op := Op.load 9 (Operand.tmp 14), type := 9, pos := "ref.go:22", after := #[{ on := 2, ground := Ground.data }], guard := none }) (v := Value.string x) rfl (Or.inl ⟨by rfl, ?_⟩) HHeld.out ?_
            · intro V hV; have hc0 := hV.2.2; clear hV; go_simp
            try simp only [pu, pn, s1, s2, s3]
            refine wT (i := 4) (oi := { dst := some 16, op := Op.fieldAddr 30 (Operand.tmp 3) 0, type := 0, pos := "ref.go:22", after := #[], guard := none }) (v := ?_) rfl (Or.inl ⟨by rfl, ?_⟩) HHeld.out ?_
            rotate_left
            · intro w hSw; clear hSw; go_simp; try with_reducible rfl
            try simp only [pu, pn, s1, s2, s3]
            refine wT (i := 5) (oi := { dst := some 17, op := Op.load 9 (Operand.tmp 16), type := 9, pos := "ref.go:22", after := #[{ on := 4, ground := Ground.data }], guard := none }) (v := Value.string f) rfl (Or.inl ⟨by rfl, ?_⟩) HHeld.out ?_
            · intro V hV; have hc0 := hV.1; clear hV; go_simp
            try simp only [pu, pn, s1, s2, s3]
            refine wT (i := 6) (oi := { dst := some 18, op := Op.binOp BinOp.leq 9 (Operand.tmp 15) (Operand.tmp 17) 9, type := 4, pos := "ref.go:22", after := #[{ on := 3, ground := Ground.data }, { on := 5, ground := Ground.data }], guard := none }) (v := ?_) rfl (Or.inl ⟨by rfl, ?_⟩) HHeld.out ?_
            rotate_left
            · intro w hSw; clear hSw; go_simp; try with_reducible rfl
            try simp only [pu, pn, s1, s2, s3]
            refine wT (i := 7) (oi := { dst := some 19, op := Op.move (Operand.tmp 18), type := 4, pos := "ref.go:22", after := #[{ on := 6, ground := Ground.data }], guard := none }) (v := ?_) rfl (Or.inl ⟨by rfl, ?_⟩) HHeld.out ?_
            rotate_left
            · intro w hSw; clear hSw; go_simp; try with_reducible rfl
            try simp only [pu, pn, s1, s2, s3]
            refine wT (i := 8) (oi := { dst := some 20, op := Op.fieldAddr 30 (Operand.tmp 3) 1, type := 0, pos := "ref.go:22", after := #[{ on := 7, ground := Ground.guard }], guard := some (7, false) }) (v := ?_) rfl (Or.inl ⟨by rfl, ?_⟩) HHeld.out ?_
            rotate_left
            · intro w hSw; clear hSw; go_simp; try with_reducible rfl
            try simp only [pu, pn, s1, s2, s3]
            refine wT (i := 9) (oi := { dst := some 21, op := Op.load 9 (Operand.tmp 20), type := 9, pos := "ref.go:22", after := #[{ on := 8, ground := Ground.data }, { on := 7, ground := Ground.guard }], guard := some (7, false) }) (v := Value.string t) rfl (Or.inl ⟨by rfl, ?_⟩) HHeld.out ?_
            · intro V hV; have hc0 := hV.2.1; clear hV; go_simp
            try simp only [pu, pn, s1, s2, s3]
            refine wT (i := 10) (oi := { dst := some 22, op := Op.binOp BinOp.neq 9 (Operand.tmp 21) (Operand.const (Value.string { data := #[] })) 9, type := 4, pos := "ref.go:22", after := #[{ on := 9, ground := Ground.data }, { on := 7, ground := Ground.guard }], guard := some (7, false) }) (v := ?_) rfl (Or.inl ⟨by rfl, ?_⟩) HHeld.out ?_
            rotate_left
            · intro w hSw; clear hSw; go_simp; try with_reducible rfl
            try simp only [pu, pn, s1, s2, s3]
            refine wT (i := 11) (oi := { dst := some 23, op := Op.move (Operand.tmp 22), type := 4, pos := "ref.go:22", after := #[{ on := 10, ground := Ground.data }, { on := 7, ground := Ground.chain }, { on := 7, ground := Ground.guard }], guard := some (7, false) }) (v := ?_) rfl (Or.inl ⟨by rfl, ?_⟩) HHeld.out ?_
            rotate_left
            · intro w hSw; clear hSw; go_simp; try with_reducible rfl
            try simp only [pu, pn, s1, s2, s3]
            refine wT (i := 12) (oi := { dst := some 24, op := Op.move (Operand.tmp 0), type := 23, pos := "ref.go:22", after := #[{ on := 11, ground := Ground.guard }], guard := some (11, true) }) (v := ?_) rfl (Or.inl ⟨by rfl, ?_⟩) HHeld.out ?_
            rotate_left
            · intro w hSw; clear hSw; go_simp; try with_reducible rfl
            try simp only [pu, pn, s1, s2, s3]
            refine wT (i := 13) (oi := { dst := some 25, op := Op.move (Operand.tmp 5), type := 3, pos := "ref.go:22", after := #[{ on := 11, ground := Ground.guard }], guard := some (11, true) }) (v := ?_) rfl (Or.inl ⟨by rfl, ?_⟩) HHeld.out ?_
            rotate_left
            · intro w hSw; clear hSw; go_simp; try with_reducible rfl
            try simp only [pu, pn, s1, s2, s3]
            refine wT (i := 14) (oi := { dst := some 26, op := Op.indexAddr 23 (Operand.tmp 24) (Operand.tmp 25), type := 0, pos := "ref.go:22", after := #[{ on := 12, ground := Ground.data }, { on := 13, ground := Ground.data }, { on := 11, ground := Ground.guard }], guard := some (11, true) }) (v := ?_) rfl (Or.inl ⟨by rfl, ?_⟩) HHeld.out ?_
            rotate_left
            · intro w hSw; clear hSw; go_simp; try with_reducible rfl
            try simp only [pu, pn, s1, s2, s3]
            refine wT (i := 15) (oi := { dst := some 27, op := Op.load 9 (Operand.tmp 26), type := 9, pos := "ref.go:22", after := #[{ on := 14, ground := Ground.data }, { on := 11, ground := Ground.guard }], guard := some (11, true) }) (v := Value.string x) rfl (Or.inl ⟨by rfl, ?_⟩) HHeld.out ?_
            · intro V hV; have hc0 := hV.2.2; clear hV; go_simp
            try simp only [pu, pn, s1, s2, s3]
            refine wT (i := 16) (oi := { dst := some 28, op := Op.fieldAddr 30 (Operand.tmp 3) 1, type := 0, pos := "ref.go:22", after := #[{ on := 11, ground := Ground.guard }], guard := some (11, true) }) (v := ?_) rfl (Or.inl ⟨by rfl, ?_⟩) HHeld.out ?_
            rotate_left
            · intro w hSw; clear hSw; go_simp; try with_reducible rfl
            try simp only [pu, pn, s1, s2, s3]
            refine wT (i := 17) (oi := { dst := some 29, op := Op.load 9 (Operand.tmp 28), type := 9, pos := "ref.go:22", after := #[{ on := 16, ground := Ground.data }, { on := 11, ground := Ground.guard }], guard := some (11, true) }) (v := Value.string t) rfl (Or.inl ⟨by rfl, ?_⟩) HHeld.out ?_
            · intro V hV; have hc0 := hV.2.1; clear hV; go_simp
            try simp only [pu, pn, s1, s2, s3]
            refine wT (i := 18) (oi := { dst := some 30, op := Op.binOp BinOp.geq 9 (Operand.tmp 27) (Operand.tmp 29) 9, type := 4, pos := "ref.go:22", after := #[{ on := 15, ground := Ground.data }, { on := 17, ground := Ground.data }, { on := 11, ground := Ground.guard }], guard := some (11, true) }) (v := ?_) rfl (Or.inl ⟨by rfl, ?_⟩) HHeld.out ?_
            rotate_left
            · intro w hSw; clear hSw; go_simp; try with_reducible rfl
            try simp only [pu, pn, s1, s2, s3]
            refine wT (i := 19) (oi := { dst := some 31, op := Op.pick (Operand.tmp 23) (Operand.tmp 30) (Operand.const (Value.bool false)), type := 4, pos := "ref.go:22", after := #[{ on := 11, ground := Ground.data }, { on := 18, ground := Ground.data }, { on := 7, ground := Ground.guard }], guard := some (7, false) }) (v := ?_) rfl (Or.inl ⟨by rfl, ?_⟩) HHeld.out ?_
            rotate_left
            · intro w hSw; clear hSw; go_simp; try with_reducible rfl
            try simp only [pu, pn, s1, s2, s3]
            refine wT (i := 20) (oi := { dst := some 32, op := Op.pick (Operand.tmp 19) (Operand.const (Value.bool true)) (Operand.tmp 31), type := 4, pos := "ref.go:22", after := #[{ on := 7, ground := Ground.data }, { on := 19, ground := Ground.data }], guard := none }) (v := ?_) rfl (Or.inl ⟨by rfl, ?_⟩) HHeld.out ?_
            rotate_left
            · intro w hSw; clear hSw; go_simp; try with_reducible rfl
            try simp only [pu, pn, s1, s2, s3]
            refine wpAnyH_done (by kernel_rfl) ?_ _
            go_wp2_with fail
            exact ⟨⟨k + 1, d + 1, by omega, by simp, hr.out, by rw [HW.out]; rfl⟩, by simp [intOf]; omega⟩
        · have hr : Hid (inK p f t (k + 1) = true) := Lib.hid (by rw [HST.out, hv]; unfold emp; rw [he]; simp)
          clear hv HST
          refine wp_region_held_drew (S := (fun V => V.cell? ⟨w.heap.size, 0, none⟩ = some (.string f) ∧ V.cell? ⟨w.heap.size, 1, none⟩ = some (.string t) ∧ V.cell? ⟨b, off + k, none⟩ = some (.string x))) (by kernel_rfl) ?_ (fun hHeld => ?_)
          · exact HH0.out
          have HHeld := Lib.hid hHeld; clear hHeld
          refine wT (i := 0) (oi := { dst := some 12, op := Op.move (Operand.tmp 0), type := 23, pos := "ref.go:22", after := #[], guard := none }) (v := ?_) rfl (Or.inl ⟨by rfl, ?_⟩) HHeld.out ?_
          rotate_left
          · intro w hSw; clear hSw; go_simp; try with_reducible rfl
          try simp only [pu, pn, s1, s2, s3]
          refine wT (i := 1) (oi := { dst := some 13, op := Op.move (Operand.tmp 5), type := 3, pos := "ref.go:22", after := #[], guard := none }) (v := ?_) rfl (Or.inl ⟨by rfl, ?_⟩) HHeld.out ?_
          rotate_left
          · intro w hSw; clear hSw; go_simp; try with_reducible rfl
          try simp only [pu, pn, s1, s2, s3]
          refine wT (i := 2) (oi := { dst := some 14, op := Op.indexAddr 23 (Operand.tmp 12) (Operand.tmp 13), type := 0, pos := "ref.go:22", after := #[{ on := 0, ground := Ground.data }, { on := 1, ground := Ground.data }], guard := none }) (v := ?_) rfl (Or.inl ⟨by rfl, ?_⟩) HHeld.out ?_
          rotate_left
          · intro w hSw; clear hSw; go_simp; try with_reducible rfl
          try simp only [pu, pn, s1, s2, s3]
          refine wT (i := 3) (oi := { dst := some 15, op := Op.load 9 (Operand.tmp 14), type := 9, pos := "ref.go:22", after := #[{ on := 2, ground := Ground.data }], guard := none }) (v := Value.string x) rfl (Or.inl ⟨by rfl, ?_⟩) HHeld.out ?_
          · intro V hV; have hc0 := hV.2.2; clear hV; go_simp
          try simp only [pu, pn, s1, s2, s3]
          refine wT (i := 4) (oi := { dst := some 16, op := Op.fieldAddr 30 (Operand.tmp 3) 0, type := 0, pos := "ref.go:22", after := #[], guard := none }) (v := ?_) rfl (Or.inl ⟨by rfl, ?_⟩) HHeld.out ?_
          rotate_left
          · intro w hSw; clear hSw; go_simp; try with_reducible rfl
          try simp only [pu, pn, s1, s2, s3]
          refine wT (i := 5) (oi := { dst := some 17, op := Op.load 9 (Operand.tmp 16), type := 9, pos := "ref.go:22", after := #[{ on := 4, ground := Ground.data }], guard := none }) (v := Value.string f) rfl (Or.inl ⟨by rfl, ?_⟩) HHeld.out ?_
          · intro V hV; have hc0 := hV.1; clear hV; go_simp
          try simp only [pu, pn, s1, s2, s3]
          refine wT (i := 6) (oi := { dst := some 18, op := Op.binOp BinOp.leq 9 (Operand.tmp 15) (Operand.tmp 17) 9, type := 4, pos := "ref.go:22", after := #[{ on := 3, ground := Ground.data }, { on := 5, ground := Ground.data }], guard := none }) (v := ?_) rfl (Or.inl ⟨by rfl, ?_⟩) HHeld.out ?_
          rotate_left
          · intro w hSw; clear hSw; go_simp; try with_reducible rfl
          try simp only [pu, pn, s1, s2, s3]
          refine wT (i := 7) (oi := { dst := some 19, op := Op.move (Operand.tmp 18), type := 4, pos := "ref.go:22", after := #[{ on := 6, ground := Ground.data }], guard := none }) (v := ?_) rfl (Or.inl ⟨by rfl, ?_⟩) HHeld.out ?_
          rotate_left
          · intro w hSw; clear hSw; go_simp; try with_reducible rfl
          try simp only [pu, pn, s1, s2, s3]
          refine wT (i := 8) (oi := { dst := some 20, op := Op.fieldAddr 30 (Operand.tmp 3) 1, type := 0, pos := "ref.go:22", after := #[{ on := 7, ground := Ground.guard }], guard := some (7, false) }) (v := ?_) rfl (Or.inl ⟨by rfl, ?_⟩) HHeld.out ?_
          rotate_left
          · intro w hSw; clear hSw; go_simp; try with_reducible rfl
          try simp only [pu, pn, s1, s2, s3]
          refine wT (i := 9) (oi := { dst := some 21, op := Op.load 9 (Operand.tmp 20), type := 9, pos := "ref.go:22", after := #[{ on := 8, ground := Ground.data }, { on := 7, ground := Ground.guard }], guard := some (7, false) }) (v := Value.string t) rfl (Or.inl ⟨by rfl, ?_⟩) HHeld.out ?_
          · intro V hV; have hc0 := hV.2.1; clear hV; go_simp
          try simp only [pu, pn, s1, s2, s3]
          refine wT (i := 10) (oi := { dst := some 22, op := Op.binOp BinOp.neq 9 (Operand.tmp 21) (Operand.const (Value.string { data := #[] })) 9, type := 4, pos := "ref.go:22", after := #[{ on := 9, ground := Ground.data }, { on := 7, ground := Ground.guard }], guard := some (7, false) }) (v := ?_) rfl (Or.inl ⟨by rfl, ?_⟩) HHeld.out ?_
          rotate_left
          · intro w hSw; clear hSw; go_simp; try with_reducible rfl
          try simp only [pu, pn, s1, s2, s3]
          refine wT (i := 11) (oi := { dst := some 23, op := Op.move (Operand.tmp 22), type := 4, pos := "ref.go:22", after := #[{ on := 10, ground := Ground.data }, { on := 7, ground := Ground.chain }, { on := 7, ground := Ground.guard }], guard := some (7, false) }) (v := ?_) rfl (Or.inl ⟨by rfl, ?_⟩) HHeld.out ?_
          rotate_left
          · intro w hSw; clear hSw; go_simp; try with_reducible rfl
          try simp only [pu, pn, s1, s2, s3]
          refine wT (i := 12) (oi := { dst := some 24, op := Op.move (Operand.tmp 0), type := 23, pos := "ref.go:22", after := #[{ on := 11, ground := Ground.guard }], guard := some (11, true) }) (v := undef) rfl (Or.inr ⟨by rfl, rfl⟩) HHeld.out ?_
          try simp only [pu, pn, s1, s2, s3]
          refine wT (i := 13) (oi := { dst := some 25, op := Op.move (Operand.tmp 5), type := 3, pos := "ref.go:22", after := #[{ on := 11, ground := Ground.guard }], guard := some (11, true) }) (v := undef) rfl (Or.inr ⟨by rfl, rfl⟩) HHeld.out ?_
          try simp only [pu, pn, s1, s2, s3]
          refine wT (i := 14) (oi := { dst := some 26, op := Op.indexAddr 23 (Operand.tmp 24) (Operand.tmp 25), type := 0, pos := "ref.go:22", after := #[{ on := 12, ground := Ground.data }, { on := 13, ground := Ground.data }, { on := 11, ground := Ground.guard }], guard := some (11, true) }) (v := undef) rfl (Or.inr ⟨by rfl, rfl⟩) HHeld.out ?_
          try simp only [pu, pn, s1, s2, s3]
          refine wT (i := 15) (oi := { dst := some 27, op := Op.load 9 (Operand.tmp 26), type := 9, pos := "ref.go:22", after := #[{ on := 14, ground := Ground.data }, { on := 11, ground := Ground.guard }], guard := some (11, true) }) (v := undef) rfl (Or.inr ⟨by rfl, rfl⟩) HHeld.out ?_
          try simp only [pu, pn, s1, s2, s3]
          refine wT (i := 16) (oi := { dst := some 28, op := Op.fieldAddr 30 (Operand.tmp 3) 1, type := 0, pos := "ref.go:22", after := #[{ on := 11, ground := Ground.guard }], guard := some (11, true) }) (v := undef) rfl (Or.inr ⟨by rfl, rfl⟩) HHeld.out ?_
          try simp only [pu, pn, s1, s2, s3]
          refine wT (i := 17) (oi := { dst := some 29, op := Op.load 9 (Operand.tmp 28), type := 9, pos := "ref.go:22", after := #[{ on := 16, ground := Ground.data }, { on := 11, ground := Ground.guard }], guard := some (11, true) }) (v := undef) rfl (Or.inr ⟨by rfl, rfl⟩) HHeld.out ?_
          try simp only [pu, pn, s1, s2, s3]
          refine wT (i := 18) (oi := { dst := some 30, op := Op.binOp BinOp.geq 9 (Operand.tmp 27) (Operand.tmp 29) 9, type := 4, pos := "ref.go:22", after := #[{ on := 15, ground := Ground.data }, { on := 17, ground := Ground.data }, { on := 11, ground := Ground.guard }], guard := some (11, true) }) (v := undef) rfl (Or.inr ⟨by rfl, rfl⟩) HHeld.out ?_
          try simp only [pu, pn, s1, s2, s3]
          refine wT (i := 19) (oi := { dst := some 31, op := Op.pick (Operand.tmp 23) (Operand.tmp 30) (Operand.const (Value.bool false)), type := 4, pos := "ref.go:22", after := #[{ on := 11, ground := Ground.data }, { on := 18, ground := Ground.data }, { on := 7, ground := Ground.guard }], guard := some (7, false) }) (v := ?_) rfl (Or.inl ⟨by rfl, ?_⟩) HHeld.out ?_
          rotate_left
          · intro w hSw; clear hSw; go_simp; try with_reducible rfl
          try simp only [pu, pn, s1, s2, s3]
          refine wT (i := 20) (oi := { dst := some 32, op := Op.pick (Operand.tmp 19) (Operand.const (Value.bool true)) (Operand.tmp 31), type := 4, pos := "ref.go:22", after := #[{ on := 7, ground := Ground.data }, { on := 19, ground := Ground.data }], guard := none }) (v := ?_) rfl (Or.inl ⟨by rfl, ?_⟩) HHeld.out ?_
          rotate_left
          · intro w hSw; clear hSw; go_simp; try with_reducible rfl
          try simp only [pu, pn, s1, s2, s3]
          refine wpAnyH_done (by kernel_rfl) ?_ _
          go_wp2_with fail
          exact ⟨⟨k + 1, d + 1, by omega, by simp, hr.out, by rw [HW.out]; rfl⟩, by simp [intOf]; omega⟩
    · have i1 : ¬ (k : Int) < (n : Int) := by omega
      have hr : Hid (inK p f t p.length = true) := Lib.hid (by
        have e : n = k := by omega
        rw [HL.out, e]; exact HH.out)
      cases hv1 : sb f t
      · have D1 := Lib.hid (fun W => (by have h := rright_any f t W; rw [hv1] at h; exact h : Calls Tryz.prog 28 _ W _))
        have hres : Hid (rightB p f t = false) := Lib.hid (by unfold rightB; rw [hv1]; simp)
        clear hv1
        go_wp2_with (first
          | (go_at_call 28; ((with_reducible refine (D1.out _).mono ?_); rintro e w2 ⟨rfl, b2⟩; have B2 := Lib.hid (BW.out.trans (b2.mono BW.out.size)); clear b2))
          | fail)
        go_ret
        exact ⟨retB_eq hres.out, B2.out⟩
      · have D1 := Lib.hid (fun W => (by have h := rright_any f t W; rw [hv1] at h; exact h : Calls Tryz.prog 28 _ W _))
        have hres : Hid (rightB p f t = risesB p) := Lib.hid (by unfold rightB; rw [hv1, hr.out]; simp)
        clear hv1
        go_wp2_with (first
          | (go_at_call 28; ((with_reducible refine (D1.out _).mono ?_); rintro e w2 ⟨rfl, b2⟩; have B2 := Lib.hid (BW.out.trans (b2.mono BW.out.size)); clear b2))
          | (go_at_call 39; ((with_reducible refine (C2.out _ B2.out).mono ?_); rintro e w3 ⟨rfl, b3⟩; have B3 := Lib.hid (B2.out.trans (b3.mono B2.out.size)); clear b3))
          | fail)
        go_ret
        exact ⟨by rw [hres.out]; rfl, B3.out⟩
end Go.Proofs.YtilnpeekajnlhaaGreat.Pv
