/- Which messages are a buffer: the program's. -/
import Derived.Test.YtilnpeekajnlhaaGreatTh02
import Derived.Test.YtilnpeekajnlhaaGreatTh08
import Derived.Test.YtilnpeekajnlhaaGreatTh03
set_option linter.unusedVariables false
set_option linter.unusedSimpArgs false
namespace Go.Proofs.YtilnpeekajnlhaaGreat
open Go.RowKit Go.Maps
theorem kd_ok {x : MG} (h : rcX x = true) : (isPt x.kd = true ∨ (isPt x.kd = false ∧ (x.kd == 4) = true)) ∧ sb (spF x) (spT x) = true ∧ spF x = x.ky := by
  unfold rcX at h
  simp only [Bool.and_eq_true, decide_eq_true_eq] at h
  obtain ⟨⟨h1, h2⟩, h3⟩ := h
  have e : isPt x.kd = true ∨ (isPt x.kd = false ∧ (x.kd == 4) = true) := by
    by_cases h4 : x.kd = 4
    · right; rw [h4]; exact ⟨rfl, rfl⟩
    · left; unfold isPt; simp; omega
  refine ⟨e, h3, ?_⟩
  unfold spF
  rcases e with e | ⟨e, e2⟩
  · rw [e]; rfl
  · rw [e, e2]; rfl
theorem kd_bad {x : MG} (h : isPt x.kd = false) (h2 : (x.kd == 4) = false) : rcX x = false := by
  unfold rcX isPt at *
  simp at h h2 ⊢
  intro a b; omega
theorem kd_good {x : MG} (h : isPt x.kd = true ∨ (isPt x.kd = false ∧ (x.kd == 4) = true)) (h3 : sb (spF x) (spT x) = true) : rcX x = true := by
  unfold rcX
  rw [h3, Bool.and_true]
  have : 1 ≤ x.kd ∧ x.kd ≤ 4 := by
    rcases h with h | ⟨h, h2⟩
    · unfold isPt at h; simp at h; omega
    · simp at h2; omega
  simp [this]
theorem ord_gt (p x : MG) (he : (p.sq == x.sq) = false) : decide (0 < ordM p x) = !decide (p.sq < x.sq) := by
  have hne : p.sq ≠ x.sq := by simpa using he
  unfold ordM orI cmpI
  by_cases h : p.sq < x.sq
  · simp [h]
  · have h2 : x.sq < p.sq := by omega
    simp [h, h2]
theorem ord_eq (p x : MG) (he : (p.sq == x.sq) = true) : decide (0 < ordM p x) = lt x.ky p.ky := by
  have hne : p.sq = x.sq := by simpa using he
  unfold ordM orI cmpI cmpS
  rw [hne]
  simp only [Int.lt_irrefl, if_false, if_true]
  cases h1 : lt p.ky x.ky
  · cases h2 : lt x.ky p.ky <;> simp
  · have : lt x.ky p.ky = false := bl_asymm _ _ h1
    rw [this]; simp
theorem rcP_ne {p x : MG} (he : (p.sq == x.sq) = false) : rcP p x = !decide (0 < ordM p x) := by
  rw [ord_gt p x he]; unfold rcP aheadM; rw [he]; simp
theorem rcP_eq {p x : MG} (he : (p.sq == x.sq) = true) (hp : rcX p = true) (hx : rcX x = true) : rcP p x = (!sb x.ky (spT p) && !decide (0 < ordM p x)) := by
  obtain ⟨_, p2, p3⟩ := kd_ok hp
  obtain ⟨_, x2, x3⟩ := kd_ok hx
  have hns : decide (p.sq < x.sq) = false := by have : p.sq = x.sq := by simpa using he
                                                simp [this]
  rw [ord_eq p x he]
  unfold rcP aheadM
  rw [he, hns, Bool.false_or, Bool.true_and, Bool.true_and, meetF_E _ _ _ _ p2 x2]
  rw [p3] at p2 ⊢
  rw [x3] at x2 ⊢
  cases h1 : lt p.ky x.ky
  · cases h2 : lt x.ky p.ky
    · have e : p.ky.toList = x.ky.toList := by
        rcases bl_tri p.ky.toList x.ky.toList with y | y | y
        · unfold lt at h1; rw [h1] at y; cases y
        · exact y
        · unfold lt at h2; rw [h2] at y; cases y
      have e2 : p.ky = x.ky := bytes_inj e
      rw [e2] at p2
      simp [p2]
    · simp
  · have h2 : lt x.ky p.ky = false := bl_asymm _ _ h1
    have hm : maxS p.ky x.ky = x.ky := by unfold maxS; rw [h1]; rfl
    unfold meetE
    rw [hm, sb_first, x2, Bool.and_true, h2]
    cases sb x.ky (spT p) <;> rfl
theorem last_same (a : ByteArray) : lastS a a = a := by unfold lastS; split <;> rfl
theorem last_next {k a b : ByteArray} (h : sb k a = false) (h2 : sb k b = true) : lastS a b = b := by
  have : bef a b = true := by
    obtain ⟨q1, q2⟩ := sb_nfacts _ _ h
    unfold bef emp lt
    rw [q1]
    rcases sb_facts _ _ h2 with r | ⟨r1, r2⟩
    · rw [r]; rfl
    · rw [r1]
      simp only [Bool.not_false, Bool.true_and, Bool.false_or]
      rcases bl_tri k.toList a.toList with y | y | y
      · rw [q2] at y; cases y
      · rw [← y]; exact r2
      · exact bl_trans _ _ _ y r2
  unfold lastS; rw [this]; rfl
theorem has_empty (t k : ByteArray) : has emptyS t k = sb k t := by
  unfold has lt
  have e0 : emptyS.toList = [] := by rw [toList_eq]
  have : Op.bytesLess k.toList emptyS.toList = false := by rw [e0]; exact bl_nil _
  rw [this]; simp
set_option maxRecDepth 100000 in
set_option maxHeartbeats 16000000 in
theorem right_any (A : Option Addr) (n cap : Nat) (xs : List MG) (w : World) (hl : xs.length = n) (hn : n ≤ 1000) (hA : EG.Rd w A xs) (ho : OkA xs) :
    Calls Tryz.prog 31 #[.slice A n cap] w fun r w' => r = .returned (.bool (rightB xs)) ∧ Below w.heap.size w w' := by
  have HL := Lib.hid hl
  have HA := Lib.hid hA
  have HO := Lib.hid ho
  clear hl hA ho
  obtain ⟨R, hR⟩ : ∃ R, R = rightB xs := ⟨_, rfl⟩
  rw [← hR]
  have HR := Lib.hid hR
  clear hR
  go_enter Tryz.func31, Tryz.ntmps31
  go_wp2
  go_loopw [3, 9] (fun ev iv wr => ∃ (k : Nat) (en : ByteArray), k ≤ n ∧ iv = .int .i64 k ∧ ev = .string en ∧ Hid (∀ i, i < k → rcI xs i = true) ∧ Hid (∀ j p, k = j + 1 → xs[j]? = some p → en = spT p) ∧ Below w.heap.size w wr) (fun _ i _ => n - (intOf i).toNat)
  case atStart => exact ⟨0, _, by omega, rfl, rfl, Lib.hid (fun i h => absurd h (by omega)), Lib.hid (fun j p h => by omega), Below.refl _ _⟩
  case round =>
    obtain ⟨k, en, hk, rfl, rfl, HI, HE, hb⟩ := hrel
    have HB := Lib.hid hb
    clear hb
    by_cases h8 : k < n
    · have hk1 : (k : Int) < (n : Int) := by omega
      have hk0 : (0 : Int) ≤ (k : Int) := by omega
      obtain ⟨x, hx⟩ : ∃ x, xs[k]? = some x := ⟨_, List.getElem?_eq_getElem (by rw [HL.out]; omega)⟩
      have HX := Lib.hid hx
      have HOX := Lib.hid (HO.out.get hx)
      have HKL : Hid (k < xs.length) := Lib.hid (by rw [HL.out]; exact h8)
      clear hx
      by_cases hcase : isPt x.kd = true ∨ (isPt x.kd = false ∧ (x.kd == 4) = true)
      · cases e3 : sb (spF x) (spT x)
        · rcases hcase with hp | ⟨hp, h4⟩
          all_goals
            try (have hb4 : (x.kd != 4) = false := by rw [bne, h4]; rfl)
            try (have h4n : ¬ ¬ x.kd = 4 := fun h => h (by simpa using h4))
            try clear h4
            obtain ⟨b, off, rfl, hlt, g0, g1, g2, g3, g4, g5⟩ := eg_at (HA.out.later HB.out) HX.out
            have HE3 := Lib.hid e3
            clear e3 hlt
            go_wp2_with (first
              | (go_at_call 59; ((with_reducible refine (span_any x HOX.out _).mono ?_); rintro e w1 ⟨rfl, c1⟩; have Z5 := Lib.hid (keep_bel (alb w1 (rgc (spF x) (spT x))) (keep_bel c1 (heap_alloc_new wr (MO x)))); have Z6 := Lib.hid (heap_alloc_new w1 (rgc (spF x) (spT x))); have B1 := Lib.hid (bel_alloc (bel_a c1) (rgc (spF x) (spT x))); obtain ⟨s0, s1, s2, s3, s4, s5⟩ := cells6 Z5.out; clear c1))
              | (go_at_call 60; ((with_reducible refine (isp_any x _).mono ?_); rintro e w2 ⟨rfl, c2⟩; rw [hp]; replace Z5 := Lib.hid (keep_bel c2 Z5.out); replace Z6 := Lib.hid (keep_bel c2 Z6.out); have B2 := Lib.hid (bel_trans B1.out c2); clear s0 s1 s2 s3 s4 s5; obtain ⟨s0, s1, s2, s3, s4, s5⟩ := cells6 Z5.out; obtain ⟨t0, t1, -, -⟩ := has_two Z6.out; clear c2))
              | (go_at_call 56; ((with_reducible refine (rightRange_any _ _ _).mono ?_); rintro e w3 ⟨rfl, c3⟩; rw [HE3.out]; replace Z5 := Lib.hid (keep_bel c3 Z5.out); replace Z6 := Lib.hid (keep_bel c3 Z6.out); have B3 := Lib.hid (bel_trans B2.out c3); clear s0 s1 s2 s3 s4 s5 t0 t1; clear c3))
              | fail)
            all_goals go_ret
            all_goals exact ⟨by rw [HR.out, right_no HKL.out (rcI_bad HX.out (by unfold rcX; rw [HE3.out]; simp))]; rfl, bel_trans HB.out B3.out⟩
        · have HXR := Lib.hid (kd_good hcase e3)
          have HKY := Lib.hid (kd_ok HXR.out).2.2
          rcases hcase with hp | ⟨hp, h4⟩
          all_goals
            try (have hb4 : (x.kd != 4) = false := by rw [bne, h4]; rfl)
            try (have h4n : ¬ ¬ x.kd = 4 := fun h => h (by simpa using h4))
            try clear h4
            obtain ⟨b, off, rfl, hlt, g0, g1, g2, g3, g4, g5⟩ := eg_at (HA.out.later HB.out) HX.out
            by_cases hz : k = 0
            · have z1 : ¬ (0 : Int) < (k : Int) := by omega
              have z1n : ¬ (0 < k) := by omega
              have z1d : decide (0 < k) = false := by simpa using z1n
              have z3 : ((k : Int) == 0) = true := by rw [beq_iff_eq]; omega
              have HRI := Lib.hid (show rcI xs k = true by rw [hz, rcI_zero (hz ▸ HX.out)]; exact HXR.out)
              clear hz
              have HE3 := Lib.hid e3
              clear e3 hlt
              go_wp2_with (first
                | (go_at_call 59; ((with_reducible refine (span_any x HOX.out _).mono ?_); rintro e w1 ⟨rfl, c1⟩; have Z5 := Lib.hid (keep_bel (alb w1 (rgc (spF x) (spT x))) (keep_bel c1 (heap_alloc_new wr (MO x)))); have Z6 := Lib.hid (heap_alloc_new w1 (rgc (spF x) (spT x))); have B1 := Lib.hid (bel_alloc (bel_a c1) (rgc (spF x) (spT x))); obtain ⟨s0, s1, s2, s3, s4, s5⟩ := cells6 Z5.out; clear c1))
                | (go_at_call 60; ((with_reducible refine (isp_any x _).mono ?_); rintro e w2 ⟨rfl, c2⟩; rw [hp]; replace Z5 := Lib.hid (keep_bel c2 Z5.out); replace Z6 := Lib.hid (keep_bel c2 Z6.out); have B2 := Lib.hid (bel_trans B1.out c2); clear s0 s1 s2 s3 s4 s5; obtain ⟨s0, s1, s2, s3, s4, s5⟩ := cells6 Z5.out; obtain ⟨t0, t1, -, -⟩ := has_two Z6.out; clear c2))
                | (go_at_call 56; ((with_reducible refine (rightRange_any _ _ _).mono ?_); rintro e w3 ⟨rfl, c3⟩; rw [HE3.out]; replace Z5 := Lib.hid (keep_bel c3 Z5.out); replace Z6 := Lib.hid (keep_bel c3 Z6.out); have B3 := Lib.hid (bel_trans B2.out c3); clear s0 s1 s2 s3 s4 s5 t0 t1; clear c3))
                | fail)
              clear g0 g1 g2 g3 g4 g5
              have S0 := Lib.hid (cells6 Z5.out).1; have S1 := Lib.hid (cells6 Z5.out).2.1; have S2 := Lib.hid (cells6 Z5.out).2.2.1; have S3 := Lib.hid (cells6 Z5.out).2.2.2.1; have S4 := Lib.hid (cells6 Z5.out).2.2.2.2.1; have S5 := Lib.hid (cells6 Z5.out).2.2.2.2.2
              have T1 := Lib.hid (has_two Z6.out).2.1
              refine wp_region_held_drew (S := (fun V : World => Below w3.heap.size w3 V)) (by kernel_rfl) ?_ (fun hHeld => ?_)
              · exact (Below.refl _ _).drew
              have HHeld := Lib.hid hHeld; clear hHeld
              refine wT (i := 0) (oi := { dst := some 29, op := Op.move (Operand.tmp 4), type := 3, pos := "buffer.go:25", after := #[], guard := none }) (v := ?_) rfl (Or.inl ⟨by rfl, ?_⟩) HHeld.out ?_
              rotate_left
              · intro w hSw; clear hSw; go_simp; try with_reducible rfl
              try simp only [pu, pn, s1, s2, s3]
              refine wT (i := 1) (oi := { dst := some 30, op := Op.binOp BinOp.eql 3 (Operand.tmp 29) (Operand.const (Value.int IntKind.i64 0)) 3, type := 4, pos := "buffer.go:25", after := #[{ on := 0, ground := Ground.data }], guard := none }) (v := ?_) rfl (Or.inl ⟨by rfl, ?_⟩) HHeld.out ?_
              rotate_left
              · intro w hSw; clear hSw; go_simp; try with_reducible rfl
              try simp only [pu, pn, s1, s2, s3]
              refine wT (i := 2) (oi := { dst := some 31, op := Op.move (Operand.tmp 30), type := 4, pos := "buffer.go:25", after := #[{ on := 1, ground := Ground.data }], guard := none }) (v := ?_) rfl (Or.inl ⟨by rfl, ?_⟩) HHeld.out ?_
              rotate_left
              · intro w hSw; clear hSw; go_simp; try with_reducible rfl
              try simp only [pu, pn, s1, s2, s3]
              refine wT (i := 3) (oi := { dst := some 32, op := Op.move (Operand.tmp 0), type := 25, pos := "buffer.go:25", after := #[{ on := 2, ground := Ground.guard }], guard := some (2, false) }) (v := undef) rfl (Or.inr ⟨by rfl, rfl⟩) HHeld.out ?_
              try simp only [pu, pn, s1, s2, s3]
              refine wT (i := 4) (oi := { dst := some 33, op := Op.move (Operand.tmp 4), type := 3, pos := "buffer.go:25", after := #[{ on := 2, ground := Ground.guard }], guard := some (2, false) }) (v := undef) rfl (Or.inr ⟨by rfl, rfl⟩) HHeld.out ?_
              try simp only [pu, pn, s1, s2, s3]
              refine wT (i := 5) (oi := { dst := some 34, op := Op.binOp BinOp.sub 3 (Operand.tmp 33) (Operand.const (Value.int IntKind.i64 1)) 3, type := 3, pos := "buffer.go:25", after := #[{ on := 4, ground := Ground.data }, { on := 2, ground := Ground.guard }], guard := some (2, false) }) (v := undef) rfl (Or.inr ⟨by rfl, rfl⟩) HHeld.out ?_
              try simp only [pu, pn, s1, s2, s3]
              refine wT (i := 6) (oi := { dst := some 35, op := Op.indexAddr 25 (Operand.tmp 32) (Operand.tmp 34), type := 0, pos := "buffer.go:25", after := #[{ on := 3, ground := Ground.data }, { on := 5, ground := Ground.data }, { on := 2, ground := Ground.guard }], guard := some (2, false) }) (v := undef) rfl (Or.inr ⟨by rfl, rfl⟩) HHeld.out ?_
              try simp only [pu, pn, s1, s2, s3]
              refine wT (i := 7) (oi := { dst := some 36, op := Op.fieldAddr 50 (Operand.tmp 35) 1, type := 0, pos := "buffer.go:25", after := #[{ on := 6, ground := Ground.data }, { on := 2, ground := Ground.guard }], guard := some (2, false) }) (v := undef) rfl (Or.inr ⟨by rfl, rfl⟩) HHeld.out ?_
              try simp only [pu, pn, s1, s2, s3]
              refine wT (i := 8) (oi := { dst := some 37, op := Op.load 3 (Operand.tmp 36), type := 3, pos := "buffer.go:25", after := #[{ on := 7, ground := Ground.data }, { on := 2, ground := Ground.guard }], guard := some (2, false) }) (v := undef) rfl (Or.inr ⟨by rfl, rfl⟩) HHeld.out ?_
              try simp only [pu, pn, s1, s2, s3]
              refine wT (i := 9) (oi := { dst := some 38, op := Op.fieldAddr 50 (Operand.tmp 5) 1, type := 0, pos := "buffer.go:25", after := #[{ on := 2, ground := Ground.guard }], guard := some (2, false) }) (v := undef) rfl (Or.inr ⟨by rfl, rfl⟩) HHeld.out ?_
              try simp only [pu, pn, s1, s2, s3]
              refine wT (i := 10) (oi := { dst := some 39, op := Op.load 3 (Operand.tmp 38), type := 3, pos := "buffer.go:25", after := #[{ on := 9, ground := Ground.data }, { on := 2, ground := Ground.guard }], guard := some (2, false) }) (v := undef) rfl (Or.inr ⟨by rfl, rfl⟩) HHeld.out ?_
              try simp only [pu, pn, s1, s2, s3]
              refine wT (i := 11) (oi := { dst := some 40, op := Op.binOp BinOp.neq 3 (Operand.tmp 37) (Operand.tmp 39) 3, type := 4, pos := "buffer.go:25", after := #[{ on := 8, ground := Ground.data }, { on := 10, ground := Ground.data }, { on := 2, ground := Ground.guard }], guard := some (2, false) }) (v := undef) rfl (Or.inr ⟨by rfl, rfl⟩) HHeld.out ?_
              try simp only [pu, pn, s1, s2, s3]
              refine wT (i := 12) (oi := { dst := some 41, op := Op.pick (Operand.tmp 31) (Operand.const (Value.bool true)) (Operand.tmp 40), type := 4, pos := "buffer.go:25", after := #[{ on := 2, ground := Ground.data }, { on := 11, ground := Ground.data }], guard := none }) (v := ?_) rfl (Or.inl ⟨by rfl, ?_⟩) HHeld.out ?_
              rotate_left
              · intro w hSw; clear hSw; go_simp; try with_reducible rfl
              try simp only [pu, pn, s1, s2, s3]
              refine wpAnyH_done (by kernel_rfl) ?_ _
              have CD := Lib.hid HHeld.out
              clear HHeld
              refine at_exit (fun W8 hW8 => ?_)
              have B8 := Lib.hid (show Below w3.heap.size w3 W8 by rw [hW8]; exact CD.out)
              clear hW8
              have y1 := bel_later B8.out T1.out
              go_wp2_with fail
              have B9 := Lib.hid B8.out
              refine wp_region_held_drew (S := (fun V : World => Below w3.heap.size w3 V)) (by kernel_rfl) ?_ (fun hHeld => ?_)
              · exact B9.out.drew
              have HHeld := Lib.hid hHeld; clear hHeld
              refine wT (i := 0) (oi := { dst := some 49, op := Op.move (Operand.tmp 4), type := 3, pos := "buffer.go:30", after := #[], guard := none }) (v := ?_) rfl (Or.inl ⟨by rfl, ?_⟩) HHeld.out ?_
              rotate_left
              · intro w hSw; clear hSw; go_simp; try with_reducible rfl
              try simp only [pu, pn, s1, s2, s3]
              refine wT (i := 1) (oi := { dst := some 50, op := Op.binOp BinOp.gtr 3 (Operand.tmp 49) (Operand.const (Value.int IntKind.i64 0)) 3, type := 4, pos := "buffer.go:30", after := #[{ on := 0, ground := Ground.data }], guard := none }) (v := ?_) rfl (Or.inl ⟨by rfl, ?_⟩) HHeld.out ?_
              rotate_left
              · intro w hSw; clear hSw; go_simp; try with_reducible rfl
              try simp only [pu, pn, s1, s2, s3]
              refine wT (i := 2) (oi := { dst := some 51, op := Op.move (Operand.tmp 50), type := 4, pos := "buffer.go:30", after := #[{ on := 1, ground := Ground.data }], guard := none }) (v := ?_) rfl (Or.inl ⟨by rfl, ?_⟩) HHeld.out ?_
              rotate_left
              · intro w hSw; clear hSw; go_simp; try with_reducible rfl
              try simp only [pu, pn, s1, s2, s3]
              refine wT (i := 3) (oi := { dst := some 52, op := Op.move (Operand.tmp 0), type := 25, pos := "buffer.go:30", after := #[{ on := 2, ground := Ground.guard }], guard := some (2, true) }) (v := undef) rfl (Or.inr ⟨by rfl, rfl⟩) HHeld.out ?_
              try simp only [pu, pn, s1, s2, s3]
              refine wT (i := 4) (oi := { dst := some 53, op := Op.move (Operand.tmp 4), type := 3, pos := "buffer.go:30", after := #[{ on := 2, ground := Ground.guard }], guard := some (2, true) }) (v := undef) rfl (Or.inr ⟨by rfl, rfl⟩) HHeld.out ?_
              try simp only [pu, pn, s1, s2, s3]
              refine wT (i := 5) (oi := { dst := some 54, op := Op.binOp BinOp.sub 3 (Operand.tmp 53) (Operand.const (Value.int IntKind.i64 1)) 3, type := 3, pos := "buffer.go:30", after := #[{ on := 4, ground := Ground.data }, { on := 2, ground := Ground.guard }], guard := some (2, true) }) (v := undef) rfl (Or.inr ⟨by rfl, rfl⟩) HHeld.out ?_
              try simp only [pu, pn, s1, s2, s3]
              refine wT (i := 6) (oi := { dst := some 55, op := Op.indexAddr 25 (Operand.tmp 52) (Operand.tmp 54), type := 0, pos := "buffer.go:30", after := #[{ on := 3, ground := Ground.data }, { on := 5, ground := Ground.data }, { on := 2, ground := Ground.guard }], guard := some (2, true) }) (v := undef) rfl (Or.inr ⟨by rfl, rfl⟩) HHeld.out ?_
              try simp only [pu, pn, s1, s2, s3]
              refine wT (i := 7) (oi := { dst := some 56, op := Op.load 50 (Operand.tmp 55), type := 50, pos := "buffer.go:30", after := #[{ on := 6, ground := Ground.data }, { on := 2, ground := Ground.guard }], guard := some (2, true) }) (v := undef) rfl (Or.inr ⟨by rfl, rfl⟩) HHeld.out ?_
              try simp only [pu, pn, s1, s2, s3]
              refine wT (i := 8) (oi := { dst := some 57, op := Op.load 50 (Operand.tmp 5), type := 50, pos := "buffer.go:30", after := #[{ on := 2, ground := Ground.guard }], guard := some (2, true) }) (v := undef) rfl (Or.inr ⟨by rfl, rfl⟩) HHeld.out ?_
              try simp only [pu, pn, s1, s2, s3]
              refine wT (i := 9) (oi := { dst := some 58, op := Op.call { callee := Callee.value (Operand.func 61), args := #[Operand.tmp 56, Operand.tmp 57], argTypes := #[50, 50] }, type := 3, pos := "buffer.go:30", after := #[{ on := 7, ground := Ground.data }, { on := 8, ground := Ground.data }, { on := 2, ground := Ground.chain }, { on := 2, ground := Ground.guard }], guard := some (2, true) }) (v := undef) rfl (Or.inr ⟨by rfl, rfl⟩) HHeld.out ?_
              try simp only [pu, pn, s1, s2, s3]
              refine wT (i := 10) (oi := { dst := some 59, op := Op.binOp BinOp.gtr 3 (Operand.tmp 58) (Operand.const (Value.int IntKind.i64 0)) 3, type := 4, pos := "buffer.go:30", after := #[{ on := 9, ground := Ground.data }, { on := 2, ground := Ground.guard }], guard := some (2, true) }) (v := undef) rfl (Or.inr ⟨by rfl, rfl⟩) HHeld.out ?_
              try simp only [pu, pn, s1, s2, s3]
              refine wT (i := 11) (oi := { dst := some 60, op := Op.pick (Operand.tmp 51) (Operand.tmp 59) (Operand.const (Value.bool false)), type := 4, pos := "buffer.go:30", after := #[{ on := 2, ground := Ground.data }, { on := 10, ground := Ground.data }], guard := none }) (v := ?_) rfl (Or.inl ⟨by rfl, ?_⟩) HHeld.out ?_
              rotate_left
              · intro w hSw; clear hSw; go_simp; try with_reducible rfl
              try simp only [pu, pn, s1, s2, s3]
              refine wpAnyH_done (by kernel_rfl) ?_ _
              have CE := Lib.hid HHeld.out
              clear HHeld y1
              refine at_exit (fun W12 hW12 => ?_)
              have B12 := Lib.hid (show Below w3.heap.size w3 W12 by rw [hW12]; exact CE.out)
              clear hW12
              have y1 := bel_later B12.out T1.out
              go_wp2_with (first
                | (go_at_call 62; ((with_reducible refine (last_any _ _ _).mono ?_); rintro e w6 ⟨rfl, rfl⟩))
                | fail)
              exact ⟨⟨k + 1, _, by omega, by simp, rfl, Lib.hid (next_ok HI.out (HRI.out)), Lib.hid (fun j' p' hj' hp' => by
                have hj2 : j' = k := by omega
                rw [hj2, HX.out] at hp'
                injection hp' with hp'
                rw [← hp']
                exact last_same _), bel_trans HB.out (bel_trans B3.out B12.out)⟩, by simp [intOf]; omega⟩
            · obtain ⟨j, hj⟩ : ∃ j, k = j + 1 := ⟨k - 1, by omega⟩
              subst hj
              clear hz
              obtain ⟨p, hp'⟩ : ∃ p, xs[j]? = some p := ⟨_, List.getElem?_eq_getElem (by rw [HL.out]; omega)⟩
              obtain ⟨b', off', hbb, hlt', p0, p1, p2, p3, p4, p5⟩ := eg_at (HA.out.later HB.out) hp'
              injection hbb with hbb; injection hbb with hb1 hb2 hb3; subst hb1; subst hb2
              have z1 : (0 : Int) < ((j + 1 : Nat) : Int) := by omega
              have z3 : (((j + 1 : Nat) : Int) == 0) = false := by rw [beq_eq_false_iff_ne]; omega
              have z4 : (((j : Nat) : Int) + 1 == 0) = false := by rw [beq_eq_false_iff_ne]; omega
              have jn : j < n := by omega
              have jz : (j : Int) < (n : Int) := by omega
              have jw : IntKind.i64.wrap (j : Int) = (j : Int) := IntWalk.i64_in _ (by omega)
              have HRI := Lib.hid (rcI_succ hp' HX.out)
              rw [HXR.out, Bool.true_and] at HRI
              have HPR : Hid (rcX p = true) := Lib.hid (by have q := HI.out j (by omega); unfold rcI at q; rw [hp'] at q; simp only [Bool.and_eq_true] at q; exact q.1)
              have HEN := Lib.hid (HE.out j p rfl hp')
              have HOP := Lib.hid (HO.out.get hp')
              have P0 := Lib.hid p0; have P1 := Lib.hid p1; have P2 := Lib.hid p2; have P3 := Lib.hid p3; have P4 := Lib.hid p4; have P5 := Lib.hid p5
              clear p0 p1 p2 p3 p4 p5 hp' hlt'
              have HE3 := Lib.hid e3
              clear e3 hlt
              go_wp2_with (first
                | (go_at_call 59; ((with_reducible refine (span_any x HOX.out _).mono ?_); rintro e w1 ⟨rfl, c1⟩; have Z5 := Lib.hid (keep_bel (alb w1 (rgc (spF x) (spT x))) (keep_bel c1 (heap_alloc_new wr (MO x)))); have Z6 := Lib.hid (heap_alloc_new w1 (rgc (spF x) (spT x))); have B1 := Lib.hid (bel_alloc (bel_a c1) (rgc (spF x) (spT x))); obtain ⟨s0, s1, s2, s3, s4, s5⟩ := cells6 Z5.out; clear c1))
                | (go_at_call 60; ((with_reducible refine (isp_any x _).mono ?_); rintro e w2 ⟨rfl, c2⟩; rw [hp]; replace Z5 := Lib.hid (keep_bel c2 Z5.out); replace Z6 := Lib.hid (keep_bel c2 Z6.out); have B2 := Lib.hid (bel_trans B1.out c2); clear s0 s1 s2 s3 s4 s5; obtain ⟨s0, s1, s2, s3, s4, s5⟩ := cells6 Z5.out; obtain ⟨t0, t1, -, -⟩ := has_two Z6.out; clear c2))
                | (go_at_call 56; ((with_reducible refine (rightRange_any _ _ _).mono ?_); rintro e w3 ⟨rfl, c3⟩; rw [HE3.out]; replace Z5 := Lib.hid (keep_bel c3 Z5.out); replace Z6 := Lib.hid (keep_bel c3 Z6.out); have B3 := Lib.hid (bel_trans B2.out c3); clear s0 s1 s2 s3 s4 s5 t0 t1; clear c3))
                | fail)
              clear g0 g1 g2 g3 g4 g5
              have S0 := Lib.hid (cells6 Z5.out).1; have S1 := Lib.hid (cells6 Z5.out).2.1; have S2 := Lib.hid (cells6 Z5.out).2.2.1; have S3 := Lib.hid (cells6 Z5.out).2.2.2.1; have S4 := Lib.hid (cells6 Z5.out).2.2.2.2.1; have S5 := Lib.hid (cells6 Z5.out).2.2.2.2.2
              have T1 := Lib.hid (has_two Z6.out).2.1
              replace P0 := Lib.hid (bel_later B3.out P0.out); replace P1 := Lib.hid (bel_later B3.out P1.out); replace P2 := Lib.hid (bel_later B3.out P2.out); replace P3 := Lib.hid (bel_later B3.out P3.out); replace P4 := Lib.hid (bel_later B3.out P4.out); replace P5 := Lib.hid (bel_later B3.out P5.out)
              cases es : (p.sq == x.sq)
              · refine wp_region_held_drew (S := (fun V : World => Below w3.heap.size w3 V)) (by kernel_rfl) ?_ (fun hHeld => ?_)
                · exact (Below.refl _ _).drew
                have HHeld := Lib.hid hHeld; clear hHeld
                refine wT (i := 0) (oi := { dst := some 29, op := Op.move (Operand.tmp 4), type := 3, pos := "buffer.go:25", after := #[], guard := none }) (v := ?_) rfl (Or.inl ⟨by rfl, ?_⟩) HHeld.out ?_
                rotate_left
                · intro w hSw; clear hSw; go_simp; try with_reducible rfl
                try simp only [pu, pn, s1, s2, s3]
                refine wT (i := 1) (oi := { dst := some 30, op := Op.binOp BinOp.eql 3 (Operand.tmp 29) (Operand.const (Value.int IntKind.i64 0)) 3, type := 4, pos := "buffer.go:25", after := #[{ on := 0, ground := Ground.data }], guard := none }) (v := ?_) rfl (Or.inl ⟨by rfl, ?_⟩) HHeld.out ?_
                rotate_left
                · intro w hSw; clear hSw; go_simp; try with_reducible rfl
                try simp only [pu, pn, s1, s2, s3]
                refine wT (i := 2) (oi := { dst := some 31, op := Op.move (Operand.tmp 30), type := 4, pos := "buffer.go:25", after := #[{ on := 1, ground := Ground.data }], guard := none }) (v := ?_) rfl (Or.inl ⟨by rfl, ?_⟩) HHeld.out ?_
                rotate_left
                · intro w hSw; clear hSw; go_simp; try with_reducible rfl
                try simp only [pu, pn, s1, s2, s3]
                refine wT (i := 3) (oi := { dst := some 32, op := Op.move (Operand.tmp 0), type := 25, pos := "buffer.go:25", after := #[{ on := 2, ground := Ground.guard }], guard := some (2, false) }) (v := ?_) rfl (Or.inl ⟨by rfl, ?_⟩) HHeld.out ?_
                rotate_left
                · intro w hSw; clear hSw; go_simp; try with_reducible rfl
                try simp only [pu, pn, s1, s2, s3]
                refine wT (i := 4) (oi := { dst := some 33, op := Op.move (Operand.tmp 4), type := 3, pos := "buffer.go:25", after := #[{ on := 2, ground := Ground.guard }], guard := some (2, false) }) (v := ?_) rfl (Or.inl ⟨by rfl, ?_⟩) HHeld.out ?_
                rotate_left
                · intro w hSw; clear hSw; go_simp; try with_reducible rfl
                try simp only [pu, pn, s1, s2, s3]
                refine wT (i := 5) (oi := { dst := some 34, op := Op.binOp BinOp.sub 3 (Operand.tmp 33) (Operand.const (Value.int IntKind.i64 1)) 3, type := 3, pos := "buffer.go:25", after := #[{ on := 4, ground := Ground.data }, { on := 2, ground := Ground.guard }], guard := some (2, false) }) (v := ?_) rfl (Or.inl ⟨by rfl, ?_⟩) HHeld.out ?_
                rotate_left
                · intro w hSw; clear hSw; go_simp; try with_reducible rfl
                try simp only [pu, pn, s1, s2, s3]
                refine wT (i := 6) (oi := { dst := some 35, op := Op.indexAddr 25 (Operand.tmp 32) (Operand.tmp 34), type := 0, pos := "buffer.go:25", after := #[{ on := 3, ground := Ground.data }, { on := 5, ground := Ground.data }, { on := 2, ground := Ground.guard }], guard := some (2, false) }) (v := ?_) rfl (Or.inl ⟨by rfl, ?_⟩) HHeld.out ?_
                rotate_left
                · intro w hSw; clear hSw; go_simp; try with_reducible rfl
                try simp only [pu, pn, s1, s2, s3]
                refine wT (i := 7) (oi := { dst := some 36, op := Op.fieldAddr 50 (Operand.tmp 35) 1, type := 0, pos := "buffer.go:25", after := #[{ on := 6, ground := Ground.data }, { on := 2, ground := Ground.guard }], guard := some (2, false) }) (v := ?_) rfl (Or.inl ⟨by rfl, ?_⟩) HHeld.out ?_
                rotate_left
                · intro w hSw; clear hSw; go_simp; try with_reducible rfl
                try simp only [pu, pn, s1, s2, s3]
                refine wT (i := 8) (oi := { dst := some 37, op := Op.load 3 (Operand.tmp 36), type := 3, pos := "buffer.go:25", after := #[{ on := 7, ground := Ground.data }, { on := 2, ground := Ground.guard }], guard := some (2, false) }) (v := (.int .i64 p.sq : Value)) rfl (Or.inl ⟨by rfl, ?_⟩) HHeld.out ?_
                · intro V hV; have hc0 := bel_later hV P1.out; clear hV; go_simp
                try simp only [pu, pn, s1, s2, s3]
                refine wT (i := 9) (oi := { dst := some 38, op := Op.fieldAddr 50 (Operand.tmp 5) 1, type := 0, pos := "buffer.go:25", after := #[{ on := 2, ground := Ground.guard }], guard := some (2, false) }) (v := ?_) rfl (Or.inl ⟨by rfl, ?_⟩) HHeld.out ?_
                rotate_left
                · intro w hSw; clear hSw; go_simp; try with_reducible rfl
                try simp only [pu, pn, s1, s2, s3]
                refine wT (i := 10) (oi := { dst := some 39, op := Op.load 3 (Operand.tmp 38), type := 3, pos := "buffer.go:25", after := #[{ on := 9, ground := Ground.data }, { on := 2, ground := Ground.guard }], guard := some (2, false) }) (v := (.int .i64 x.sq : Value)) rfl (Or.inl ⟨by rfl, ?_⟩) HHeld.out ?_
                · intro V hV; have hc0 := bel_later hV S1.out; clear hV; go_simp
                try simp only [pu, pn, s1, s2, s3]
                refine wT (i := 11) (oi := { dst := some 40, op := Op.binOp BinOp.neq 3 (Operand.tmp 37) (Operand.tmp 39) 3, type := 4, pos := "buffer.go:25", after := #[{ on := 8, ground := Ground.data }, { on := 10, ground := Ground.data }, { on := 2, ground := Ground.guard }], guard := some (2, false) }) (v := ?_) rfl (Or.inl ⟨by rfl, ?_⟩) HHeld.out ?_
                rotate_left
                · intro w hSw; clear hSw; go_simp; try with_reducible rfl
                try simp only [pu, pn, s1, s2, s3]
                refine wT (i := 12) (oi := { dst := some 41, op := Op.pick (Operand.tmp 31) (Operand.const (Value.bool true)) (Operand.tmp 40), type := 4, pos := "buffer.go:25", after := #[{ on := 2, ground := Ground.data }, { on := 11, ground := Ground.data }], guard := none }) (v := ?_) rfl (Or.inl ⟨by rfl, ?_⟩) HHeld.out ?_
                rotate_left
                · intro w hSw; clear hSw; go_simp; try with_reducible rfl
                try simp only [pu, pn, s1, s2, s3]
                refine wpAnyH_done (by kernel_rfl) ?_ _
                have CD := Lib.hid HHeld.out
                clear HHeld
                refine at_exit (fun W8 hW8 => ?_)
                have B8 := Lib.hid (show Below w3.heap.size w3 W8 by rw [hW8]; exact CD.out)
                clear hW8
                have y1 := bel_later B8.out T1.out
                go_wp2_with fail
                have B9 := Lib.hid B8.out
                clear y1
                have HPP := Lib.hid (rcP_ne es)
                obtain ⟨o, ho⟩ : ∃ o, o = ordM p x := ⟨_, rfl⟩
                rw [← ho] at HPP
                have AO := Lib.hid (order_any p x)
                rw [← ho] at AO
                clear ho
                by_cases hgt : 0 < o
                · refine wp_region_held_drew (S := (fun V : World => Below w3.heap.size w3 V)) (by kernel_rfl) ?_ (fun hHeld => ?_)
                  · exact B9.out.drew
                  have HHeld := Lib.hid hHeld; clear hHeld
                  refine wT (i := 0) (oi := { dst := some 49, op := Op.move (Operand.tmp 4), type := 3, pos := "buffer.go:30", after := #[], guard := none }) (v := ?_) rfl (Or.inl ⟨by rfl, ?_⟩) HHeld.out ?_
                  rotate_left
                  · intro w hSw; clear hSw; go_simp; try with_reducible rfl
                  try simp only [pu, pn, s1, s2, s3]
                  refine wT (i := 1) (oi := { dst := some 50, op := Op.binOp BinOp.gtr 3 (Operand.tmp 49) (Operand.const (Value.int IntKind.i64 0)) 3, type := 4, pos := "buffer.go:30", after := #[{ on := 0, ground := Ground.data }], guard := none }) (v := ?_) rfl (Or.inl ⟨by rfl, ?_⟩) HHeld.out ?_
                  rotate_left
                  · intro w hSw; clear hSw; go_simp; try with_reducible rfl
                  try simp only [pu, pn, s1, s2, s3]
                  refine wT (i := 2) (oi := { dst := some 51, op := Op.move (Operand.tmp 50), type := 4, pos := "buffer.go:30", after := #[{ on := 1, ground := Ground.data }], guard := none }) (v := ?_) rfl (Or.inl ⟨by rfl, ?_⟩) HHeld.out ?_
                  rotate_left
                  · intro w hSw; clear hSw; go_simp; try with_reducible rfl
                  try simp only [pu, pn, s1, s2, s3]
                  refine wT (i := 3) (oi := { dst := some 52, op := Op.move (Operand.tmp 0), type := 25, pos := "buffer.go:30", after := #[{ on := 2, ground := Ground.guard }], guard := some (2, true) }) (v := ?_) rfl (Or.inl ⟨by rfl, ?_⟩) HHeld.out ?_
                  rotate_left
                  · intro w hSw; clear hSw; go_simp; try with_reducible rfl
                  try simp only [pu, pn, s1, s2, s3]
                  refine wT (i := 4) (oi := { dst := some 53, op := Op.move (Operand.tmp 4), type := 3, pos := "buffer.go:30", after := #[{ on := 2, ground := Ground.guard }], guard := some (2, true) }) (v := ?_) rfl (Or.inl ⟨by rfl, ?_⟩) HHeld.out ?_
                  rotate_left
                  · intro w hSw; clear hSw; go_simp; try with_reducible rfl
                  try simp only [pu, pn, s1, s2, s3]
                  refine wT (i := 5) (oi := { dst := some 54, op := Op.binOp BinOp.sub 3 (Operand.tmp 53) (Operand.const (Value.int IntKind.i64 1)) 3, type := 3, pos := "buffer.go:30", after := #[{ on := 4, ground := Ground.data }, { on := 2, ground := Ground.guard }], guard := some (2, true) }) (v := ?_) rfl (Or.inl ⟨by rfl, ?_⟩) HHeld.out ?_
                  rotate_left
                  · intro w hSw; clear hSw; go_simp; try with_reducible rfl
                  try simp only [pu, pn, s1, s2, s3]
                  refine wT (i := 6) (oi := { dst := some 55, op := Op.indexAddr 25 (Operand.tmp 52) (Operand.tmp 54), type := 0, pos := "buffer.go:30", after := #[{ on := 3, ground := Ground.data }, { on := 5, ground := Ground.data }, { on := 2, ground := Ground.guard }], guard := some (2, true) }) (v := ?_) rfl (Or.inl ⟨by rfl, ?_⟩) HHeld.out ?_
                  rotate_left
                  · intro w hSw; clear hSw; go_simp; try with_reducible rfl
                  try simp only [pu, pn, s1, s2, s3]
                  refine wT (i := 7) (oi := { dst := some 56, op := Op.load 50 (Operand.tmp 55), type := 50, pos := "buffer.go:30", after := #[{ on := 6, ground := Ground.data }, { on := 2, ground := Ground.guard }], guard := some (2, true) }) (v := (.agg #[.int .u8 p.kd, .int .i64 p.sq, .string p.ky, .string p.to, .string p.vl, .int .u64 p.dl] : Value)) rfl (Or.inl ⟨by rfl, ?_⟩) HHeld.out ?_
                  · intro V hV; have hc0 := bel_later hV P0.out; have hc1 := bel_later hV P1.out; have hc2 := bel_later hV P2.out; have hc3 := bel_later hV P3.out; have hc4 := bel_later hV P4.out; have hc5 := bel_later hV P5.out; clear hV; go_simp
                  try simp only [pu, pn, s1, s2, s3]
                  refine wT (i := 8) (oi := { dst := some 57, op := Op.load 50 (Operand.tmp 5), type := 50, pos := "buffer.go:30", after := #[{ on := 2, ground := Ground.guard }], guard := some (2, true) }) (v := (.agg #[.int .u8 x.kd, .int .i64 x.sq, .string x.ky, .string x.to, .string x.vl, .int .u64 x.dl] : Value)) rfl (Or.inl ⟨by rfl, ?_⟩) HHeld.out ?_
                  · intro V hV; have hc0 := bel_later hV S0.out; have hc1 := bel_later hV S1.out; have hc2 := bel_later hV S2.out; have hc3 := bel_later hV S3.out; have hc4 := bel_later hV S4.out; have hc5 := bel_later hV S5.out; clear hV; go_simp
                  try simp only [pu, pn, s1, s2, s3]
                  refine wpAnyH_ready (rs := [9]) (by kernel_rfl) (by simp) ?_
                  refine AllReadyH.cons (o := { dst := some 58, op := Op.call { callee := Callee.value (Operand.func 61), args := #[Operand.tmp 56, Operand.tmp 57], argTypes := #[50, 50] }, type := 3, pos := "buffer.go:30", after := #[{ on := 7, ground := Ground.data }, { on := 8, ground := Ground.data }, { on := 2, ground := Ground.chain }, { on := 2, ground := Ground.guard }], guard := some (2, true) }) rfl (fun K hK => ?_) AllReadyH.nil
                  go_simp
                  go_at_call 61; (refine (AO.out _).mono ?_); rintro e w5 ⟨rfl, c5⟩; have C5 := Lib.hid (bel_trans HHeld.out c5); clear c5
                  refine hK.out _ _ ?_ (fun hHeld => ?_)
                  · exact C5.out
                  clear HHeld; have HHeld := Lib.hid hHeld; clear hHeld
                  clear hK K
                  try simp only [pu, pn, s1, s2, s3]
                  refine wT (i := 10) (oi := { dst := some 59, op := Op.binOp BinOp.gtr 3 (Operand.tmp 58) (Operand.const (Value.int IntKind.i64 0)) 3, type := 4, pos := "buffer.go:30", after := #[{ on := 9, ground := Ground.data }, { on := 2, ground := Ground.guard }], guard := some (2, true) }) (v := ?_) rfl (Or.inl ⟨by rfl, ?_⟩) HHeld.out ?_
                  rotate_left
                  · intro w hSw; clear hSw; go_simp; try with_reducible rfl
                  try simp only [pu, pn, s1, s2, s3]
                  refine wT (i := 11) (oi := { dst := some 60, op := Op.pick (Operand.tmp 51) (Operand.tmp 59) (Operand.const (Value.bool false)), type := 4, pos := "buffer.go:30", after := #[{ on := 2, ground := Ground.data }, { on := 10, ground := Ground.data }], guard := none }) (v := ?_) rfl (Or.inl ⟨by rfl, ?_⟩) HHeld.out ?_
                  rotate_left
                  · intro w hSw; clear hSw; go_simp; try with_reducible rfl
                  try simp only [pu, pn, s1, s2, s3]
                  refine wpAnyH_done (by kernel_rfl) ?_ _
                  have CE := Lib.hid HHeld.out
                  clear HHeld
                  go_wp2
                  go_ret
                  exact ⟨by rw [HR.out, right_no HKL.out (by rw [HRI.out, HPP.out]; simp [hgt])]; rfl, bel_trans HB.out (bel_trans B3.out CE.out)⟩
                · refine wp_region_held_drew (S := (fun V : World => Below w3.heap.size w3 V)) (by kernel_rfl) ?_ (fun hHeld => ?_)
                  · exact B9.out.drew
                  have HHeld := Lib.hid hHeld; clear hHeld
                  refine wT (i := 0) (oi := { dst := some 49, op := Op.move (Operand.tmp 4), type := 3, pos := "buffer.go:30", after := #[], guard := none }) (v := ?_) rfl (Or.inl ⟨by rfl, ?_⟩) HHeld.out ?_
                  rotate_left
                  · intro w hSw; clear hSw; go_simp; try with_reducible rfl
                  try simp only [pu, pn, s1, s2, s3]
                  refine wT (i := 1) (oi := { dst := some 50, op := Op.binOp BinOp.gtr 3 (Operand.tmp 49) (Operand.const (Value.int IntKind.i64 0)) 3, type := 4, pos := "buffer.go:30", after := #[{ on := 0, ground := Ground.data }], guard := none }) (v := ?_) rfl (Or.inl ⟨by rfl, ?_⟩) HHeld.out ?_
                  rotate_left
                  · intro w hSw; clear hSw; go_simp; try with_reducible rfl
                  try simp only [pu, pn, s1, s2, s3]
                  refine wT (i := 2) (oi := { dst := some 51, op := Op.move (Operand.tmp 50), type := 4, pos := "buffer.go:30", after := #[{ on := 1, ground := Ground.data }], guard := none }) (v := ?_) rfl (Or.inl ⟨by rfl, ?_⟩) HHeld.out ?_
                  rotate_left
                  · intro w hSw; clear hSw; go_simp; try with_reducible rfl
                  try simp only [pu, pn, s1, s2, s3]
                  refine wT (i := 3) (oi := { dst := some 52, op := Op.move (Operand.tmp 0), type := 25, pos := "buffer.go:30", after := #[{ on := 2, ground := Ground.guard }], guard := some (2, true) }) (v := ?_) rfl (Or.inl ⟨by rfl, ?_⟩) HHeld.out ?_
                  rotate_left
                  · intro w hSw; clear hSw; go_simp; try with_reducible rfl
                  try simp only [pu, pn, s1, s2, s3]
                  refine wT (i := 4) (oi := { dst := some 53, op := Op.move (Operand.tmp 4), type := 3, pos := "buffer.go:30", after := #[{ on := 2, ground := Ground.guard }], guard := some (2, true) }) (v := ?_) rfl (Or.inl ⟨by rfl, ?_⟩) HHeld.out ?_
                  rotate_left
                  · intro w hSw; clear hSw; go_simp; try with_reducible rfl
                  try simp only [pu, pn, s1, s2, s3]
                  refine wT (i := 5) (oi := { dst := some 54, op := Op.binOp BinOp.sub 3 (Operand.tmp 53) (Operand.const (Value.int IntKind.i64 1)) 3, type := 3, pos := "buffer.go:30", after := #[{ on := 4, ground := Ground.data }, { on := 2, ground := Ground.guard }], guard := some (2, true) }) (v := ?_) rfl (Or.inl ⟨by rfl, ?_⟩) HHeld.out ?_
                  rotate_left
                  · intro w hSw; clear hSw; go_simp; try with_reducible rfl
                  try simp only [pu, pn, s1, s2, s3]
                  refine wT (i := 6) (oi := { dst := some 55, op := Op.indexAddr 25 (Operand.tmp 52) (Operand.tmp 54), type := 0, pos := "buffer.go:30", after := #[{ on := 3, ground := Ground.data }, { on := 5, ground := Ground.data }, { on := 2, ground := Ground.guard }], guard := some (2, true) }) (v := ?_) rfl (Or.inl ⟨by rfl, ?_⟩) HHeld.out ?_
                  rotate_left
                  · intro w hSw; clear hSw; go_simp; try with_reducible rfl
                  try simp only [pu, pn, s1, s2, s3]
                  refine wT (i := 7) (oi := { dst := some 56, op := Op.load 50 (Operand.tmp 55), type := 50, pos := "buffer.go:30", after := #[{ on := 6, ground := Ground.data }, { on := 2, ground := Ground.guard }], guard := some (2, true) }) (v := (.agg #[.int .u8 p.kd, .int .i64 p.sq, .string p.ky, .string p.to, .string p.vl, .int .u64 p.dl] : Value)) rfl (Or.inl ⟨by rfl, ?_⟩) HHeld.out ?_
                  · intro V hV; have hc0 := bel_later hV P0.out; have hc1 := bel_later hV P1.out; have hc2 := bel_later hV P2.out; have hc3 := bel_later hV P3.out; have hc4 := bel_later hV P4.out; have hc5 := bel_later hV P5.out; clear hV; go_simp
                  try simp only [pu, pn, s1, s2, s3]
                  refine wT (i := 8) (oi := { dst := some 57, op := Op.load 50 (Operand.tmp 5), type := 50, pos := "buffer.go:30", after := #[{ on := 2, ground := Ground.guard }], guard := some (2, true) }) (v := (.agg #[.int .u8 x.kd, .int .i64 x.sq, .string x.ky, .string x.to, .string x.vl, .int .u64 x.dl] : Value)) rfl (Or.inl ⟨by rfl, ?_⟩) HHeld.out ?_
                  · intro V hV; have hc0 := bel_later hV S0.out; have hc1 := bel_later hV S1.out; have hc2 := bel_later hV S2.out; have hc3 := bel_later hV S3.out; have hc4 := bel_later hV S4.out; have hc5 := bel_later hV S5.out; clear hV; go_simp
                  try simp only [pu, pn, s1, s2, s3]
                  refine wpAnyH_ready (rs := [9]) (by kernel_rfl) (by simp) ?_
                  refine AllReadyH.cons (o := { dst := some 58, op := Op.call { callee := Callee.value (Operand.func 61), args := #[Operand.tmp 56, Operand.tmp 57], argTypes := #[50, 50] }, type := 3, pos := "buffer.go:30", after := #[{ on := 7, ground := Ground.data }, { on := 8, ground := Ground.data }, { on := 2, ground := Ground.chain }, { on := 2, ground := Ground.guard }], guard := some (2, true) }) rfl (fun K hK => ?_) AllReadyH.nil
                  go_simp
                  go_at_call 61; (refine (AO.out _).mono ?_); rintro e w5 ⟨rfl, c5⟩; have C5 := Lib.hid (bel_trans HHeld.out c5); clear c5
                  refine hK.out _ _ ?_ (fun hHeld => ?_)
                  · exact C5.out
                  clear HHeld; have HHeld := Lib.hid hHeld; clear hHeld
                  clear hK K
                  try simp only [pu, pn, s1, s2, s3]
                  refine wT (i := 10) (oi := { dst := some 59, op := Op.binOp BinOp.gtr 3 (Operand.tmp 58) (Operand.const (Value.int IntKind.i64 0)) 3, type := 4, pos := "buffer.go:30", after := #[{ on := 9, ground := Ground.data }, { on := 2, ground := Ground.guard }], guard := some (2, true) }) (v := ?_) rfl (Or.inl ⟨by rfl, ?_⟩) HHeld.out ?_
                  rotate_left
                  · intro w hSw; clear hSw; go_simp; try with_reducible rfl
                  try simp only [pu, pn, s1, s2, s3]
                  refine wT (i := 11) (oi := { dst := some 60, op := Op.pick (Operand.tmp 51) (Operand.tmp 59) (Operand.const (Value.bool false)), type := 4, pos := "buffer.go:30", after := #[{ on := 2, ground := Ground.data }, { on := 10, ground := Ground.data }], guard := none }) (v := ?_) rfl (Or.inl ⟨by rfl, ?_⟩) HHeld.out ?_
                  rotate_left
                  · intro w hSw; clear hSw; go_simp; try with_reducible rfl
                  try simp only [pu, pn, s1, s2, s3]
                  refine wpAnyH_done (by kernel_rfl) ?_ _
                  have CE := Lib.hid HHeld.out
                  clear HHeld
                  have HOKK := Lib.hid (show rcI xs (j + 1) = true by rw [HRI.out, HPP.out]; simp [hgt])
                  refine at_exit (fun W12 hW12 => ?_)
                  have B12 := Lib.hid (show Below w3.heap.size w3 W12 by rw [hW12]; exact CE.out)
                  clear hW12
                  have y1 := bel_later B12.out T1.out
                  go_wp2_with (first
                    | (go_at_call 62; ((with_reducible refine (last_any _ _ _).mono ?_); rintro e w6 ⟨rfl, rfl⟩))
                    | fail)
                  exact ⟨⟨j + 1 + 1, _, by omega, by simp, rfl, Lib.hid (next_ok HI.out (HOKK.out)), Lib.hid (fun j' p' hj' hp' => by
                    have hj2 : j' = j + 1 := by omega
                    rw [hj2, HX.out] at hp'
                    injection hp' with hp'
                    rw [← hp']
                    exact last_same _), bel_trans HB.out (bel_trans B3.out B12.out)⟩, by simp [intOf]; omega⟩
              · refine wp_region_held_drew (S := (fun V : World => Below w3.heap.size w3 V)) (by kernel_rfl) ?_ (fun hHeld => ?_)
                · exact (Below.refl _ _).drew
                have HHeld := Lib.hid hHeld; clear hHeld
                refine wT (i := 0) (oi := { dst := some 29, op := Op.move (Operand.tmp 4), type := 3, pos := "buffer.go:25", after := #[], guard := none }) (v := ?_) rfl (Or.inl ⟨by rfl, ?_⟩) HHeld.out ?_
                rotate_left
                · intro w hSw; clear hSw; go_simp; try with_reducible rfl
                try simp only [pu, pn, s1, s2, s3]
                refine wT (i := 1) (oi := { dst := some 30, op := Op.binOp BinOp.eql 3 (Operand.tmp 29) (Operand.const (Value.int IntKind.i64 0)) 3, type := 4, pos := "buffer.go:25", after := #[{ on := 0, ground := Ground.data }], guard := none }) (v := ?_) rfl (Or.inl ⟨by rfl, ?_⟩) HHeld.out ?_
                rotate_left
                · intro w hSw; clear hSw; go_simp; try with_reducible rfl
                try simp only [pu, pn, s1, s2, s3]
                refine wT (i := 2) (oi := { dst := some 31, op := Op.move (Operand.tmp 30), type := 4, pos := "buffer.go:25", after := #[{ on := 1, ground := Ground.data }], guard := none }) (v := ?_) rfl (Or.inl ⟨by rfl, ?_⟩) HHeld.out ?_
                rotate_left
                · intro w hSw; clear hSw; go_simp; try with_reducible rfl
                try simp only [pu, pn, s1, s2, s3]
                refine wT (i := 3) (oi := { dst := some 32, op := Op.move (Operand.tmp 0), type := 25, pos := "buffer.go:25", after := #[{ on := 2, ground := Ground.guard }], guard := some (2, false) }) (v := ?_) rfl (Or.inl ⟨by rfl, ?_⟩) HHeld.out ?_
                rotate_left
                · intro w hSw; clear hSw; go_simp; try with_reducible rfl
                try simp only [pu, pn, s1, s2, s3]
                refine wT (i := 4) (oi := { dst := some 33, op := Op.move (Operand.tmp 4), type := 3, pos := "buffer.go:25", after := #[{ on := 2, ground := Ground.guard }], guard := some (2, false) }) (v := ?_) rfl (Or.inl ⟨by rfl, ?_⟩) HHeld.out ?_
                rotate_left
                · intro w hSw; clear hSw; go_simp; try with_reducible rfl
                try simp only [pu, pn, s1, s2, s3]
                refine wT (i := 5) (oi := { dst := some 34, op := Op.binOp BinOp.sub 3 (Operand.tmp 33) (Operand.const (Value.int IntKind.i64 1)) 3, type := 3, pos := "buffer.go:25", after := #[{ on := 4, ground := Ground.data }, { on := 2, ground := Ground.guard }], guard := some (2, false) }) (v := ?_) rfl (Or.inl ⟨by rfl, ?_⟩) HHeld.out ?_
                rotate_left
                · intro w hSw; clear hSw; go_simp; try with_reducible rfl
                try simp only [pu, pn, s1, s2, s3]
                refine wT (i := 6) (oi := { dst := some 35, op := Op.indexAddr 25 (Operand.tmp 32) (Operand.tmp 34), type := 0, pos := "buffer.go:25", after := #[{ on := 3, ground := Ground.data }, { on := 5, ground := Ground.data }, { on := 2, ground := Ground.guard }], guard := some (2, false) }) (v := ?_) rfl (Or.inl ⟨by rfl, ?_⟩) HHeld.out ?_
                rotate_left
                · intro w hSw; clear hSw; go_simp; try with_reducible rfl
                try simp only [pu, pn, s1, s2, s3]
                refine wT (i := 7) (oi := { dst := some 36, op := Op.fieldAddr 50 (Operand.tmp 35) 1, type := 0, pos := "buffer.go:25", after := #[{ on := 6, ground := Ground.data }, { on := 2, ground := Ground.guard }], guard := some (2, false) }) (v := ?_) rfl (Or.inl ⟨by rfl, ?_⟩) HHeld.out ?_
                rotate_left
                · intro w hSw; clear hSw; go_simp; try with_reducible rfl
                try simp only [pu, pn, s1, s2, s3]
                refine wT (i := 8) (oi := { dst := some 37, op := Op.load 3 (Operand.tmp 36), type := 3, pos := "buffer.go:25", after := #[{ on := 7, ground := Ground.data }, { on := 2, ground := Ground.guard }], guard := some (2, false) }) (v := (.int .i64 p.sq : Value)) rfl (Or.inl ⟨by rfl, ?_⟩) HHeld.out ?_
                · intro V hV; have hc0 := bel_later hV P1.out; clear hV; go_simp
                try simp only [pu, pn, s1, s2, s3]
                refine wT (i := 9) (oi := { dst := some 38, op := Op.fieldAddr 50 (Operand.tmp 5) 1, type := 0, pos := "buffer.go:25", after := #[{ on := 2, ground := Ground.guard }], guard := some (2, false) }) (v := ?_) rfl (Or.inl ⟨by rfl, ?_⟩) HHeld.out ?_
                rotate_left
                · intro w hSw; clear hSw; go_simp; try with_reducible rfl
                try simp only [pu, pn, s1, s2, s3]
                refine wT (i := 10) (oi := { dst := some 39, op := Op.load 3 (Operand.tmp 38), type := 3, pos := "buffer.go:25", after := #[{ on := 9, ground := Ground.data }, { on := 2, ground := Ground.guard }], guard := some (2, false) }) (v := (.int .i64 x.sq : Value)) rfl (Or.inl ⟨by rfl, ?_⟩) HHeld.out ?_
                · intro V hV; have hc0 := bel_later hV S1.out; clear hV; go_simp
                try simp only [pu, pn, s1, s2, s3]
                refine wT (i := 11) (oi := { dst := some 40, op := Op.binOp BinOp.neq 3 (Operand.tmp 37) (Operand.tmp 39) 3, type := 4, pos := "buffer.go:25", after := #[{ on := 8, ground := Ground.data }, { on := 10, ground := Ground.data }, { on := 2, ground := Ground.guard }], guard := some (2, false) }) (v := ?_) rfl (Or.inl ⟨by rfl, ?_⟩) HHeld.out ?_
                rotate_left
                · intro w hSw; clear hSw; go_simp; try with_reducible rfl
                try simp only [pu, pn, s1, s2, s3]
                refine wT (i := 12) (oi := { dst := some 41, op := Op.pick (Operand.tmp 31) (Operand.const (Value.bool true)) (Operand.tmp 40), type := 4, pos := "buffer.go:25", after := #[{ on := 2, ground := Ground.data }, { on := 11, ground := Ground.data }], guard := none }) (v := ?_) rfl (Or.inl ⟨by rfl, ?_⟩) HHeld.out ?_
                rotate_left
                · intro w hSw; clear hSw; go_simp; try with_reducible rfl
                try simp only [pu, pn, s1, s2, s3]
                refine wpAnyH_done (by kernel_rfl) ?_ _
                have CD := Lib.hid HHeld.out
                clear HHeld
                refine at_exit (fun W8 hW8 => ?_)
                have B8 := Lib.hid (show Below w3.heap.size w3 W8 by rw [hW8]; exact CD.out)
                clear hW8
                have HPP := Lib.hid (rcP_eq es HPR.out HXR.out)
                have y2 := bel_later B8.out S2.out
                cases hs : sb x.ky (spT p)
                · go_wp2_with (first
                    | (go_at_call 58; ((with_reducible refine (holds_any _ _ _ _).mono ?_); rintro e w4 ⟨rfl, c4⟩; rw [has_empty, HEN.out, hs]; have B9 := Lib.hid (bel_trans B8.out c4); clear c4 y2))
                    | fail)
                  obtain ⟨o, ho⟩ : ∃ o, o = ordM p x := ⟨_, rfl⟩
                  rw [← ho] at HPP
                  have AO := Lib.hid (order_any p x)
                  rw [← ho] at AO
                  clear ho
                  rw [hs] at HPP
                  have HS := Lib.hid hs
                  clear hs
                  by_cases hgt : 0 < o
                  · refine wp_region_held_drew (S := (fun V : World => Below w3.heap.size w3 V)) (by kernel_rfl) ?_ (fun hHeld => ?_)
                    · exact B9.out.drew
                    have HHeld := Lib.hid hHeld; clear hHeld
                    refine wT (i := 0) (oi := { dst := some 49, op := Op.move (Operand.tmp 4), type := 3, pos := "buffer.go:30", after := #[], guard := none }) (v := ?_) rfl (Or.inl ⟨by rfl, ?_⟩) HHeld.out ?_
                    rotate_left
                    · intro w hSw; clear hSw; go_simp; try with_reducible rfl
                    try simp only [pu, pn, s1, s2, s3]
                    refine wT (i := 1) (oi := { dst := some 50, op := Op.binOp BinOp.gtr 3 (Operand.tmp 49) (Operand.const (Value.int IntKind.i64 0)) 3, type := 4, pos := "buffer.go:30", after := #[{ on := 0, ground := Ground.data }], guard := none }) (v := ?_) rfl (Or.inl ⟨by rfl, ?_⟩) HHeld.out ?_
                    rotate_left
                    · intro w hSw; clear hSw; go_simp; try with_reducible rfl
                    try simp only [pu, pn, s1, s2, s3]
                    refine wT (i := 2) (oi := { dst := some 51, op := Op.move (Operand.tmp 50), type := 4, pos := "buffer.go:30", after := #[{ on := 1, ground := Ground.data }], guard := none }) (v := ?_) rfl (Or.inl ⟨by rfl, ?_⟩) HHeld.out ?_
                    rotate_left
                    · intro w hSw; clear hSw; go_simp; try with_reducible rfl
                    try simp only [pu, pn, s1, s2, s3]
                    refine wT (i := 3) (oi := { dst := some 52, op := Op.move (Operand.tmp 0), type := 25, pos := "buffer.go:30", after := #[{ on := 2, ground := Ground.guard }], guard := some (2, true) }) (v := ?_) rfl (Or.inl ⟨by rfl, ?_⟩) HHeld.out ?_
                    rotate_left
                    · intro w hSw; clear hSw; go_simp; try with_reducible rfl
                    try simp only [pu, pn, s1, s2, s3]
                    refine wT (i := 4) (oi := { dst := some 53, op := Op.move (Operand.tmp 4), type := 3, pos := "buffer.go:30", after := #[{ on := 2, ground := Ground.guard }], guard := some (2, true) }) (v := ?_) rfl (Or.inl ⟨by rfl, ?_⟩) HHeld.out ?_
                    rotate_left
                    · intro w hSw; clear hSw; go_simp; try with_reducible rfl
                    try simp only [pu, pn, s1, s2, s3]
                    refine wT (i := 5) (oi := { dst := some 54, op := Op.binOp BinOp.sub 3 (Operand.tmp 53) (Operand.const (Value.int IntKind.i64 1)) 3, type := 3, pos := "buffer.go:30", after := #[{ on := 4, ground := Ground.data }, { on := 2, ground := Ground.guard }], guard := some (2, true) }) (v := ?_) rfl (Or.inl ⟨by rfl, ?_⟩) HHeld.out ?_
                    rotate_left
                    · intro w hSw; clear hSw; go_simp; try with_reducible rfl
                    try simp only [pu, pn, s1, s2, s3]
                    refine wT (i := 6) (oi := { dst := some 55, op := Op.indexAddr 25 (Operand.tmp 52) (Operand.tmp 54), type := 0, pos := "buffer.go:30", after := #[{ on := 3, ground := Ground.data }, { on := 5, ground := Ground.data }, { on := 2, ground := Ground.guard }], guard := some (2, true) }) (v := ?_) rfl (Or.inl ⟨by rfl, ?_⟩) HHeld.out ?_
                    rotate_left
                    · intro w hSw; clear hSw; go_simp; try with_reducible rfl
                    try simp only [pu, pn, s1, s2, s3]
                    refine wT (i := 7) (oi := { dst := some 56, op := Op.load 50 (Operand.tmp 55), type := 50, pos := "buffer.go:30", after := #[{ on := 6, ground := Ground.data }, { on := 2, ground := Ground.guard }], guard := some (2, true) }) (v := (.agg #[.int .u8 p.kd, .int .i64 p.sq, .string p.ky, .string p.to, .string p.vl, .int .u64 p.dl] : Value)) rfl (Or.inl ⟨by rfl, ?_⟩) HHeld.out ?_
                    · intro V hV; have hc0 := bel_later hV P0.out; have hc1 := bel_later hV P1.out; have hc2 := bel_later hV P2.out; have hc3 := bel_later hV P3.out; have hc4 := bel_later hV P4.out; have hc5 := bel_later hV P5.out; clear hV; go_simp
                    try simp only [pu, pn, s1, s2, s3]
                    refine wT (i := 8) (oi := { dst := some 57, op := Op.load 50 (Operand.tmp 5), type := 50, pos := "buffer.go:30", after := #[{ on := 2, ground := Ground.guard }], guard := some (2, true) }) (v := (.agg #[.int .u8 x.kd, .int .i64 x.sq, .string x.ky, .string x.to, .string x.vl, .int .u64 x.dl] : Value)) rfl (Or.inl ⟨by rfl, ?_⟩) HHeld.out ?_
                    · intro V hV; have hc0 := bel_later hV S0.out; have hc1 := bel_later hV S1.out; have hc2 := bel_later hV S2.out; have hc3 := bel_later hV S3.out; have hc4 := bel_later hV S4.out; have hc5 := bel_later hV S5.out; clear hV; go_simp
                    try simp only [pu, pn, s1, s2, s3]
                    refine wpAnyH_ready (rs := [9]) (by kernel_rfl) (by simp) ?_
                    refine AllReadyH.cons (o := { dst := some 58, op := Op.call { callee := Callee.value (Operand.func 61), args := #[Operand.tmp 56, Operand.tmp 57], argTypes := #[50, 50] }, type := 3, pos := "buffer.go:30", after := #[{ on := 7, ground := Ground.data }, { on := 8, ground := Ground.data }, { on := 2, ground := Ground.chain }, { on := 2, ground := Ground.guard }], guard := some (2, true) }) rfl (fun K hK => ?_) AllReadyH.nil
                    go_simp
                    go_at_call 61; (refine (AO.out _).mono ?_); rintro e w5 ⟨rfl, c5⟩; have C5 := Lib.hid (bel_trans HHeld.out c5); clear c5
                    refine hK.out _ _ ?_ (fun hHeld => ?_)
                    · exact C5.out
                    clear HHeld; have HHeld := Lib.hid hHeld; clear hHeld
                    clear hK K
                    try simp only [pu, pn, s1, s2, s3]
                    refine wT (i := 10) (oi := { dst := some 59, op := Op.binOp BinOp.gtr 3 (Operand.tmp 58) (Operand.const (Value.int IntKind.i64 0)) 3, type := 4, pos := "buffer.go:30", after := #[{ on := 9, ground := Ground.data }, { on := 2, ground := Ground.guard }], guard := some (2, true) }) (v := ?_) rfl (Or.inl ⟨by rfl, ?_⟩) HHeld.out ?_
                    rotate_left
                    · intro w hSw; clear hSw; go_simp; try with_reducible rfl
                    try simp only [pu, pn, s1, s2, s3]
                    refine wT (i := 11) (oi := { dst := some 60, op := Op.pick (Operand.tmp 51) (Operand.tmp 59) (Operand.const (Value.bool false)), type := 4, pos := "buffer.go:30", after := #[{ on := 2, ground := Ground.data }, { on := 10, ground := Ground.data }], guard := none }) (v := ?_) rfl (Or.inl ⟨by rfl, ?_⟩) HHeld.out ?_
                    rotate_left
                    · intro w hSw; clear hSw; go_simp; try with_reducible rfl
                    try simp only [pu, pn, s1, s2, s3]
                    refine wpAnyH_done (by kernel_rfl) ?_ _
                    have CE := Lib.hid HHeld.out
                    clear HHeld
                    go_wp2
                    go_ret
                    exact ⟨by rw [HR.out, right_no HKL.out (by rw [HRI.out, HPP.out]; simp [hgt])]; rfl, bel_trans HB.out (bel_trans B3.out CE.out)⟩
                  · refine wp_region_held_drew (S := (fun V : World => Below w3.heap.size w3 V)) (by kernel_rfl) ?_ (fun hHeld => ?_)
                    · exact B9.out.drew
                    have HHeld := Lib.hid hHeld; clear hHeld
                    refine wT (i := 0) (oi := { dst := some 49, op := Op.move (Operand.tmp 4), type := 3, pos := "buffer.go:30", after := #[], guard := none }) (v := ?_) rfl (Or.inl ⟨by rfl, ?_⟩) HHeld.out ?_
                    rotate_left
                    · intro w hSw; clear hSw; go_simp; try with_reducible rfl
                    try simp only [pu, pn, s1, s2, s3]
                    refine wT (i := 1) (oi := { dst := some 50, op := Op.binOp BinOp.gtr 3 (Operand.tmp 49) (Operand.const (Value.int IntKind.i64 0)) 3, type := 4, pos := "buffer.go:30", after := #[{ on := 0, ground := Ground.data }], guard := none }) (v := ?_) rfl (Or.inl ⟨by rfl, ?_⟩) HHeld.out ?_
                    rotate_left
                    · intro w hSw; clear hSw; go_simp; try with_reducible rfl
                    try simp only [pu, pn, s1, s2, s3]
                    refine wT (i := 2) (oi := { dst := some 51, op := Op.move (Operand.tmp 50), type := 4, pos := "buffer.go:30", after := #[{ on := 1, ground := Ground.data }], guard := none }) (v := ?_) rfl (Or.inl ⟨by rfl, ?_⟩) HHeld.out ?_
                    rotate_left
                    · intro w hSw; clear hSw; go_simp; try with_reducible rfl
                    try simp only [pu, pn, s1, s2, s3]
                    refine wT (i := 3) (oi := { dst := some 52, op := Op.move (Operand.tmp 0), type := 25, pos := "buffer.go:30", after := #[{ on := 2, ground := Ground.guard }], guard := some (2, true) }) (v := ?_) rfl (Or.inl ⟨by rfl, ?_⟩) HHeld.out ?_
                    rotate_left
                    · intro w hSw; clear hSw; go_simp; try with_reducible rfl
                    try simp only [pu, pn, s1, s2, s3]
                    refine wT (i := 4) (oi := { dst := some 53, op := Op.move (Operand.tmp 4), type := 3, pos := "buffer.go:30", after := #[{ on := 2, ground := Ground.guard }], guard := some (2, true) }) (v := ?_) rfl (Or.inl ⟨by rfl, ?_⟩) HHeld.out ?_
                    rotate_left
                    · intro w hSw; clear hSw; go_simp; try with_reducible rfl
                    try simp only [pu, pn, s1, s2, s3]
                    refine wT (i := 5) (oi := { dst := some 54, op := Op.binOp BinOp.sub 3 (Operand.tmp 53) (Operand.const (Value.int IntKind.i64 1)) 3, type := 3, pos := "buffer.go:30", after := #[{ on := 4, ground := Ground.data }, { on := 2, ground := Ground.guard }], guard := some (2, true) }) (v := ?_) rfl (Or.inl ⟨by rfl, ?_⟩) HHeld.out ?_
                    rotate_left
                    · intro w hSw; clear hSw; go_simp; try with_reducible rfl
                    try simp only [pu, pn, s1, s2, s3]
                    refine wT (i := 6) (oi := { dst := some 55, op := Op.indexAddr 25 (Operand.tmp 52) (Operand.tmp 54), type := 0, pos := "buffer.go:30", after := #[{ on := 3, ground := Ground.data }, { on := 5, ground := Ground.data }, { on := 2, ground := Ground.guard }], guard := some (2, true) }) (v := ?_) rfl (Or.inl ⟨by rfl, ?_⟩) HHeld.out ?_
                    rotate_left
                    · intro w hSw; clear hSw; go_simp; try with_reducible rfl
                    try simp only [pu, pn, s1, s2, s3]
                    refine wT (i := 7) (oi := { dst := some 56, op := Op.load 50 (Operand.tmp 55), type := 50, pos := "buffer.go:30", after := #[{ on := 6, ground := Ground.data }, { on := 2, ground := Ground.guard }], guard := some (2, true) }) (v := (.agg #[.int .u8 p.kd, .int .i64 p.sq, .string p.ky, .string p.to, .string p.vl, .int .u64 p.dl] : Value)) rfl (Or.inl ⟨by rfl, ?_⟩) HHeld.out ?_
                    · intro V hV; have hc0 := bel_later hV P0.out; have hc1 := bel_later hV P1.out; have hc2 := bel_later hV P2.out; have hc3 := bel_later hV P3.out; have hc4 := bel_later hV P4.out; have hc5 := bel_later hV P5.out; clear hV; go_simp
                    try simp only [pu, pn, s1, s2, s3]
                    refine wT (i := 8) (oi := { dst := some 57, op := Op.load 50 (Operand.tmp 5), type := 50, pos := "buffer.go:30", after := #[{ on := 2, ground := Ground.guard }], guard := some (2, true) }) (v := (.agg #[.int .u8 x.kd, .int .i64 x.sq, .string x.ky, .string x.to, .string x.vl, .int .u64 x.dl] : Value)) rfl (Or.inl ⟨by rfl, ?_⟩) HHeld.out ?_
                    · intro V hV; have hc0 := bel_later hV S0.out; have hc1 := bel_later hV S1.out; have hc2 := bel_later hV S2.out; have hc3 := bel_later hV S3.out; have hc4 := bel_later hV S4.out; have hc5 := bel_later hV S5.out; clear hV; go_simp
                    try simp only [pu, pn, s1, s2, s3]
                    refine wpAnyH_ready (rs := [9]) (by kernel_rfl) (by simp) ?_
                    refine AllReadyH.cons (o := { dst := some 58, op := Op.call { callee := Callee.value (Operand.func 61), args := #[Operand.tmp 56, Operand.tmp 57], argTypes := #[50, 50] }, type := 3, pos := "buffer.go:30", after := #[{ on := 7, ground := Ground.data }, { on := 8, ground := Ground.data }, { on := 2, ground := Ground.chain }, { on := 2, ground := Ground.guard }], guard := some (2, true) }) rfl (fun K hK => ?_) AllReadyH.nil
                    go_simp
                    go_at_call 61; (refine (AO.out _).mono ?_); rintro e w5 ⟨rfl, c5⟩; have C5 := Lib.hid (bel_trans HHeld.out c5); clear c5
                    refine hK.out _ _ ?_ (fun hHeld => ?_)
                    · exact C5.out
                    clear HHeld; have HHeld := Lib.hid hHeld; clear hHeld
                    clear hK K
                    try simp only [pu, pn, s1, s2, s3]
                    refine wT (i := 10) (oi := { dst := some 59, op := Op.binOp BinOp.gtr 3 (Operand.tmp 58) (Operand.const (Value.int IntKind.i64 0)) 3, type := 4, pos := "buffer.go:30", after := #[{ on := 9, ground := Ground.data }, { on := 2, ground := Ground.guard }], guard := some (2, true) }) (v := ?_) rfl (Or.inl ⟨by rfl, ?_⟩) HHeld.out ?_
                    rotate_left
                    · intro w hSw; clear hSw; go_simp; try with_reducible rfl
                    try simp only [pu, pn, s1, s2, s3]
                    refine wT (i := 11) (oi := { dst := some 60, op := Op.pick (Operand.tmp 51) (Operand.tmp 59) (Operand.const (Value.bool false)), type := 4, pos := "buffer.go:30", after := #[{ on := 2, ground := Ground.data }, { on := 10, ground := Ground.data }], guard := none }) (v := ?_) rfl (Or.inl ⟨by rfl, ?_⟩) HHeld.out ?_
                    rotate_left
                    · intro w hSw; clear hSw; go_simp; try with_reducible rfl
                    try simp only [pu, pn, s1, s2, s3]
                    refine wpAnyH_done (by kernel_rfl) ?_ _
                    have CE := Lib.hid HHeld.out
                    clear HHeld
                    have HOKK := Lib.hid (show rcI xs (j + 1) = true by rw [HRI.out, HPP.out]; simp [hgt])
                    refine at_exit (fun W12 hW12 => ?_)
                    have B12 := Lib.hid (show Below w3.heap.size w3 W12 by rw [hW12]; exact CE.out)
                    clear hW12
                    have y1 := bel_later B12.out T1.out
                    go_wp2_with (first
                      | (go_at_call 62; ((with_reducible refine (last_any _ _ _).mono ?_); rintro e w6 ⟨rfl, rfl⟩))
                      | fail)
                    exact ⟨⟨j + 1 + 1, _, by omega, by simp, rfl, Lib.hid (next_ok HI.out (HOKK.out)), Lib.hid (fun j' p' hj' hp' => by
                      have hj2 : j' = j + 1 := by omega
                      rw [hj2, HX.out] at hp'
                      injection hp' with hp'
                      rw [← hp']
                      exact (by first | exact last_next HS.out (by have q := HE3.out; rw [HKY.out] at q; exact q) | (rw [HEN.out]; exact last_next HS.out (by have q := HE3.out; rw [HKY.out] at q; exact q)))), bel_trans HB.out (bel_trans B3.out B12.out)⟩, by simp [intOf]; omega⟩
                · go_wp2_with (first
                    | (go_at_call 58; ((with_reducible refine (holds_any _ _ _ _).mono ?_); rintro e w4 ⟨rfl, c4⟩; rw [has_empty, HEN.out, hs]; have B9 := Lib.hid (bel_trans B8.out c4); clear c4 y2))
                    | fail)
                  go_ret
                  exact ⟨by rw [HR.out, right_no HKL.out (by rw [HRI.out, HPP.out, hs]; simp)]; rfl, bel_trans HB.out (bel_trans B3.out B9.out)⟩
      · have hp : isPt x.kd = false := by cases h : isPt x.kd <;> simp_all
        have h4 : (x.kd == 4) = false := by cases h : (x.kd == 4) <;> simp_all
        have HBAD := Lib.hid (kd_bad hp h4)
        clear hcase
        obtain ⟨b, off, rfl, hlt, g0, g1, g2, g3, g4, g5⟩ := eg_at (HA.out.later HB.out) HX.out
        go_wp2_with (first
          | (go_at_call 59; ((with_reducible refine (span_any x HOX.out _).mono ?_); rintro e w1 ⟨rfl, c1⟩; have Z5 := Lib.hid (keep_bel (alb w1 (rgc (spF x) (spT x))) (keep_bel c1 (heap_alloc_new wr (MO x)))); have Z6 := Lib.hid (heap_alloc_new w1 (rgc (spF x) (spT x))); have B1 := Lib.hid (bel_alloc (bel_a c1) (rgc (spF x) (spT x))); obtain ⟨s0, s1, s2, s3, s4, s5⟩ := cells6 Z5.out; clear c1))
          | (go_at_call 60; ((with_reducible refine (isp_any x _).mono ?_); rintro e w2 ⟨rfl, c2⟩; rw [hp]; replace Z5 := Lib.hid (keep_bel c2 Z5.out); replace Z6 := Lib.hid (keep_bel c2 Z6.out); have B2 := Lib.hid (bel_trans B1.out c2); clear s0 s1 s2 s3 s4 s5; obtain ⟨s0, s1, s2, s3, s4, s5⟩ := cells6 Z5.out; obtain ⟨t0, t1, -, -⟩ := has_two Z6.out; clear c2))
          | fail)
        try any_goals (exfalso; have hh4 : x.kd = 4 := (by assumption); rw [hh4] at h4; cases h4)
        all_goals go_ret
        all_goals exact ⟨by rw [HR.out, right_no HKL.out (rcI_bad HX.out HBAD.out)]; rfl, bel_trans HB.out B2.out⟩
    · have hk1 : ¬ (k : Int) < (n : Int) := by omega
      go_wp2
      go_ret
      exact ⟨by rw [HR.out, right_yes (fun i hi => HI.out i (by rw [HL.out] at hi; omega))]; rfl, HB.out⟩
end Go.Proofs.YtilnpeekajnlhaaGreat
