/- The program's book: what is ready. -/
import Derived.Test.YtlffigkjhhcohaaP5
namespace Go.Proofs.Ytlffigkjhhcohaa
set_option linter.unusedSimpArgs false
open Go.RowKit Go.Maps
set_option linter.unusedVariables false

theorem rdi_drop {w : World} {A : Option Addr} {l : List Int} {c : Nat} (h : RdI w A l) (k : Nat) (hc : l.length ≤ c) : RdI w (if c = k then A else Option.map (fun x => x.add k) A) (l.drop k) := by
  by_cases e : c = k
  · left
    rw [List.map_eq_nil_iff, List.drop_eq_nil_iff]
    omega
  · rw [if_neg e]
    rcases h with h | ⟨b, off, rfl, hlt, hcell⟩
    · left
      rw [List.map_eq_nil_iff] at h
      subst h
      simp
    · have := rdi_sub (.inr ⟨b, off, rfl, hlt, hcell⟩ : RdI w (some ⟨b, off, none⟩) l) k l.length
      have e2 : (l.drop k).take l.length = l.drop k := List.take_of_length_le (by simp)
      rw [e2] at this
      have hadd : (⟨b, off, none⟩ : Addr).add k = ⟨b, off + k, none⟩ := by unfold Addr.add; split <;> simp_all
      simpa [hadd] using this
theorem fpr_no (A : Option Addr) (k : Nat) : fpr A k = none ∨ fpr A k ≠ none := by cases fpr A k <;> simp
/-- Both rows are new. -/
theorem PB.both {w w4 : World} {lo N M : Nat} {A1 A2 A1' A2' : Option Addr} {k1 k2 k1' k2' m : Nat} {ss now : Int} {S : Int → Option Int} {wl sl l1 l2 : List Int} (h : PB w lo N M A1 A2 k1 k2 m ss now S wl sl) (hb : Below w.heap.size w w4) (r1 : Row w4 lo A1' l1 k1') (r2 : Row w4 lo A2' l2 k2')
    (f1 : fpr A1' k1' = none ∨ ∃ g, w.heap.size ≤ g ∧ fpr A1' k1' = some g) (f2 : fpr A2' k2' = none ∨ ∃ g, w.heap.size ≤ g ∧ fpr A2' k2' = some g) (hd : fpr A1' k1' = none ∨ fpr A1' k1' ≠ fpr A2' k2') (n1 n2 : Nat) (e1 : n1 = l1.length) (e2 : n2 = l2.length) :
    PB ((w4.setCell ⟨N, 3, none⟩ (.slice A1' n1 k1')).setCell ⟨N, 4, none⟩ (.slice A2' n2 k2')) lo N M A1' A2' k1' k2' m ss now S l1 l2 := by
  subst e1 e2
  have h4 := h.later hb
  have hml := h.mlt
  have hN := h.hN.2
  obtain ⟨D, hD, hF⟩ := h4.mp
  have g1 := grown_set (w := w4) (N := N) (j := 3) (v := .slice A1' l1.length k1')
  have g2 := grown_set (w := w4.setCell ⟨N, 3, none⟩ (.slice A1' l1.length k1')) (N := N) (j := 4) (v := .slice A2' l2.length k2')
  have d1 : fpr A1' k1' ≠ some N ∧ fpr A1' k1' ≠ some M := by
    rcases f1 with f | ⟨g, hg, f⟩
    · rw [f]; simp
    · rw [f]; simp; omega
  have d2 : fpr A2' k2' ≠ some N ∧ fpr A2' k2' ≠ some M := by
    rcases f2 with f | ⟨g, hg, f⟩
    · rw [f]; simp
    · rw [f]; simp; omega
  have c : ∀ j, j ≠ 3 → j ≠ 4 → ((w4.setCell ⟨N, 3, none⟩ (.slice A1' l1.length k1')).setCell ⟨N, 4, none⟩ (.slice A2' l2.length k2')).cell? ⟨N, j, none⟩ = w4.cell? ⟨N, j, none⟩ := fun j a b => (cell_set_ne (Ne.symm b)).trans (cell_set_ne (Ne.symm a))
  refine ⟨⟨h.hN.1, by simp; exact h4.hN.2⟩, h.hM, (c 0 (by decide) (by decide)).trans h4.c0, (c 1 (by decide) (by decide)).trans h4.c1, (c 2 (by decide) (by decide)).trans h4.c2, (cell_set_ne (by decide)).trans (World.cell?_setCell_same _ _ _ h4.c3), World.cell?_setCell_same _ _ _ ((cell_set_ne (by decide)).trans h4.c4), fun j => by rw [World.frozen?_setCell, World.frozen?_setCell]; exact h4.fz j, ⟨D, (hD.kept g1 (by simpa using h.hM.2)).kept g2 (by simpa using h.hM.2), hF⟩, (r1.kept g1 (.inr d1.1)).kept g2 (.inr d1.1), (r2.kept g1 (.inr d2.1)).kept g2 (.inr d2.1), d1, d2, hd⟩
theorem Row.far {w : World} {base : Nat} {A : Option Addr} {l : List Int} {c : Nat} (h : Row w base A l c) {b2 : Nat} (hb : b2 ≤ base) : fpr A c = none ∨ ∃ g, b2 ≤ g ∧ fpr A c = some g := by
  rcases hf : fpr A c with _ | g
  · exact .inl rfl
  · exact .inr ⟨g, Nat.le_trans hb (h.fp_lt hf).1, rfl⟩
theorem Row.apart {w w' : World} {base : Nat} {A A' : Option Addr} {l l' : List Int} {c c' : Nat} (h : Row w base A l c) (h' : Row w' w.heap.size A' l' c') : fpr A c = none ∨ fpr A c ≠ fpr A' c' := by
  rcases hf : fpr A c with _ | g
  · exact .inl rfl
  · right
    intro e
    have := h.fp_lt hf
    have := h'.fp_lt e.symm
    omega
theorem Row.later {w w' : World} {base : Nat} {A : Option Addr} {l : List Int} {c : Nat} (h : Row w base A l c) (hb : Below w.heap.size w w') : Row w' base A l c := h.kept (bel_grown hb none) (fpr_no A c)
/-- So many may go. -/
def ReadyN (sl : List Int) (g : Int) (n : Nat) : Prop := n ≤ sl.length ∧ (∀ j (hj : j < sl.length), j < n → sl[j] < g) ∧ ∀ h : n < sl.length, ¬ sl[n] < g
set_option maxHeartbeats 2000000 in
theorem pready_any {w : World} {lo N M : Nat} {A1 A2 : Option Addr} {k1 k2 m : Nat} {ss now : Int} {S : Int → Option Int} {wl sl : List Int} (g : Int) (hg : LeastP S now g) (n : Nat) (hn : ReadyN sl g n) (hl : wl.length ≤ 1000000 ∧ sl.length = wl.length) (hlo : lo ≤ w.heap.size) (h : PB w lo N M A1 A2 k1 k2 m ss now S wl sl) :
    Calls Try.prog 16 #[.pointer (some ⟨N, 0, none⟩)] w fun e w' => ∃ A c A1' A2' k1' k2', e = .returned (.slice A n c) ∧ Row w' w.heap.size A (wl.take n) c ∧ PB w' lo N M A1' A2' k1' k2' m ss now S (wl.drop n) (sl.drop n) ∧ Chg (FB N M A1 A2 k1 k2) w w' ∧
      (fpr A1' k1' = none ∨ ∃ g, w.heap.size ≤ g ∧ fpr A1' k1' = some g) ∧ (fpr A2' k2' = none ∨ ∃ g, w.heap.size ≤ g ∧ fpr A2' k2' = some g) := by
  have HPB := Lib.hid h
  have CL := Lib.hid (pleast_any g hg h)
  have c3 := h.c3
  have c4 := h.c4
  have HN := Lib.hid hn
  clear h hg hn
  go_enter Try.func16, Try.ntmps16
  go_wp2_with (first
    | (go_at_call 23; refine CL.out.mono ?_; rintro e w1 ⟨rfl, hb⟩; have H1 := Lib.hid (HPB.out.later hb); have HB1 := Lib.hid hb; clear hb)
    | fail)
  go_loopw [3] (fun iv wr => ∃ k d : Nat, k ≤ n ∧ iv = .int .i64 k ∧ wr = w1.drewN d) (fun i _ => n - (intOf i).toNat)
  case atStart => exact ⟨0, 0, by omega, rfl, rfl⟩
  case round =>
    obtain ⟨k, d, hk, rfl, hwr⟩ := hrel
    have hbr : Below w1.heap.size w1 wr := by rw [hwr]; exact bel_drewN (Below.refl _ _) d
    have HR := Lib.hid (H1.out.later hbr)
    have HBR := Lib.hid ((HB1.out.trans (hbr.mono HB1.out.size)))
    clear hbr c3 c4
    have HWR := Lib.hid hwr
    clear hwr
    have c3 := HR.out.c3
    have c4 := HR.out.c4
    have hk0 : (0 : Int) ≤ (k : Int) := by omega
    by_cases h8 : k < sl.length
    · have hk1 : (k : Int) < (sl.length : Int) := by omega
      obtain ⟨b2, off2, rfl, hlt2, f2⟩ := rdi_get HR.out.r2.rd h8
      have e8 : sl.getD k 0 = sl[k] := by rw [List.getD_eq_getElem?_getD, List.getElem?_eq_getElem h8]; rfl
      rw [e8] at f2
      by_cases h9 : sl[k] < g
      · obtain ⟨y, hy⟩ : ∃ y, y = sl[k] := ⟨_, rfl⟩
        have hkn : Hid (k < n) := Lib.hid (by
          rcases Nat.lt_or_ge k n with h | h
          · exact h
          · have e : k = n := by omega
            subst e
            exact absurd h9 (HN.out.2.2 h8))
        rw [← hy] at f2 h9
        clear e8 hy
        go_wp2
        refine ⟨⟨k + 1, _, by have := hkn.out; omega, by simp, HWR.out⟩, ?_⟩
        simp [intOf]
        have := hkn.out
        omega
      · have hkn : Hid (k = n) := Lib.hid (by
          rcases Nat.lt_or_ge k n with h | h
          · exact absurd (HN.out.2.1 k h8 h) h9
          · omega)
        obtain ⟨y, hy⟩ : ∃ y, y = sl[k] := ⟨_, rfl⟩
        rw [← hy] at f2 h9
        clear e8 hy
        have hkw : k ≤ wl.length := by have := HN.out.1; have := hkn.out; omega
        have hkk : k ≤ k1 := Nat.le_trans hkw HR.out.r1.cap.1
        have O1 := Lib.hid (own_any A1 k k1 (wl.take k) wr (by simp; omega) (by omega) (rdi_take HR.out.r1.rd k))
        go_wp2_with (first
          | (go_at_call 31; refine O1.out.mono ?_; rintro e w2 ⟨Ar, cr, rfl, rr, hb2⟩; have RR := Lib.hid rr; have H2 := Lib.hid (HR.out.later hb2); have HB2 := Lib.hid hb2; clear rr hb2))
        clear c3 c4
        have c3 := H2.out.c3
        have c4 := H2.out.c4
        rw [hl.2] at c4
        have hkw' : (k : Int) ≤ (wl.length : Int) := by omega
        have HD2 := Lib.hid (H2.out.later (bel_dw (Below.refl _ _)))
        have OA : Hid (∀ W, PB W lo N M A1 (some ⟨b2, off2, none⟩) k1 k2 m ss now S wl sl → Calls Try.prog 31 #[.slice (if k1 = k then A1 else Option.map (fun x => x.add k) A1) (wl.length - k) (k1 - k)] W (OwnPost W (wl.drop k))) := Lib.hid (fun W H => own_any _ _ _ (wl.drop k) W (by simp) (by omega) (rdi_drop H.r1.rd k H.r1.cap.1))
        have OB : Hid (∀ W, PB W lo N M A1 (some ⟨b2, off2, none⟩) k1 k2 m ss now S wl sl → Calls Try.prog 31 #[.slice (if k2 = k then some ⟨b2, off2, none⟩ else some ⟨b2, off2 + k, none⟩) (wl.length - k) (k2 - k)] W (OwnPost W (sl.drop k))) := Lib.hid (fun W H => by have h := own_any _ (wl.length - k) (k2 - k) (sl.drop k) W (by simp; omega) (by omega) (rdi_drop H.r2.rd k H.r2.cap.1); simpa only [Option.map_some, Addr.add_lit] using h)
        go_region_law (first
          | (go_simp; go_at_call 31; ((with_reducible refine (OA.out _ HD2.out).mono ?_); rintro e w3 ⟨A3, e3, rfl, rr3, hb3⟩; have RR3 := Lib.hid rr3; have H3 := Lib.hid (HD2.out.later hb3); have HB3 := Lib.hid hb3; have d4 := H3.out.c4; rw [hl.2] at d4; clear rr3 hb3))
          | (go_simp; go_at_call 31; ((with_reducible refine (OB.out _ H3.out).mono ?_); rintro e w4 ⟨A4, e4, rfl, rr4, hb4⟩; have RR4 := Lib.hid rr4; have H4 := Lib.hid (H3.out.later hb4); have HB4 := Lib.hid hb4; have n3 := H4.out.c3; have n4 := H4.out.c4; rw [hl.2] at n4; have z3 := H4.out.fz 3; have z4 := H4.out.fz 4; clear rr4 hb4)))
        all_goals
          have HB24 : Hid (Below w2.drew.heap.size w2.drew w4) := Lib.hid (HB3.out.trans (HB4.out.mono HB3.out.size))
          have hsw : w.heap.size ≤ w2.drew.heap.size := Nat.le_trans HBR.out.size HB2.out.size
          have HP := Lib.hid (HD2.out.both HB24.out ((RR3.out.later HB4.out).base (by omega)) (RR4.out.base (by have := HB3.out.size; omega)) (RR3.out.far (Nat.le_refl _)) (RR4.out.far HB3.out.size) (RR3.out.apart RR4.out) (wl.length - k) (wl.length - k) (by simp) (by simp; omega))
          have hf1 := RR3.out.far hsw
          have hf2 := RR4.out.far (Nat.le_trans hsw HB3.out.size)
          have hb04 : Below w.heap.size w w4 := ((bel_dw (HBR.out.trans (HB2.out.mono HBR.out.size))).trans (HB24.out.mono hsw))
          have HC := Lib.hid (((Chg.of_below (F := FB N M A1 (some ⟨b2, off2, none⟩) k1 k2) hb04).set (N := N) (j := 3) (v := .slice A3 (wl.length - k) e3) (.inl rfl)).set (N := N) (j := 4) (v := .slice A4 (wl.length - k) e4) (.inl rfl))
          have hNlt := HR.out.hN.2
          have hfr : fpr Ar cr ≠ some N := by
            intro e
            have := RR.out.fp_lt e
            omega
          have HRr := Lib.hid (((((RR.out.later (bel_dw (Below.refl _ _))).later HB24.out).kept (grown_set (N := N) (j := 3) (v := .slice A3 (wl.length - k) e3)) (.inr hfr)).kept (grown_set (N := N) (j := 4) (v := .slice A4 (wl.length - k) e4)) (.inr hfr)).base HBR.out.size)
          clear n3 n4 z3 z4 c3 c4 d4 OA OB
          try generalize (if k1 = k then A1 else Option.map (fun x => x.add k) A1) = V1
          try generalize (if k2 = k then some (⟨b2, off2, none⟩ : Addr) else some ⟨b2, off2 + k, none⟩) = V2
          generalize (w4.setCell ⟨N, 3, none⟩ (.slice A3 (wl.length - k) e3)).setCell ⟨N, 4, none⟩ (.slice A4 (wl.length - k) e4) = Y at *
          go_wp2
          go_ret
          rw [← hkn.out]
          exact ⟨Ar, cr, A3, A4, e3, e4, rfl, HRr.out, HP.out, HC.out, hf1, hf2⟩
    · have hk1 : ¬ (k : Int) < (sl.length : Int) := by omega
      have hkn : Hid (k = n) := Lib.hid (by have := HN.out.1; omega)
      have hkw : k ≤ wl.length := by have := HN.out.1; have := hkn.out; omega
      have hkk : k ≤ k1 := Nat.le_trans hkw HR.out.r1.cap.1
      have O1 := Lib.hid (own_any A1 k k1 (wl.take k) wr (by simp; omega) (by omega) (rdi_take HR.out.r1.rd k))
      go_wp2_with (first
        | (go_at_call 31; refine O1.out.mono ?_; rintro e w2 ⟨Ar, cr, rfl, rr, hb2⟩; have RR := Lib.hid rr; have H2 := Lib.hid (HR.out.later hb2); have HB2 := Lib.hid hb2; clear rr hb2))
      clear c3 c4
      have c3 := H2.out.c3
      have c4 := H2.out.c4
      rw [hl.2] at c4
      have hkw' : (k : Int) ≤ (wl.length : Int) := by omega
      have HD2 := Lib.hid (H2.out.later (bel_dw (Below.refl _ _)))
      have OA : Hid (∀ W, PB W lo N M A1 A2 k1 k2 m ss now S wl sl → Calls Try.prog 31 #[.slice (if k1 = k then A1 else Option.map (fun x => x.add k) A1) (wl.length - k) (k1 - k)] W (OwnPost W (wl.drop k))) := Lib.hid (fun W H => own_any _ _ _ (wl.drop k) W (by simp) (by omega) (rdi_drop H.r1.rd k H.r1.cap.1))
      have OB : Hid (∀ W, PB W lo N M A1 A2 k1 k2 m ss now S wl sl → Calls Try.prog 31 #[.slice (if k2 = k then A2 else Option.map (fun x => x.add k) A2) (wl.length - k) (k2 - k)] W (OwnPost W (sl.drop k))) := Lib.hid (fun W H => own_any _ _ _ (sl.drop k) W (by simp; omega) (by omega) (rdi_drop H.r2.rd k H.r2.cap.1))
      go_region_law (first
        | (go_simp; go_at_call 31; ((with_reducible refine (OA.out _ HD2.out).mono ?_); rintro e w3 ⟨A3, e3, rfl, rr3, hb3⟩; have RR3 := Lib.hid rr3; have H3 := Lib.hid (HD2.out.later hb3); have HB3 := Lib.hid hb3; have d4 := H3.out.c4; rw [hl.2] at d4; clear rr3 hb3))
        | (go_simp; go_at_call 31; ((with_reducible refine (OB.out _ H3.out).mono ?_); rintro e w4 ⟨A4, e4, rfl, rr4, hb4⟩; have RR4 := Lib.hid rr4; have H4 := Lib.hid (H3.out.later hb4); have HB4 := Lib.hid hb4; have n3 := H4.out.c3; have n4 := H4.out.c4; rw [hl.2] at n4; have z3 := H4.out.fz 3; have z4 := H4.out.fz 4; clear rr4 hb4)))
      all_goals
        have HB24 : Hid (Below w2.drew.heap.size w2.drew w4) := Lib.hid (HB3.out.trans (HB4.out.mono HB3.out.size))
        have hsw : w.heap.size ≤ w2.drew.heap.size := Nat.le_trans HBR.out.size HB2.out.size
        have HP := Lib.hid (HD2.out.both HB24.out ((RR3.out.later HB4.out).base (by omega)) (RR4.out.base (by have := HB3.out.size; omega)) (RR3.out.far (Nat.le_refl _)) (RR4.out.far HB3.out.size) (RR3.out.apart RR4.out) (wl.length - k) (wl.length - k) (by simp) (by simp; omega))
        have hf1 := RR3.out.far hsw
        have hf2 := RR4.out.far (Nat.le_trans hsw HB3.out.size)
        have hb04 : Below w.heap.size w w4 := ((bel_dw (HBR.out.trans (HB2.out.mono HBR.out.size))).trans (HB24.out.mono hsw))
        have HC := Lib.hid (((Chg.of_below (F := FB N M A1 A2 k1 k2) hb04).set (N := N) (j := 3) (v := .slice A3 (wl.length - k) e3) (.inl rfl)).set (N := N) (j := 4) (v := .slice A4 (wl.length - k) e4) (.inl rfl))
        have hNlt := HR.out.hN.2
        have hfr : fpr Ar cr ≠ some N := by
          intro e
          have := RR.out.fp_lt e
          omega
        have HRr := Lib.hid (((((RR.out.later (bel_dw (Below.refl _ _))).later HB24.out).kept (grown_set (N := N) (j := 3) (v := .slice A3 (wl.length - k) e3)) (.inr hfr)).kept (grown_set (N := N) (j := 4) (v := .slice A4 (wl.length - k) e4)) (.inr hfr)).base HBR.out.size)
        clear n3 n4 z3 z4 c3 c4 d4 OA OB
        try generalize (if k1 = k then A1 else Option.map (fun x => x.add k) A1) = V1
        try generalize (if k2 = k then A2 else Option.map (fun x => x.add k) A2) = V2
        generalize (w4.setCell ⟨N, 3, none⟩ (.slice A3 (wl.length - k) e3)).setCell ⟨N, 4, none⟩ (.slice A4 (wl.length - k) e4) = Y at *
        go_wp2
        go_ret
        rw [← hkn.out]
        exact ⟨Ar, cr, A3, A4, e3, e4, rfl, HRr.out, HP.out, HC.out, hf1, hf2⟩
end Go.Proofs.Ytlffigkjhhcohaa
