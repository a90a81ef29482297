/- The law SeedNumbers. -/
import Derived.Test.YtnchpfmpjpnciaaA8
namespace Go.Proofs.Ytnchpfmpjpnciaa
set_option linter.unusedSimpArgs false
open Go.RowKit Go.Maps Go.Shelf
set_option linter.unusedVariables false
/-- Both sources, each at its number, and all that lay there before as it lay. -/
def Bo (w0 : World) (gp gd : Nat) (Sp Sd : Int) (w : World) : Prop := Src w 63 gp Sp ∧ Src w 27 gd Sd ∧ Below w0.heap.size w0 w ∧ w0.heap.size ≤ gp ∧ w0.heap.size ≤ gd ∧ gp ≠ gd
section
variable {w0 w w' : World} {gp gd : Nat} {Sp Sd S' : Int}
theorem Bo.p (h : Bo w0 gp gd Sp Sd w) (k : Eff 63 gp S' w w') : Bo w0 gp gd S' Sd w' := by
  obtain ⟨h1, h2, h3, h4, h5, h6⟩ := h
  exact ⟨k.1, h2.chg k.2 (fun e => h6 e.symm), h3.trans (k.2.below (fun x hx => by omega) h3.size), h4, h5, h6⟩
theorem Bo.d (h : Bo w0 gp gd Sp Sd w) (k : Eff 27 gd S' w w') : Bo w0 gp gd Sp S' w' := by
  obtain ⟨h1, h2, h3, h4, h5, h6⟩ := h
  exact ⟨h1.chg k.2 h6, k.1, h3.trans (k.2.below (fun x hx => by omega) h3.size), h4, h5, h6⟩
theorem Bo.later (h : Bo w0 gp gd Sp Sd w) (k : Below w.heap.size w w') : Bo w0 gp gd Sp Sd w' := by
  obtain ⟨h1, h2, h3, h4, h5, h6⟩ := h
  exact ⟨h1.chg (Chg.of_below (D := fun _ => False) k) id, h2.chg (Chg.of_below (D := fun _ => False) k) id, h3.trans (k.mono h3.size), h4, h5, h6⟩
theorem Bo.sp (h : Bo w0 gp gd Sp Sd w) : Src w 63 gp Sp := h.1
theorem Bo.sd (h : Bo w0 gp gd Sp Sd w) : Src w 27 gd Sd := h.2.1
theorem Bo.bel (h : Bo w0 gp gd Sp Sd w) : Below w0.heap.size w0 w := h.2.2.1
end
theorem opL_le (n S : Int) : opL n S ≤ 3 := by
  unfold opL
  have h := bl_range S 3 (by omega)
  generalize bl S 3 = x at *
  split <;> omega
set_option maxHeartbeats 4000000 in
set_option maxRecDepth 4000 in
theorem numbers_walk (n below letters most times : Int) (w : World) (hb : below ≤ 9223372036854775807) (ht : 0 ≤ times ∧ times < 256) :
    Calls Try.prog 3 #[.int .u64 n, .int .i64 below, .int .i64 letters, .int .i64 most, .int .u8 times] w fun e w' => e = .returned (.bool true) ∧ Below w.heap.size w w' := by
  have hal := run_zo
  have N0 := Lib.hid (new_any n w)
  obtain ⟨gp, hgp⟩ : ∃ g, g = w.heap.size := ⟨_, rfl⟩
  obtain ⟨gd, hgd⟩ : ∃ g, g = w.heap.size + 1 := ⟨_, rfl⟩
  have B0 : Bo w w.heap.size (w.heap.size + 1) n n ((w.alloc (.cells #[.int .u64 n] 63)).alloc (.cells #[.int .u64 n] 27)) := by
    have h1 := heap_alloc_new (w.alloc (.cells #[.int .u64 n] 63)) (.cells #[.int .u64 n] 27)
    rw [World.size_alloc] at h1
    exact ⟨keep_bel (alb (w.alloc (.cells #[.int .u64 n] 63)) (.cells #[.int .u64 n] 27)) (heap_alloc_new w (.cells #[.int .u64 n] 63)), h1, by go_grown, by omega, by omega, by omega⟩
  rw [← hgp, show gp + 1 = gd by omega] at B0
  have B0 := Lib.hid B0
  go_enter Try.func3, Try.ntmps3
  go_wp2_with (first
    | (go_at_call 5; ((with_reducible refine N0.out.mono ?_); rintro e w1 ⟨rfl, rfl⟩))
    | fail)
  rw [← hgd, ← hgp]
  generalize (w.alloc (.cells #[.int .u64 n] 63)).alloc (.cells #[.int .u64 n] 27) = V0 at *
  clear hgp hgd N0
  go_loopw [13, 14, 15] (fun iv _ _ wr => ∃ (k : Nat) (S : Int), iv = .int .i64 k ∧ k ≤ 50 ∧ Bo w gp gd S S wr) (fun i _ _ _ => 50 - (intOf i).toNat)
  case atStart => exact ⟨0, n, rfl, by omega, B0.out⟩
  case round =>
    obtain ⟨k, S, rfl, hk, hbo⟩ := hrel
    have H1 := Lib.hid hbo
    clear hbo B0
    by_cases h8 : (k : Int) < times % 50
    · have hk5 : k < 50 := by omega
      obtain ⟨S1, hS1⟩ : ∃ x, x = st S := ⟨_, rfl⟩
      obtain ⟨S2, hS2⟩ : ∃ x, x = bs S1 below := ⟨_, rfl⟩
      obtain ⟨S3, hS3⟩ : ∃ x, x = keyS S2 letters most := ⟨_, rfl⟩
      obtain ⟨S4, hS4⟩ : ∃ x, x = mstep S3 := ⟨_, rfl⟩
      obtain ⟨S5, hS5⟩ : ∃ x, x = opS (bl S4 8) (bs S4 8) := ⟨_, rfl⟩
      obtain ⟨o, ho⟩ : ∃ x, x = out S := ⟨_, rfl⟩
      obtain ⟨x, hx⟩ : ∃ x, x = bl S1 below := ⟨_, rfl⟩
      obtain ⟨kb, hkb⟩ : ∃ x, x = keyB S2 letters most := ⟨_, rfl⟩
      obtain ⟨kd, mk, mt, mv, md, hmv⟩ := mval_form S3
      obtain ⟨K, hK⟩ : ∃ x, x = opK (bl S4 8) := ⟨_, rfl⟩
      obtain ⟨Y, hY⟩ : ∃ x, x = opY (bl S4 8) (bs S4 8) := ⟨_, rfl⟩
      obtain ⟨N, hN⟩ : ∃ x, x = opN (bl S4 8) (bs S4 8) := ⟨_, rfl⟩
      obtain ⟨L, hL⟩ : ∃ x, x = opL (bl S4 8) (bs S4 8) := ⟨_, rfl⟩
      obtain ⟨M, hM⟩ : ∃ x, x = bs (bs S4 8) 3 := ⟨_, rfl⟩
      have hL3 : L ≤ 3 := by rw [hL]; exact opL_le _ _
      have HL3 := Lib.hid hL3
      have CP1 : Hid (∀ W, Src W 63 gp S → Calls Try.prog 6 #[.pointer (some ⟨gp, 0, none⟩)] W fun e w' => e = .returned (.int .u64 o) ∧ Eff 63 gp S1 W w') := Lib.hid (fun W h => by rw [ho, hS1]; exact next_p h)
      have CP2 : Hid (∀ W, Src W 63 gp S1 → Calls Try.prog 8 #[.pointer (some ⟨gp, 0, none⟩), .int .i64 below] W fun e w' => e = .returned (.int .i64 x) ∧ Eff 63 gp S2 W w') := Lib.hid (fun W h => by rw [hx, hS2]; exact below_p below h hb)
      have CP3 : Hid (∀ W, Src W 63 gp S2 → Calls Try.prog 10 #[.pointer (some ⟨gp, 0, none⟩), .int .i64 letters, .int .i64 most] W fun e w' => e = .returned (.string kb) ∧ Eff 63 gp S3 W w') := Lib.hid (fun W h => by rw [hkb, hS3]; exact key_p letters most h)
      have CP4 : Hid (∀ W, Src W 63 gp S3 → Calls Try.prog 12 #[.pointer (some ⟨gp, 0, none⟩)] W fun e w' => e = .returned (.agg #[.int .u8 kd, .int .i64 0, .string mk, .string mt, .string mv, .int .u64 md]) ∧ Eff 63 gp S4 W w') := Lib.hid (fun W h => by rw [← hmv, hS4]; exact msg_p h)
      have CP5 : Hid (∀ W, Src W 63 gp S4 → Calls Try.prog 14 #[.pointer (some ⟨gp, 0, none⟩)] W fun e w' => ∃ A c, e = .returned (.agg #[.int .u8 K, .string Y, .string ⟨#[]⟩, .int .i64 N, .slice A L c]) ∧ Eff 63 gp S5 W w' ∧ RdV w' W.heap.size A (mrow M L)) := Lib.hid (fun W h => by rw [hK, hY, hN, hL, hM, hS5]; exact op_p h)
      have CD1 : Hid (∀ W, Src W 27 gd S → Calls Try.prog 7 #[.pointer (some ⟨gd, 0, none⟩)] W fun e w' => e = .returned (.int .u64 o) ∧ Eff 27 gd S1 W w') := Lib.hid (fun W h => by rw [ho, hS1]; exact next_d h)
      have CD2 : Hid (∀ W, Src W 27 gd S1 → Calls Try.prog 9 #[.pointer (some ⟨gd, 0, none⟩), .int .i64 below] W fun e w' => e = .returned (.int .i64 x) ∧ Eff 27 gd S2 W w') := Lib.hid (fun W h => by rw [hx, hS2]; exact below_d below h hb)
      have CD3 : Hid (∀ W, Src W 27 gd S2 → Calls Try.prog 11 #[.pointer (some ⟨gd, 0, none⟩), .int .i64 letters, .int .i64 most] W fun e w' => e = .returned (.string kb) ∧ Eff 27 gd S3 W w') := Lib.hid (fun W h => by rw [hkb, hS3]; exact key_d letters most h)
      have CD4 : Hid (∀ W, Src W 27 gd S3 → Calls Try.prog 13 #[.pointer (some ⟨gd, 0, none⟩)] W fun e w' => e = .returned (.agg #[.int .u8 kd, .int .i64 0, .string mk, .string mt, .string mv, .int .u64 md]) ∧ Eff 27 gd S4 W w') := Lib.hid (fun W h => by rw [← hmv, hS4]; exact msg_d h)
      have CD5 : Hid (∀ W, Src W 27 gd S4 → Calls Try.prog 15 #[.pointer (some ⟨gd, 0, none⟩)] W fun e w' => ∃ A c, e = .returned (.agg #[.int .u8 K, .string Y, .string ⟨#[]⟩, .int .i64 N, .slice A L c]) ∧ Eff 27 gd S5 W w' ∧ RdV w' W.heap.size A (mrow M L)) := Lib.hid (fun W h => by rw [hK, hY, hN, hL, hM, hS5]; exact op_d h)
      clear ho hx hkb hmv hK hY hN hL hM hS1 hS2 hS3 hS4 hS5
      go_wp2_with (first
        | (go_at_call 6; ((with_reducible refine (CP1.out _ H1.out.sp).mono ?_); rintro e w2 ⟨rfl, h⟩; have H2 := Lib.hid (H1.out.p h); clear h))
        | (go_at_call 7; ((with_reducible refine (CD1.out _ H2.out.sd).mono ?_); rintro e w3 ⟨rfl, h⟩; have H3 := Lib.hid (H2.out.d h); clear h))
        | (go_at_call 8; ((with_reducible refine (CP2.out _ H3.out.sp).mono ?_); rintro e w4 ⟨rfl, h⟩; have H4 := Lib.hid (H3.out.p h); clear h))
        | (go_at_call 9; ((with_reducible refine (CD2.out _ H4.out.sd).mono ?_); rintro e w5 ⟨rfl, h⟩; have H5 := Lib.hid (H4.out.d h); clear h))
        | (go_at_call 10; ((with_reducible refine (CP3.out _ H5.out.sp).mono ?_); rintro e w6 ⟨rfl, h⟩; have H6 := Lib.hid (H5.out.p h); clear h))
        | (go_at_call 11; ((with_reducible refine (CD3.out _ H6.out.sd).mono ?_); rintro e w7 ⟨rfl, h⟩; have H7 := Lib.hid (H6.out.d h); clear h))
        | (go_at_call 12; ((with_reducible refine (CP4.out _ H7.out.sp).mono ?_); rintro e w8 ⟨rfl, h⟩; have H8 := Lib.hid (H7.out.p h); clear h))
        | (go_at_call 13; ((with_reducible refine (CD4.out _ H8.out.sd).mono ?_); rintro e w9 ⟨rfl, h⟩; have H9 := Lib.hid (H8.out.d h); clear h))
        | (go_at_call 14; ((with_reducible refine (CP5.out _ H9.out.sp).mono ?_); rintro e w10 ⟨A, c, rfl, h, hr⟩; have H10 := Lib.hid (H9.out.p h); have RA := Lib.hid hr; have L9 := Lib.hid H9.out.sd.lt; clear h hr))
        | (go_at_call 15; ((with_reducible refine (CD5.out _ H10.out.sd).mono ?_); rintro e w11 ⟨A', c', rfl, h, hr⟩; have H11 := Lib.hid (H10.out.d h); have RB := Lib.hid hr; have RA2 := Lib.hid (RA.out.chg h.2 (fun x hx => .inl (by have := L9.out; omega))); have hV : Below w11.heap.size w11 ((w11.alloc (.cells #[.int .u8 K, .string Y, .string ⟨#[]⟩, .int .i64 N, .slice A L c] 42)).alloc (.cells #[.int .u8 K, .string Y, .string ⟨#[]⟩, .int .i64 N, .slice A' L c'] 42)) := ((alb w11 (.cells #[.int .u8 K, .string Y, .string ⟨#[]⟩, .int .i64 N, .slice A L c] 42)).trans ((alb (w11.alloc (.cells #[.int .u8 K, .string Y, .string ⟨#[]⟩, .int .i64 N, .slice A L c] 42)) (.cells #[.int .u8 K, .string Y, .string ⟨#[]⟩, .int .i64 N, .slice A' L c'] 42)).mono (by simp))); have SM := Lib.hid (same_any (c := c) (c' := c') (RA2.out.chg (Chg.of_below (D := fun _ => False) hV) (fun _ h => h.elim)) (RB.out.chg (Chg.of_below (D := fun _ => False) hV) (fun _ h => h.elim)) HL3.out); have HV := Lib.hid hV; clear h hr hV))
        | (go_at_call 16; ((with_reducible refine SM.out.mono ?_); rintro e w12 ⟨rfl, b12⟩; have H12 := Lib.hid (H11.out.later (HV.out.trans (b12.mono HV.out.size))); clear b12))
        | fail)
      exact ⟨⟨k + 1, S5, by simp, by omega, H12.out⟩, by simp [intOf]; omega⟩
    · go_wp2_with (first
        | (go_at_call 17; ((with_reducible refine (live_any _).mono ?_); rintro e w2 ⟨rfl, b2⟩; have B2 := Lib.hid (H1.out.bel.trans (b2.mono H1.out.bel.size)); clear b2))
        | fail)
      go_ret
      exact ⟨rfl, B2.out⟩
end Go.Proofs.Ytnchpfmpjpnciaa
