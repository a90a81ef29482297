/- The document's Unpack. -/
import Derived.Test.YteiifcmdpoonmaaP7
import Derived.Test.YteiifcmdpoonmaaX2
namespace Go.Proofs.Yteiifcmdpoonmaa
set_option linter.unusedSimpArgs false
open Go.RowKit Go.Maps Go.Shelf
set_option linter.unusedVariables false
theorem rtakeText_any (s : ByteArray) (most : Int) (w : World) :
    Calls Try.prog 23 #[.string s, .int .i64 most] w fun e w' => e = .returned (ttV (ttF s most)) ∧ Below w.heap.size w w' :=
  rtakeText_gen s _ _ _ most w (tnF_lo s) (fun w => rtakeNum_any s w)
theorem shN_pre : ∀ (x y : List UInt8) (q : Nat), q ≤ x.length → q ≤ shN x (x.take q ++ y)
  | _, _, 0, _ => Nat.zero_le _
  | [], _, q + 1, h => by simp at h
  | a :: x, y, q + 1, h => by
    simp only [List.take_succ_cons, List.cons_append, shN, if_true]
    have := shN_pre x y q (by simpa using h)
    omega
theorem shB_pre (a t : ByteArray) (q : Nat) (h : q ≤ a.size) : q ≤ shB a (a.extract 0 q ++ t) := by
  unfold shB
  have e : (a.extract 0 q ++ t).toList = a.toList.take q ++ t.toList := by
    rw [toList_eq, toList_eq, toList_eq]
    simp
  rw [e]
  exact shN_pre _ _ q (by rw [len_eq]; exact h)
/-- What the document's Unpack answers. -/
def UnR (y : Except Int (List TT)) (w : World) (e : Ending) (w' : World) : Prop :=
  match y with
  | .ok l => ∃ A c, e = .returned (.tuple #[.slice A l.length c, .int .i64 0]) ∧ RdT w' A l ∧ Below w.heap.size w w'
  | .error x => ∃ A, e = .returned (.tuple #[.slice A 0 0, .int .i64 x]) ∧ Below w.heap.size w w'
theorem UnR.err {w w' : World} {A : Option Addr} {x : Int} (h : Below w.heap.size w w') : UnR (.error x) w (.returned (.tuple #[.slice A 0 0, .int .i64 x])) w' := ⟨A, rfl, h⟩
theorem UnR.good {w w' : World} {A : Option Addr} {c : Nat} {l : List TT} (hr : RdT w' A l) (h : Below w.heap.size w w') : UnR (.ok l) w (.returned (.tuple #[.slice A l.length c, .int .i64 0])) w' := ⟨A, c, rfl, hr, h⟩
set_option maxHeartbeats 2000000 in
theorem refUnpack_err (s r : ByteArray) (n x : Int) (w : World) (ht : tnF s = (n, r, x)) (hx : x ≠ 0) : Calls Try.prog 12 #[.string s] w (UnR (.error x) w) := by
  have hx1 : (x == 0) = false := by simpa using hx
  have TN : Hid (∀ W, Calls Try.prog 22 #[.string s] W fun e w' => e = .returned (.tuple #[.int .i64 n, .string r, .int .i64 x]) ∧ Below W.heap.size W w') := Lib.hid (fun W => by
    have q := rtakeNum_any s W
    rw [ht] at q
    exact q)
  have A0 := Lib.hid (alb w (.cells #[] 30))
  clear ht
  go_enter Try.func12, Try.ntmps12
  go_wp2_with (first
    | (go_at_call 22; ((with_reducible refine (TN.out _).mono ?_); rintro e w1 ⟨rfl, b1⟩; have B1 := Lib.hid (bel_trans A0.out b1); clear b1))
    | fail)
  exact bodyPost_ret (v := .tuple #[.slice (some ⟨w.heap.size, 0, none⟩) 0 0, .int .i64 x]) (by simp [results, Try.results12, go_sem]) rfl (UnR.err B1.out)
set_option maxRecDepth 100000 in
set_option maxHeartbeats 8000000 in
theorem refUnpack_some (s r : ByteArray) (m : Nat) (y : Except Int (List TT)) (w : World) (hs : s.size ≤ 100000) (ht : tnF s = ((m : Int), r, 0)) (hU : Un m [] r y) : Calls Try.prog 12 #[.string s] w (UnR y w) := by
  have hrs := (tnF_sz s r _ ht).1
  have hm9 := (tnF_sz s r _ ht).2.2.1
  have TN0 : Hid (∀ W, Calls Try.prog 22 #[.string s] W fun e w' => e = .returned (.tuple #[.int .i64 m, .string r, .int .i64 0]) ∧ Below W.heap.size W w') := Lib.hid (fun W => by
    have q := rtakeNum_any s W
    rw [ht] at q
    exact q)
  have HS : Hid (r.size ≤ 100000) := Lib.hid (by omega)
  have HU := Lib.hid hU
  have A0 := Lib.hid (alb w (.cells #[] 30))
  clear hU ht hrs hs
  go_enter Try.func12, Try.ntmps12
  go_wp2_with (first
    | (go_at_call 22; ((with_reducible refine (TN0.out _).mono ?_); rintro e w0 ⟨rfl, b0⟩; have B0 := Lib.hid (bel_alloc (bel_trans A0.out b0) (.cells #[] 30)); clear b0))
    | fail)
  go_loopw [0, 7, 8, 9] (fun sv ov av iv wr => ∃ (n : Nat) (l : List TT) (t : ByteArray) (A : Option Addr) (c : Nat), sv = .string t ∧ ov = .slice A l.length c ∧ av = .string (lastK ⟨#[]⟩ l) ∧ iv = .int .i64 l.length ∧ l.length + n = m ∧ Un n l t y ∧ Row wr w.heap.size A l c ∧ Below w.heap.size w wr ∧ l.length + t.size ≤ 100000 ∧ (lastK ⟨#[]⟩ l).size + t.size ≤ 100000) (fun _ _ _ i _ => m - (intOf i).toNat)
  case atStart => exact ⟨m, [], r, _, 0, rfl, rfl, rfl, rfl, by simp, HU.out, .inl ⟨rfl, rfl⟩, B0.out, by simpa using HS.out, by have h := HS.out; simp only [lastK]; show 0 + r.size ≤ 100000; omega⟩
  case round =>
    obtain ⟨n0, l, t, A, c, rfl, rfl, rfl, rfl, hnm, hu, hrow, hb, hb1, hb2⟩ := hrel
    obtain ⟨k, hk⟩ : ∃ k, l.length = k := ⟨_, rfl⟩
    obtain ⟨a, ha⟩ : ∃ a, lastK ⟨#[]⟩ l = a := ⟨_, rfl⟩
    have hfst : l = [] → a = ⟨#[]⟩ ∧ k = 0 := fun h => by subst h; exact ⟨ha.symm, hk.symm⟩
    have hnfst : l ≠ [] → 0 < k := fun h => by rw [← hk]; exact List.length_pos_iff.2 h
    have HF := Lib.hid hfst
    have HNF := Lib.hid hnfst
    clear hfst hnfst
    rw [hk] at hnm hb1
    rw [ha] at hb2
    rw [hk, ha]
    have RW := Lib.hid hrow
    have HB := Lib.hid hb
    have HK := Lib.hid hk
    have HAL := Lib.hid ha
    have HK2 := Lib.hid hb1
    have HK3 := Lib.hid hb2
    have hk9 : (k : Int) ≤ 2147483647 := by omega
    have hk0 : (0 : Int) ≤ (k : Int) := by omega
    clear hrow hb hk ha hb1 hb2
    cases hu with
    | err n _ _ z hE =>
      have i1 : (k : Int) < (m : Int) := by omega
      cases hE with
      | num q r1 _ h1 he =>
        have hx1 : (z == 0) = false := by simpa using he
        have TN : Hid (∀ W, Calls Try.prog 22 #[.string t] W fun e w' => e = .returned (.tuple #[.int .i64 q, .string r1, .int .i64 z]) ∧ Below W.heap.size W w') := Lib.hid (fun W => by
          have q := rtakeNum_any t W
          rw [h1] at q
          exact q)
        clear h1 he
        go_wp2_with (first
          | (go_at_call 22; ((with_reducible refine (TN.out _).mono ?_); rintro e w1 ⟨rfl, b1⟩; have B1 := Lib.hid (bel_trans HB.out b1); have S1 := Lib.hid b1; clear b1))
          | fail)
        exact bodyPost_ret (v := .tuple #[.slice (some ⟨w.heap.size, 0, none⟩) 0 0, .int .i64 z]) (by simp [results, Try.results12, go_sem]) rfl (UnR.err B1.out)
      | far q r1 h1 h2 =>
        rw [HAL.out] at h2
        have TN : Hid (∀ W, Calls Try.prog 22 #[.string t] W fun e w' => e = .returned (.tuple #[.int .i64 q, .string r1, .int .i64 0]) ∧ Below W.heap.size W w') := Lib.hid (fun W => by
          have q := rtakeNum_any t W
          rw [h1] at q
          exact q)
        clear h1
        go_wp2_with (first
          | (go_at_call 22; ((with_reducible refine (TN.out _).mono ?_); rintro e w1 ⟨rfl, b1⟩; have B1 := Lib.hid (bel_trans HB.out b1); have S1 := Lib.hid b1; clear b1))
          | fail)
        exact bodyPost_ret (v := .tuple #[.slice (some ⟨w.heap.size, 0, none⟩) 0 0, .int .i64 3]) (by simp [results, Try.results12, go_sem]) rfl (UnR.err B1.out)
      | txt q r1 x r2 _ h1 h2 h3 he =>
        have hx1 : (z == 0) = false := by simpa using he
        rw [HAL.out] at h2
        have j1 : (q : Int) ≤ (a.size : Int) := by omega
        have j2 : (0 : Int) ≤ (q : Int) := by omega
        have TN : Hid (∀ W, Calls Try.prog 22 #[.string t] W fun e w' => e = .returned (.tuple #[.int .i64 q, .string r1, .int .i64 0]) ∧ Below W.heap.size W w') := Lib.hid (fun W => by
          have q := rtakeNum_any t W
          rw [h1] at q
          exact q)
        have TT : Hid (∀ W, Calls Try.prog 23 #[.string r1, .int .i64 256] W fun e w' => e = .returned (.tuple #[.string x, .string r2, .int .i64 z]) ∧ Below W.heap.size W w') := Lib.hid (fun W => by
          have q := rtakeText_any r1 256 W
          rw [h3] at q
          exact q)
        clear h1 h3 he
        go_wp2_with (first
          | (go_at_call 22; ((with_reducible refine (TN.out _).mono ?_); rintro e w1 ⟨rfl, b1⟩; have B1 := Lib.hid (bel_trans HB.out b1); have S1 := Lib.hid b1; clear b1))
          | (go_at_call 23; ((with_reducible refine (TT.out _).mono ?_); rintro e w2 ⟨rfl, b2⟩; have B2 := Lib.hid (bel_trans B1.out b2); have S2 := Lib.hid (bel_trans S1.out b2); clear b2))
          | fail)
        exact bodyPost_ret (v := .tuple #[.slice (some ⟨w.heap.size, 0, none⟩) 0 0, .int .i64 z]) (by simp [results, Try.results12, go_sem]) rfl (UnR.err B2.out)
      | ord q r1 x r2 h1 h2 h3 h4 h5 =>
        rw [HAL.out] at h5
        have TN : Hid (∀ W, Calls Try.prog 22 #[.string t] W fun e w' => e = .returned (.tuple #[.int .i64 q, .string r1, .int .i64 0]) ∧ Below W.heap.size W w') := Lib.hid (fun W => by
          have q := rtakeNum_any t W
          rw [h1] at q
          exact q)
        have TT : Hid (∀ W, Calls Try.prog 23 #[.string r1, .int .i64 256] W fun e w' => e = .returned (.tuple #[.string x, .string r2, .int .i64 0]) ∧ Below W.heap.size W w') := Lib.hid (fun W => by
          have q := rtakeText_any r1 256 W
          rw [h3] at q
          exact q)
        rw [HAL.out] at h2
        have j1 : (q : Int) ≤ (a.size : Int) := by omega
        have j2 : (0 : Int) ≤ (q : Int) := by omega
        have hr1 := tnF_sz t r1 _ h1
        have ht1 := ttF_sz r1 x r2 256 h3
        have hap := HK3.out
        obtain ⟨p, hp⟩ : ∃ p, a.extract 0 q = p := ⟨_, rfl⟩
        have hpz : p.size = q := by rw [← hp, ByteArray.size_extract]; omega
        have z1 : ¬ 9223372036854775807 < p.size + x.size := by omega
        have hpre := shB_pre a x q h2
        obtain ⟨kk, hkk⟩ : ∃ kk, p ++ x = kk := ⟨_, rfl⟩
        have hkz : kk.size = q + x.size := by rw [← hkk, ByteArray.size_append, hpz]
        rw [hp, hkk] at hpre
        obtain ⟨sv, hsv⟩ : ∃ sv, shB a kk = sv := ⟨_, rfl⟩
        rw [hsv] at hpre
        have SH : Hid (∀ W, Calls Try.prog 24 #[.string a, .string kk] W fun e w' => e = .returned (.int .i64 sv) ∧ Below W.heap.size W w') := Lib.hid (fun W => by
          have z := refShared_any a kk W (by unfold maxLen; omega) (by unfold maxLen; omega)
          rw [show shN a.toList kk.toList = sv from hsv] at z
          exact z)
        rw [hp, hkk] at h5
        have i2 : (0 : Int) < (k : Int) := by have := HNF.out h4; omega
        cases hb : Op.bytesLess a.toList kk.toList with
        | true =>
          have hgt : Op.bytesLess kk.toList a.toList = false := bl_asymm _ _ hb
          have heq : (kk.toList == a.toList) = false := by
            rw [beq_eq_false_iff_ne]; intro e; rw [e, bl_irr] at hb; cases hb
          have hns : (q : Int) < (sv : Int) := by
            have : sv ≠ q := fun e => h5 ⟨hb, by rw [hsv]; exact e⟩
            omega
          clear h1 h3 hr1 ht1 hap hpz hpre h5 hb hsv hkz
          go_wp2_with (first
            | (go_at_call 22; ((with_reducible refine (TN.out _).mono ?_); rintro e w1 ⟨rfl, b1⟩; have B1 := Lib.hid (bel_trans HB.out b1); have S1 := Lib.hid b1; clear b1))
            | (go_at_call 23; ((with_reducible refine (TT.out _).mono ?_); rintro e w2 ⟨rfl, b2⟩; have B2 := Lib.hid (bel_trans B1.out b2); have S2 := Lib.hid (bel_trans S1.out b2); clear b2))
            | (go_at_call 24; ((with_reducible refine (SH.out _).mono ?_); rintro e w3 ⟨rfl, b3⟩; have B3 := Lib.hid (bel_trans B2.out b3); have S3 := Lib.hid (bel_trans S2.out b3); clear b3))
            | fail)
          exact bodyPost_ret (v := .tuple #[.slice (some ⟨w.heap.size, 0, none⟩) 0 0, .int .i64 16]) (by simp [results, Try.results12, go_sem]) rfl (UnR.err B3.out)
        | false =>
          clear h1 h3 hr1 ht1 hap hpz hpre h5 hsv hkz
          rcases le_cases hb with hb | ⟨hb, he⟩
          · clear SH
            go_wp2_with (first
              | (go_at_call 22; ((with_reducible refine (TN.out _).mono ?_); rintro e w1 ⟨rfl, b1⟩; have B1 := Lib.hid (bel_trans HB.out b1); have S1 := Lib.hid b1; clear b1))
              | (go_at_call 23; ((with_reducible refine (TT.out _).mono ?_); rintro e w2 ⟨rfl, b2⟩; have B2 := Lib.hid (bel_trans B1.out b2); have S2 := Lib.hid (bel_trans S1.out b2); clear b2))
              | fail)
            exact bodyPost_ret (v := .tuple #[.slice (some ⟨w.heap.size, 0, none⟩) 0 0, .int .i64 16]) (by simp [results, Try.results12, go_sem]) rfl (UnR.err B2.out)
          · clear SH
            go_wp2_with (first
              | (go_at_call 22; ((with_reducible refine (TN.out _).mono ?_); rintro e w1 ⟨rfl, b1⟩; have B1 := Lib.hid (bel_trans HB.out b1); have S1 := Lib.hid b1; clear b1))
              | (go_at_call 23; ((with_reducible refine (TT.out _).mono ?_); rintro e w2 ⟨rfl, b2⟩; have B2 := Lib.hid (bel_trans B1.out b2); have S2 := Lib.hid (bel_trans S1.out b2); clear b2))
              | fail)
            exact bodyPost_ret (v := .tuple #[.slice (some ⟨w.heap.size, 0, none⟩) 0 0, .int .i64 16]) (by simp [results, Try.results12, go_sem]) rfl (UnR.err B2.out)
      | val q r1 x r2 v r3 _ h1 h2 h3 h4 h5 he =>
        have hx1 : (z == 0) = false := by simpa using he
        rw [HAL.out] at h4
        have TN : Hid (∀ W, Calls Try.prog 22 #[.string t] W fun e w' => e = .returned (.tuple #[.int .i64 q, .string r1, .int .i64 0]) ∧ Below W.heap.size W w') := Lib.hid (fun W => by
          have q := rtakeNum_any t W
          rw [h1] at q
          exact q)
        have TT : Hid (∀ W, Calls Try.prog 23 #[.string r1, .int .i64 256] W fun e w' => e = .returned (.tuple #[.string x, .string r2, .int .i64 0]) ∧ Below W.heap.size W w') := Lib.hid (fun W => by
          have q := rtakeText_any r1 256 W
          rw [h3] at q
          exact q)
        rw [HAL.out] at h2
        have j1 : (q : Int) ≤ (a.size : Int) := by omega
        have j2 : (0 : Int) ≤ (q : Int) := by omega
        have hr1 := tnF_sz t r1 _ h1
        have ht1 := ttF_sz r1 x r2 256 h3
        have hap := HK3.out
        obtain ⟨p, hp⟩ : ∃ p, a.extract 0 q = p := ⟨_, rfl⟩
        have hpz : p.size = q := by rw [← hp, ByteArray.size_extract]; omega
        have z1 : ¬ 9223372036854775807 < p.size + x.size := by omega
        have hpre := shB_pre a x q h2
        obtain ⟨kk, hkk⟩ : ∃ kk, p ++ x = kk := ⟨_, rfl⟩
        have hkz : kk.size = q + x.size := by rw [← hkk, ByteArray.size_append, hpz]
        rw [hp, hkk] at hpre
        obtain ⟨sv, hsv⟩ : ∃ sv, shB a kk = sv := ⟨_, rfl⟩
        rw [hsv] at hpre
        have SH : Hid (∀ W, Calls Try.prog 24 #[.string a, .string kk] W fun e w' => e = .returned (.int .i64 sv) ∧ Below W.heap.size W w') := Lib.hid (fun W => by
          have z := refShared_any a kk W (by unfold maxLen; omega) (by unfold maxLen; omega)
          rw [show shN a.toList kk.toList = sv from hsv] at z
          exact z)
        rw [hp, hkk] at h4
        have TV : Hid (∀ W, Calls Try.prog 23 #[.string r2, .int .i64 4096] W fun e w' => e = .returned (.tuple #[.string v, .string r3, .int .i64 z]) ∧ Below W.heap.size W w') := Lib.hid (fun W => by
          have q := rtakeText_any r2 4096 W
          rw [h5] at q
          exact q)
        by_cases hz : l = []
        · have i2 : ¬ (0 : Int) < (k : Int) := by have := (HF.out hz).2; omega
          have hns : ¬ (q : Int) < (sv : Int) := by
            have : shB a kk = 0 := by
              rw [(HF.out hz).1]; unfold shB
              have e0 : (⟨#[]⟩ : ByteArray).toList = [] := by rw [ByteArray.toList_eq]
              rw [e0]; cases kk.toList <;> rfl
            omega
          clear h1 h3 h5 hr1 ht1 hap hpz hpre h4 hsv hkz hz
          go_wp2_with (first
            | (go_at_call 22; ((with_reducible refine (TN.out _).mono ?_); rintro e w1 ⟨rfl, b1⟩; have B1 := Lib.hid (bel_trans HB.out b1); have S1 := Lib.hid b1; clear b1))
            | (go_at_call 23; ((with_reducible refine (TT.out _).mono ?_); rintro e w2 ⟨rfl, b2⟩; have B2 := Lib.hid (bel_trans B1.out b2); have S2 := Lib.hid (bel_trans S1.out b2); clear b2))
            | (go_at_call 24; ((with_reducible refine (SH.out _).mono ?_); rintro e w3 ⟨rfl, b3⟩; have B3 := Lib.hid (bel_trans B2.out b3); have S3 := Lib.hid (bel_trans S2.out b3); clear b3))
            | (go_at_call 23; ((with_reducible refine (TV.out _).mono ?_); rintro e w4 ⟨rfl, b4⟩; have B4 := Lib.hid (bel_trans B3.out b4); have S4 := Lib.hid (bel_trans S3.out b4); have R4 := Lib.hid ((RW.out.later S4.out).later (alb _ (.cells #[.string kk, .string v] 30))); clear b4))
            | fail)
          exact bodyPost_ret (v := .tuple #[.slice (some ⟨w.heap.size, 0, none⟩) 0 0, .int .i64 z]) (by simp [results, Try.results12, go_sem]) rfl (UnR.err B4.out)
        · have i2 : (0 : Int) < (k : Int) := by have := HNF.out hz; omega
          obtain ⟨h4, h6⟩ := h4.resolve_left hz
          have hgt : Op.bytesLess kk.toList a.toList = false := bl_asymm _ _ h4
          have heq : (kk.toList == a.toList) = false := by
            rw [beq_eq_false_iff_ne]; intro e; rw [e, bl_irr] at h4; cases h4
          have hns : ¬ (q : Int) < (sv : Int) := by omega
          clear h1 h3 h5 hr1 ht1 hap hpz hpre h4 h6 hsv hkz hz
          go_wp2_with (first
            | (go_at_call 22; ((with_reducible refine (TN.out _).mono ?_); rintro e w1 ⟨rfl, b1⟩; have B1 := Lib.hid (bel_trans HB.out b1); have S1 := Lib.hid b1; clear b1))
            | (go_at_call 23; ((with_reducible refine (TT.out _).mono ?_); rintro e w2 ⟨rfl, b2⟩; have B2 := Lib.hid (bel_trans B1.out b2); have S2 := Lib.hid (bel_trans S1.out b2); clear b2))
            | (go_at_call 24; ((with_reducible refine (SH.out _).mono ?_); rintro e w3 ⟨rfl, b3⟩; have B3 := Lib.hid (bel_trans B2.out b3); have S3 := Lib.hid (bel_trans S2.out b3); clear b3))
            | (go_at_call 23; ((with_reducible refine (TV.out _).mono ?_); rintro e w4 ⟨rfl, b4⟩; have B4 := Lib.hid (bel_trans B3.out b4); have S4 := Lib.hid (bel_trans S3.out b4); have R4 := Lib.hid ((RW.out.later S4.out).later (alb _ (.cells #[.string kk, .string v] 30))); clear b4))
            | fail)
          exact bodyPost_ret (v := .tuple #[.slice (some ⟨w.heap.size, 0, none⟩) 0 0, .int .i64 z]) (by simp [results, Try.results12, go_sem]) rfl (UnR.err B4.out)
    | step n _ _ r3 yy _ hE hU2 =>
      have i1 : (k : Int) < (m : Int) := by omega
      cases hE with
      | ok q r1 x r2 v _ h1 h2 h3 h4 h5 =>
        rw [HAL.out] at h4
        have TN : Hid (∀ W, Calls Try.prog 22 #[.string t] W fun e w' => e = .returned (.tuple #[.int .i64 q, .string r1, .int .i64 0]) ∧ Below W.heap.size W w') := Lib.hid (fun W => by
          have q := rtakeNum_any t W
          rw [h1] at q
          exact q)
        have TT : Hid (∀ W, Calls Try.prog 23 #[.string r1, .int .i64 256] W fun e w' => e = .returned (.tuple #[.string x, .string r2, .int .i64 0]) ∧ Below W.heap.size W w') := Lib.hid (fun W => by
          have q := rtakeText_any r1 256 W
          rw [h3] at q
          exact q)
        rw [HAL.out] at h2
        have j1 : (q : Int) ≤ (a.size : Int) := by omega
        have j2 : (0 : Int) ≤ (q : Int) := by omega
        have hr1 := tnF_sz t r1 _ h1
        have ht1 := ttF_sz r1 x r2 256 h3
        have hap := HK3.out
        obtain ⟨p, hp⟩ : ∃ p, a.extract 0 q = p := ⟨_, rfl⟩
        have hpz : p.size = q := by rw [← hp, ByteArray.size_extract]; omega
        have z1 : ¬ 9223372036854775807 < p.size + x.size := by omega
        have hpre := shB_pre a x q h2
        obtain ⟨kk, hkk⟩ : ∃ kk, p ++ x = kk := ⟨_, rfl⟩
        have hkz : kk.size = q + x.size := by rw [← hkk, ByteArray.size_append, hpz]
        rw [hp, hkk] at hpre
        obtain ⟨sv, hsv⟩ : ∃ sv, shB a kk = sv := ⟨_, rfl⟩
        rw [hsv] at hpre
        have SH : Hid (∀ W, Calls Try.prog 24 #[.string a, .string kk] W fun e w' => e = .returned (.int .i64 sv) ∧ Below W.heap.size W w') := Lib.hid (fun W => by
          have z := refShared_any a kk W (by unfold maxLen; omega) (by unfold maxLen; omega)
          rw [show shN a.toList kk.toList = sv from hsv] at z
          exact z)
        rw [hp, hkk] at h4
        have TV : Hid (∀ W, Calls Try.prog 23 #[.string r2, .int .i64 4096] W fun e w' => e = .returned (.tuple #[.string v, .string r3, .int .i64 0]) ∧ Below W.heap.size W w') := Lib.hid (fun W => by
          have q := rtakeText_any r2 4096 W
          rw [h5] at q
          exact q)
        have HSZ : Hid ((l ++ [(kk, v)]).length + r3.size ≤ 100000 ∧ (lastK ⟨#[]⟩ (l ++ [(kk, v)])).size + r3.size ≤ 100000) := Lib.hid (by
          have ht2 := ttF_sz r2 v r3 4096 h5
          have y1 := HK2.out
          have y3 := HK.out
          rw [lastK_snoc]
          simp only [List.length_append, List.length_cons, List.length_nil] at *
          omega)
        have HU2 : Hid (Un n (l ++ [(kk, v)]) r3 y) := Lib.hid (by
          rw [HAL.out, hp, hkk] at hU2; exact hU2)
        clear hU2
        by_cases hz : l = []
        · have i2 : ¬ (0 : Int) < (k : Int) := by have := (HF.out hz).2; omega
          have hns : ¬ (q : Int) < (sv : Int) := by
            have : shB a kk = 0 := by
              rw [(HF.out hz).1]; unfold shB
              have e0 : (⟨#[]⟩ : ByteArray).toList = [] := by rw [ByteArray.toList_eq]
              rw [e0]; cases kk.toList <;> rfl
            omega
          clear h1 h3 h5 hr1 ht1 hap hpz hpre h4 hsv hkz hz
          go_wp2_with (first
            | (go_at_call 22; ((with_reducible refine (TN.out _).mono ?_); rintro e w1 ⟨rfl, b1⟩; have B1 := Lib.hid (bel_trans HB.out b1); have S1 := Lib.hid b1; clear b1))
            | (go_at_call 23; ((with_reducible refine (TT.out _).mono ?_); rintro e w2 ⟨rfl, b2⟩; have B2 := Lib.hid (bel_trans B1.out b2); have S2 := Lib.hid (bel_trans S1.out b2); clear b2))
            | (go_at_call 24; ((with_reducible refine (SH.out _).mono ?_); rintro e w3 ⟨rfl, b3⟩; have B3 := Lib.hid (bel_trans B2.out b3); have S3 := Lib.hid (bel_trans S2.out b3); clear b3))
            | (go_at_call 23; ((with_reducible refine (TV.out _).mono ?_); rintro e w4 ⟨rfl, b4⟩; have B4 := Lib.hid (bel_trans B3.out b4); have S4 := Lib.hid (bel_trans S3.out b4); have R4 := Lib.hid ((RW.out.later S4.out).later (alb _ (.cells #[.string kk, .string v] 30))); clear b4))
            | (at_builtin; refine wpList_put_row _ rfl (.tmp 90) (.tmp 94) rfl (base := w.heap.size) A k c l (some ⟨w4.heap.size, 0, none⟩) 1 1 [(kk, v)] rfl rfl R4.out HK.out (by have := HK2.out; omega) (by have := B4.out.size; simp; omega) rfl (by omega) (lit_rdt w4 (kk, v)) ?_; intro A' c' w5 r5 g5 o5; have R5 := Lib.hid r5; have B5 := Lib.hid ((B4.out.alloc B4.out.size _).trans (Below.of_row g5 R4.out (Nat.le_refl _) (by have := B4.out.size; simp; omega))); clear r5 g5 o5)
            | fail)
          exact ⟨⟨n, l ++ [(kk, v)], r3, A', c', rfl, by simp [HK.out], by rw [lastK_snoc], by simp [HK.out], by simp [HK.out]; omega, HU2.out, R5.out, B5.out, HSZ.out.1, HSZ.out.2⟩, by simp [intOf]; omega⟩
        · have i2 : (0 : Int) < (k : Int) := by have := HNF.out hz; omega
          obtain ⟨h4, h6⟩ := h4.resolve_left hz
          have hgt : Op.bytesLess kk.toList a.toList = false := bl_asymm _ _ h4
          have heq : (kk.toList == a.toList) = false := by
            rw [beq_eq_false_iff_ne]; intro e; rw [e, bl_irr] at h4; cases h4
          have hns : ¬ (q : Int) < (sv : Int) := by omega
          clear h1 h3 h5 hr1 ht1 hap hpz hpre h4 h6 hsv hkz hz
          go_wp2_with (first
            | (go_at_call 22; ((with_reducible refine (TN.out _).mono ?_); rintro e w1 ⟨rfl, b1⟩; have B1 := Lib.hid (bel_trans HB.out b1); have S1 := Lib.hid b1; clear b1))
            | (go_at_call 23; ((with_reducible refine (TT.out _).mono ?_); rintro e w2 ⟨rfl, b2⟩; have B2 := Lib.hid (bel_trans B1.out b2); have S2 := Lib.hid (bel_trans S1.out b2); clear b2))
            | (go_at_call 24; ((with_reducible refine (SH.out _).mono ?_); rintro e w3 ⟨rfl, b3⟩; have B3 := Lib.hid (bel_trans B2.out b3); have S3 := Lib.hid (bel_trans S2.out b3); clear b3))
            | (go_at_call 23; ((with_reducible refine (TV.out _).mono ?_); rintro e w4 ⟨rfl, b4⟩; have B4 := Lib.hid (bel_trans B3.out b4); have S4 := Lib.hid (bel_trans S3.out b4); have R4 := Lib.hid ((RW.out.later S4.out).later (alb _ (.cells #[.string kk, .string v] 30))); clear b4))
            | (at_builtin; refine wpList_put_row _ rfl (.tmp 90) (.tmp 94) rfl (base := w.heap.size) A k c l (some ⟨w4.heap.size, 0, none⟩) 1 1 [(kk, v)] rfl rfl R4.out HK.out (by have := HK2.out; omega) (by have := B4.out.size; simp; omega) rfl (by omega) (lit_rdt w4 (kk, v)) ?_; intro A' c' w5 r5 g5 o5; have R5 := Lib.hid r5; have B5 := Lib.hid ((B4.out.alloc B4.out.size _).trans (Below.of_row g5 R4.out (Nat.le_refl _) (by have := B4.out.size; simp; omega))); clear r5 g5 o5)
            | fail)
          exact ⟨⟨n, l ++ [(kk, v)], r3, A', c', rfl, by simp [HK.out], by rw [lastK_snoc], by simp [HK.out], by simp [HK.out]; omega, HU2.out, R5.out, B5.out, HSZ.out.1, HSZ.out.2⟩, by simp [intOf]; omega⟩
    | done =>
      have i1 : ¬ (k : Int) < (m : Int) := by omega
      go_wp2
      exact bodyPost_ret (v := .tuple #[.slice A k c, .int .i64 0]) (by simp [results, Try.results12, go_sem]) rfl (by have q := UnR.good (c := c) RW.out.rd HB.out; rw [HK.out] at q; exact q)
    | rest _ _ hne =>
      have i1 : ¬ (k : Int) < (m : Int) := by omega
      have n1 : (t.toList == (⟨#[]⟩ : ByteArray).toList) = false := bytes_ne hne
      have n2 : t.toList.isEmpty = false := by
        have e0 : (⟨#[]⟩ : ByteArray).toList = [] := by rw [ByteArray.toList_eq]
        rw [e0] at n1
        cases h : t.toList with
        | nil => rw [h] at n1; simp at n1
        | cons a b => rfl
      go_wp2
      exact bodyPost_ret (v := .tuple #[.slice (some ⟨w.heap.size, 0, none⟩) 0 0, .int .i64 3]) (by simp [results, Try.results12, go_sem]) rfl (UnR.err HB.out)
end Go.Proofs.Yteiifcmdpoonmaa
