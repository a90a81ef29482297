/- Keys of few letters, on both sides. -/
import Derived.Test.YtnchpfmpjpnciaaL3
namespace Go.Proofs.Ytnchpfmpjpnciaa
set_option linter.unusedSimpArgs false
open Go.RowKit Go.Shelf
set_option linter.unusedVariables false
theorem Chg.of_low {B : Nat} {w w' : World} (h : Below B w w') : Chg (fun g => B ≤ g) w w' := ⟨h.os, h.tape, h.output, h.size, fun g _ hn => h.block g (by omega)⟩
theorem Chg.grown {w w' : World} {g : Nat} (h : Chg (fun x => x = g) w w') : w.grownBy w' (some g) := by
  refine ⟨h.os, h.tape, h.output, h.size, fun x hx hn => h.block x hx (fun e => hn (by rw [e]))⟩
theorem Bd.chg {B b g : Nat} {l : List UInt8} {w w' : World} (h : Bd B b l w) (hc : Chg (fun x => x = g) w w') (hg : g < B) : Bd B b l w' := by
  have one : ∀ p, Lib.BuilderAtF 69 5 B b p (Lib.byteCells l) w → Lib.BuilderAtF 69 5 B b p (Lib.byteCells l) w' := by
    rintro p ⟨hB, v, hh, hown, hne⟩
    have hlt : b < w.heap.size := by
      rcases Nat.lt_or_ge b w.heap.size with h' | h'
      · exact h'
      · simp [Array.getElem?_eq_none h'] at hh
    refine ⟨hB, v, (hc.block b hlt (by omega)).trans hh, hown.kept hc.grown ?_, hne⟩
    rcases hq : v.ownBlock with _ | q
    · exact .inl rfl
    · refine .inr (fun e => ?_)
      have := (hown.lt q hq).1
      cases e; omega
  exact h.elim (fun x => .inl (one _ x)) (fun x => .inr (one _ x))
theorem Eff.low {t g B : Nat} {S : Int} {w w1 w2 : World} (h : Eff t g S w w1) (k : Below B w1 w2) (hB : w.heap.size ≤ B) (hg : g < B) : Eff t g S w w2 := ⟨(k.block g hg).trans h.1, h.2.trans (Chg.of_low k) (fun x hx => .inr (by omega))⟩
theorem Eff.size {t g : Nat} {S : Int} {w w' : World} (h : Eff t g S w w') : w.heap.size ≤ w'.heap.size := h.2.size
theorem Eff.src {t g : Nat} {S : Int} {w w' : World} (h : Eff t g S w w') : Src w' t g S := h.1
theorem Eff.chg {t g : Nat} {S : Int} {w w' : World} (h : Eff t g S w w') : Chg (fun x => x = g) w w' := h.2
def kst (S L : Int) : Nat → Int
  | 0 => S
  | k + 1 => bs (kst S L k) L
def kbs (S L : Int) : Nat → List UInt8
  | 0 => []
  | k + 1 => kbs S L k ++ [UInt8.ofNat (97 + bl (kst S L k) L).toNat]
theorem kbs_length (S L : Int) (k : Nat) : (kbs S L k).length = k := by
  induction k with
  | zero => rfl
  | succ k ih => simp [kbs, ih]
/-- How long a key is, its letters, and the source behind it. -/
def keyN (S M : Int) : Nat := (1 + bl S (cl M 16)).toNat
def keyB (S L M : Int) : ByteArray := ⟨(kbs (bs S (cl M 16)) (cl L 26) (keyN S M)).toArray⟩
def keyS (S L M : Int) : Int := kst (bs S (cl M 16)) (cl L 26) (keyN S M)
theorem keyN_cast (S M : Int) : (keyN S M : Int) = 1 + bl S (cl M 16) ∧ keyN S M ≤ 16 := by
  have h1 := cl_range M 16 (by omega)
  have h2 := bl_range S (cl M 16) h1.1
  unfold keyN; omega
theorem letter_cast (x : Int) (h0 : 0 ≤ x) (h1 : x < 26) : ((UInt8.ofNat (97 + x).toNat).toNat : Int) = 97 + x := by
  rw [UInt8.toNat_ofNat_of_lt' (by simp [UInt8.size]; omega)]; omega
theorem writeByte_x (B b : Nat) (l : List UInt8) (x : Int) (w : World) (h0 : 0 ≤ x) (h1 : x < 26) (h : Bd B b l w) (hlen : l.length + 1 ≤ 140737488355328) (hBw : B ≤ w.heap.size) :
    Calls Try.prog 25 #[.pointer (some ⟨b, 0, none⟩), .int .u8 (97 + x)] w fun e w' => e = .returned .nilIface ∧ Bd B b (l ++ [UInt8.ofNat (97 + x).toNat]) w' ∧ Below B w w' := by
  have q := writeByte_any B b l (UInt8.ofNat (97 + x).toNat) w h hlen hBw
  rw [letter_cast x h0 h1] at q
  refine q.mono ?_
  rintro e w' ⟨h2, h3, h4, _⟩
  exact ⟨h2, h3, h4⟩
set_option maxHeartbeats 2000000 in
set_option maxRecDepth 4000 in
theorem key_p {w : World} {g : Nat} {S : Int} (L M : Int) (h : Src w 63 g S) :
    Calls Try.prog 10 #[.pointer (some ⟨g, 0, none⟩), .int .i64 L, .int .i64 M] w fun e w' => e = .returned (.string (keyB S L M)) ∧ Eff 63 g (keyS S L M) w w' := by
  have hG := h.lt
  have H := Lib.hid h
  have HB := Lib.hid (Bd.new w)
  have hb0 : Below w.heap.size w (w.alloc (.cells #[.pointer none, .slice none 0 0] 69)) := by go_grown
  have HE : Hid (Eff 63 g S w (w.alloc (.cells #[.pointer none, .slice none 0 0] 69))) := Lib.hid (Eff.later ⟨h, Chg.refl _ _⟩ hb0)
  have HS : Hid (Src (w.alloc (.cells #[.pointer none, .slice none 0 0] 69)) 63 g S) := Lib.hid HE.out.1
  have hm := cl_range M 16 (by omega)
  have hl := cl_range L 26 (by omega)
  have hk := keyN_cast S M
  obtain ⟨n, hn⟩ : ∃ n, n = keyN S M := ⟨_, rfl⟩
  obtain ⟨S1, hS1⟩ : ∃ x, x = bs S (cl M 16) := ⟨_, rfl⟩
  obtain ⟨L1, hL1⟩ : ∃ x, x = cl L 26 := ⟨_, rfl⟩
  obtain ⟨M1, hM1⟩ : ∃ x, x = cl M 16 := ⟨_, rfl⟩
  obtain ⟨x0, hx0⟩ : ∃ x, x = bl S (cl M 16) := ⟨_, rfl⟩
  have CL := Lib.hid (clip_p L 26 w (by omega))
  have CM := Lib.hid (clip_p M 16 w (by omega))
  have BM := Lib.hid (below_p (cl M 16) HS.out (by omega))
  have hres : keyB S L M = ⟨(kbs S1 L1 n).toArray⟩ ∧ keyS S L M = kst S1 L1 n := by
    rw [hS1, hL1, hn]; exact ⟨rfl, rfl⟩
  rw [hres.1, hres.2]
  rw [← hn, ← hx0] at hk
  rw [← hM1] at CM BM hm
  rw [← hM1] at hx0 hS1
  rw [← hx0, ← hS1] at BM
  rw [← hL1] at CL hl
  have hx1 : 1 + x0 = n := by omega
  have hk2 := hk.2
  clear hres hx0 hS1 hL1 hM1 h hb0 hn hk
  go_enter Try.func10, Try.ntmps10
  go_wp2_with (first
    | (go_at_call 24; ((with_reducible refine CL.out.mono ?_); rintro e w1 ⟨rfl, rfl⟩))
    | (go_at_call 24; ((with_reducible refine CM.out.mono ?_); rintro e w1 ⟨rfl, rfl⟩))
    | (go_at_call 8; ((with_reducible refine BM.out.mono ?_); rintro e w2 ⟨rfl, h2⟩; have H2 : Hid (Eff 63 g S1 w w2) := Lib.hid (HE.out.trans h2); have D2 := Lib.hid (HB.out.chg h2.2 (by omega)); clear h2))
    | fail)
  go_loopw [18] (fun iv wr => ∃ k : Nat, k ≤ n ∧ iv = .int .i64 k ∧ Bd w.heap.size w.heap.size (kbs S1 L1 k) wr ∧ Eff 63 g (kst S1 L1 k) w wr) (fun i _ => n - (intOf i).toNat)
  case atStart => exact ⟨0, by omega, rfl, D2.out, H2.out⟩
  case round =>
    obtain ⟨k, hkn, rfl, hd, he⟩ := hrel
    have HD := Lib.hid hd
    have HE2 := Lib.hid he
    have HSZ : Hid (w.heap.size ≤ wr.heap.size) := Lib.hid he.2.size
    have HKL : Hid ((kbs S1 L1 k).length = k) := Lib.hid (kbs_length S1 L1 k)
    have HN : Hid (n ≤ 16) := Lib.hid hk2
    clear hd he H2 D2 HE HB HS
    by_cases h8 : k < n
    · have hk1 : (k : Int) < (n : Int) := by omega
      have hx := bl_range (kst S1 L1 k) L1 hl.1
      have BL := Lib.hid (below_p L1 HE2.out.1 (by omega))
      have HK1 : Hid (kbs S1 L1 (k + 1) = kbs S1 L1 k ++ [UInt8.ofNat (97 + bl (kst S1 L1 k) L1).toNat] ∧ kst S1 L1 (k + 1) = bs (kst S1 L1 k) L1) := Lib.hid ⟨rfl, rfl⟩
      generalize bl (kst S1 L1 k) L1 = x at *
      have hxu : IntKind.u8.wrap (97 + x) = 97 + x := by simp [IntKind.wrap, IntKind.bits, IntKind.signed]; omega
      have HX : Hid (0 ≤ x ∧ x < 26) := Lib.hid (by omega)
      have WB : Hid (∀ W, Bd w.heap.size w.heap.size (kbs S1 L1 k) W → w.heap.size ≤ W.heap.size → Calls Try.prog 25 #[.pointer (some ⟨w.heap.size, 0, none⟩), .int .u8 (97 + x)] W fun e w' => e = .returned .nilIface ∧ Bd w.heap.size w.heap.size (kbs S1 L1 k ++ [UInt8.ofNat (97 + x).toNat]) w' ∧ Below w.heap.size W w') := Lib.hid (fun W hb hs => writeByte_x w.heap.size w.heap.size _ x W HX.out.1 HX.out.2 hb (by have := HKL.out; have := HN.out; omega) hs)
      go_wp2_with (first
        | (go_at_call 8; ((with_reducible refine BL.out.mono ?_); rintro e w3 ⟨rfl, h3⟩; have H3 := Lib.hid (HE2.out.trans h3); have D3 := Lib.hid (HD.out.chg h3.2 hG); clear h3))
        | (go_at_call 25; ((with_reducible refine (WB.out _ D3.out H3.out.size).mono ?_); rintro e w4 ⟨rfl, d4, b4⟩; have D4 := Lib.hid d4; have H4 := Lib.hid (H3.out.low b4 (Nat.le_refl _) hG); clear d4 b4))
        | fail)
      refine ⟨⟨k + 1, by omega, by simp, ?_, ?_⟩, by simp [intOf]; omega⟩
      · rw [HK1.out.1]; exact D4.out
      · rw [HK1.out.2]; exact H4.out
    · have hk1 : ¬ (k : Int) < (n : Int) := by omega
      have e8 : k = n := by omega
      subst e8
      go_wp2_with (first
        | (go_at_call 26; ((with_reducible refine (string_keep w.heap.size w.heap.size _ _ HD.out HSZ.out).mono ?_); rintro e w3 ⟨rfl, d3, b3⟩; have H3 := Lib.hid (HE2.out.low b3 (Nat.le_refl _) hG); clear d3 b3))
        | fail)
      go_ret
      exact ⟨rfl, H3.out⟩

theorem letter_of (x : Int) (h0 : 0 ≤ x) (h1 : x < 26) : (⟨#[97, 98, 99, 100, 101, 102, 103, 104, 105, 106, 107, 108, 109, 110, 111, 112, 113, 114, 115, 116, 117, 118, 119, 120, 121, 122]⟩ : ByteArray).extract x.toNat (x + 1).toNat = ⟨#[UInt8.ofNat (97 + x).toNat]⟩ := by
  obtain ⟨n, rfl⟩ : ∃ n : Nat, x = n := ⟨x.toNat, by omega⟩
  have hn : n < 26 := by omega
  rw [show ((n : Int) + 1).toNat = n + 1 by omega, show (97 + (n : Int)).toNat = 97 + n by omega, Int.toNat_natCast]
  clear h0 h1
  revert n
  decide
theorem kbs_push (S L : Int) (k : Nat) : (⟨(kbs S L k).toArray⟩ : ByteArray) ++ ⟨#[UInt8.ofNat (97 + bl (kst S L k) L).toNat]⟩ = ⟨(kbs S L (k + 1)).toArray⟩ := by
  apply ByteArray.ext
  simp [kbs]
set_option maxHeartbeats 2000000 in
set_option maxRecDepth 4000 in
theorem key_d {w : World} {g : Nat} {S : Int} (L M : Int) (h : Src w 27 g S) :
    Calls Try.prog 11 #[.pointer (some ⟨g, 0, none⟩), .int .i64 L, .int .i64 M] w fun e w' => e = .returned (.string (keyB S L M)) ∧ Eff 27 g (keyS S L M) w w' := by
  have hm := cl_range M 16 (by omega)
  have hl := cl_range L 26 (by omega)
  have hk := keyN_cast S M
  obtain ⟨n, hn⟩ : ∃ n, n = keyN S M := ⟨_, rfl⟩
  obtain ⟨S1, hS1⟩ : ∃ x, x = bs S (cl M 16) := ⟨_, rfl⟩
  obtain ⟨L1, hL1⟩ : ∃ x, x = cl L 26 := ⟨_, rfl⟩
  obtain ⟨M1, hM1⟩ : ∃ x, x = cl M 16 := ⟨_, rfl⟩
  obtain ⟨x0, hx0⟩ : ∃ x, x = bl S (cl M 16) := ⟨_, rfl⟩
  have CL := Lib.hid (clip_d L 26 w (by omega))
  have CM := Lib.hid (clip_d M 16 w (by omega))
  have BM := Lib.hid (below_d (cl M 16) h (by omega))
  have hres : keyB S L M = ⟨(kbs S1 L1 n).toArray⟩ ∧ keyS S L M = kst S1 L1 n := by
    rw [hS1, hL1, hn]; exact ⟨rfl, rfl⟩
  rw [hres.1, hres.2]
  rw [← hn, ← hx0] at hk
  rw [← hM1] at CM BM hm
  rw [← hM1] at hx0 hS1
  rw [← hx0, ← hS1] at BM
  rw [← hL1] at CL hl
  have hx1 : x0 + 1 = n := by omega
  have hk2 := hk.2
  have HE0 : Hid (Eff 27 g S w w) := Lib.hid ⟨h, Chg.refl _ _⟩
  clear hres hx0 hS1 hL1 hM1 h hn hk
  go_enter Try.func11, Try.ntmps11
  go_wp2_with (first
    | (go_at_call 27; ((with_reducible refine CL.out.mono ?_); rintro e w1 ⟨rfl, rfl⟩))
    | (go_at_call 27; ((with_reducible refine CM.out.mono ?_); rintro e w1 ⟨rfl, rfl⟩))
    | (go_at_call 9; ((with_reducible refine BM.out.mono ?_); rintro e w2 ⟨rfl, h2⟩; have H2 : Hid (Eff 27 g S1 w w2) := Lib.hid h2; clear h2))
    | fail)
  go_loopw [8, 9, 10] (fun ov iv _ wr => ∃ k : Nat, k ≤ n ∧ iv = .int .i64 k ∧ ov = .string ⟨(kbs S1 L1 k).toArray⟩ ∧ Eff 27 g (kst S1 L1 k) w wr) (fun _ i _ _ => n - (intOf i).toNat)
  case atStart => exact ⟨0, by omega, rfl, rfl, H2.out⟩
  case round =>
    obtain ⟨k, hkn, rfl, rfl, he⟩ := hrel
    have HE2 := Lib.hid he
    have HSRC := Lib.hid he.1
    clear he H2
    by_cases h8 : k < n
    · have hk1 : (k : Int) < (n : Int) := by omega
      have hx := bl_range (kst S1 L1 k) L1 hl.1
      have BL := Lib.hid (below_d L1 HSRC.out (by omega))
      have hpush := kbs_push S1 L1 k
      have HK2 : Hid (kst S1 L1 (k + 1) = bs (kst S1 L1 k) L1) := Lib.hid rfl
      generalize bl (kst S1 L1 k) L1 = x at *
      have hlet := letter_of x hx.1 (by omega)
      have hx26 : x < 26 := by omega
      obtain ⟨s0, hs0⟩ : ∃ s : ByteArray, s = ⟨(kbs S1 L1 k).toArray⟩ := ⟨_, rfl⟩
      have hsz : ¬ 9223372036854775807 < s0.size + 1 := by
        have e : s0.size = k := by rw [hs0]; show (kbs S1 L1 k).toArray.size = k; rw [List.size_toArray, kbs_length]
        omega
      rw [← hs0] at hpush ⊢
      have HPU := Lib.hid hpush
      clear hpush hs0
      go_wp2_with (first
        | (go_at_call 9; ((with_reducible refine BL.out.mono ?_); rintro e w3 ⟨rfl, h3⟩; have H3 := Lib.hid (HE2.out.trans h3); clear h3))
        | fail)
      refine ⟨⟨k + 1, by omega, by simp, ?_, ?_⟩, by simp [intOf]; omega⟩
      · rw [HPU.out]
      · rw [HK2.out]; exact H3.out
    · have hk1 : ¬ (k : Int) < (n : Int) := by omega
      have e8 : k = n := by omega
      subst e8
      go_wp2
      go_ret
      exact ⟨rfl, HE2.out⟩
end Go.Proofs.Ytnchpfmpjpnciaa
