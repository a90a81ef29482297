/- The program's Many. -/
import Derived.Test.YtpihoegikojlaaaP5
namespace Go.Proofs.Ytpihoegikojlaaa
set_option linter.unusedSimpArgs false
open Go.RowKit Go.Maps
set_option linter.unusedVariables false
variable {F : Nat → Prop}

section
variable {w : World} {lo N : Nat} {A G : Option Addr} {c d : Nat} {b : AB}
/-- What Many leaves. -/
def MPost (lo N : Nat) (A G : Option Addr) (d : Nat) (b' : AB) (l : List Int) (v : Int) (w : World) (e : Ending) (w' : World) : Prop :=
  ∃ L n k A' G' c' d', e = .returned (.tuple #[.slice L n k, .int .i64 v]) ∧ l.length = n ∧ RdI w' L l ∧ PA w' lo N A' G' c' d' b' ∧ Chg (FA N A G d) w w' ∧ ∀ g, FA N A' G' d' g → FA N A G d g ∨ w.heap.size ≤ g
set_option maxRecDepth 100000 in
theorem pmany_neg (n v : Int) (h : PA w lo N A G c d b) (hn : n < 0) :
    Calls Try.prog 24 #[.pointer (some ⟨N, 0, none⟩), .int .i64 n, .int .i64 v] w (MPost lo N A G d b [] 2 w) := by
  have H := Lib.hid h
  clear h
  go_enter Try.func24, Try.ntmps24
  go_wp2
  refine bodyPost_ret (v := .tuple #[.slice none 0 0, .int .i64 2]) (by simp [results, Try.results24, go_sem]) rfl ⟨none, 0, 0, A, G, c, d, rfl, rfl, .inl rfl, H.out, Chg.refl _ _, fun g hg => .inl hg⟩
set_option maxRecDepth 100000 in
theorem pmany_full (n v : Int) (h : PA w lo N A G c d b) (iv : IV b) (hn : ¬ n < 0) (hf : b.most - cnt b.tk 64 < n) :
    Calls Try.prog 24 #[.pointer (some ⟨N, 0, none⟩), .int .i64 n, .int .i64 v] w (MPost lo N A G d b [] 9 w) := by
  have C := Lib.hid (pleft h iv)
  have H := Lib.hid h
  clear h iv
  go_enter Try.func24, Try.ntmps24
  go_wp2_with fail
  refine C.out.mono ?_
  rintro e w1 ⟨rfl, hb⟩
  go_wp2
  refine bodyPost_ret (v := .tuple #[.slice none 0 0, .int .i64 9]) (by simp [results, Try.results24, go_sem]) rfl ⟨none, 0, 0, A, G, c, d, rfl, rfl, .inl rfl, H.out.later hb, Chg.of_below hb, fun g hg => .inl hg⟩
set_option maxRecDepth 100000 in
set_option maxHeartbeats 2000000 in
theorem pmany_yes (n : Nat) (v : Int) (h : PA w lo N A G c d b) (iv : IV b) (hlo : lo ≤ w.heap.size) (hf : ¬ b.most - cnt b.tk 64 < (n : Int)) :
    Calls Try.prog 24 #[.pointer (some ⟨N, 0, none⟩), .int .i64 n, .int .i64 v] w (MPost lo N A G d (manyA b v n) (manyL b v n) 0 w) := by
  have C := Lib.hid (pleft h iv)
  have H := Lib.hid h
  have IVH := Lib.hid iv
  have hq : (n : Int) ≤ b.most - cnt b.tk 64 := by omega
  have HQ := Lib.hid hq
  have hn60 : n ≤ 60 := by have := iv.m1; omega
  have h0 : (0 : Int) ≤ (n : Int) := by omega
  have HLO := Lib.hid hlo
  clear h iv hq
  go_enter Try.func24, Try.ntmps24
  go_wp2_with fail
  refine C.out.mono ?_
  rintro e w1 ⟨rfl, hb⟩
  have HB := Lib.hid hb
  clear hb
  go_wp2_with fail
  go_loopw [8, 23] (fun v8 v23 W => ∃ (k : Nat) (B : Option Addr) (cB : Nat) (A' G' : Option Addr) (c' d' : Nat), k ≤ n ∧ v23 = .int .i64 k ∧ v8 = .slice B k cB ∧ Row W w.heap.size B (manyL b v k) cB ∧ PA W lo N A' G' c' d' (manyA b v k) ∧ Chg (FA N A G d) w W ∧ (∀ g, FA N A' G' d' g → FA N A G d g ∨ w.heap.size ≤ g) ∧ ∀ g, fpr B cB = some g → ¬ FA N A' G' d' g) (fun _ i _ => n - (intOf i).toNat)
  case atStart => exact ⟨0, none, 0, A, G, c, d, by omega, rfl, rfl, .inl ⟨rfl, rfl⟩, H.out.later HB.out, Chg.of_below HB.out, fun g hg => .inl hg, fun g hg => by simp [fpr] at hg⟩
  case round =>
    obtain ⟨k, B, cB, A', G', c', d', hk, rfl, rfl, hR, hP, hC, hG, hS⟩ := hrel
    have HR := Lib.hid hR
    have HP := Lib.hid hP
    have HC := Lib.hid hC
    have HG := Lib.hid hG
    have HS := Lib.hid hS
    clear hR hP hC hG hS
    by_cases h8 : k = n
    · have hkn : ¬ (k : Int) < (n : Int) := by omega
      have HKN := Lib.hid h8
      clear h8
      go_wp2_with fail
      refine bodyPost_ret (v := .tuple #[.slice B k cB, .int .i64 0]) (by simp [results, Try.results24, go_sem]) rfl ⟨B, k, cB, A', G', c', d', rfl, by rw [manyL_len]; exact HKN.out.symm, by have := HR.out.rd; rw [HKN.out] at this; exact this, by have := HP.out; rw [HKN.out] at this; exact this, HC.out, HG.out⟩
    · have hkn : (k : Int) < (n : Int) := by omega
      have hk0 : (0 : Int) ≤ (k : Int) := by omega
      have hiv := IVH.out.many v k
      have he := many_err IVH.out v k (by have := HQ.out; omega)
      have CT := ptake_any v HP.out hiv (by have := HC.out.size; have := HLO.out; omega)
      rw [he] at CT
      have CTH := Lib.hid CT
      have hrl := manyL_len b v k
      have HRL := Lib.hid hrl
      clear CT hiv he h8 hrl
      go_wp2_with fail
      refine CTH.out.mono ?_
      rintro e w2 ⟨A2, G2, c2, d2, rfl, hP2, hC2, hG2⟩
      have HP2 := Lib.hid hP2
      have HC2 := Lib.hid hC2
      have HG2 := Lib.hid hG2
      have HR2 := Lib.hid (HR.out.chg hC2 HS.out)
      have hz : w.heap.size ≤ w2.heap.size := Nat.le_trans HC.out.size hC2.size
      have HW : Hid (Below w2.heap.size w2 (w2.alloc (.cells #[.int .i64 (takeI (manyA b v k))] 3))) := Lib.hid (by go_grown)
      have HL : Hid (RdI (w2.alloc (.cells #[.int .i64 (takeI (manyA b v k))] 3)) (some ⟨w2.heap.size, 0, none⟩) [takeI (manyA b v k)]) := Lib.hid (rdi_lit w2 3 [takeI (manyA b v k)])
      clear hP2 hC2 hG2
      go_wp2_with (first
        | (at_builtin; refine wpList_put_row _ rfl (.tmp 34) (.tmp 36) rfl (base := w.heap.size) B k cB (manyL b v k) (some ⟨w2.heap.size, 0, none⟩) 1 1 [takeI (manyA b v k)] rfl rfl (HR2.out.bel HW.out) HRL.out (by omega) (by have := HW.out.size; omega) rfl (by omega) HL.out ?_; intro B3 c3 w3 r1 r2 r3; have R1 := Lib.hid r1; have R2 := Lib.hid r2; have R3 := Lib.hid r3; clear r1 r2 r3)
        | fail)
      have hsz := HW.out.size
      have hB3 : fpr B3 c3 = none ∨ fpr B3 c3 = fpr B cB ∨ fpr B3 c3 = some (w2.heap.size + 1) := by
        have h := R3.out
        rw [World.size_alloc] at h; exact h
      have hSB : ∀ g, fpr B cB = some g → ¬ FA N A2 G2 d2 g := by
        intro g hg hf
        rcases HG2.out g hf with x | x
        · exact HS.out g hg x
        · have := (HR.out.fp_lt hg).2; omega
      have hcc : Chg (fun g => fpr B cB = some g) (w2.alloc (.cells #[.int .i64 (takeI (manyA b v k))] 3)) w3 := Chg.of_grown R2.out (fun g hg => hg)
      have hP3 := (HP2.out.later HW.out).far hcc (fun g hg => hSB g hg)
      have hC3 : Chg (FA N A G d) w w3 := ((HC.out.trans HC2.out HG.out).trans (Chg.of_below (D := FA N A G d) HW.out) (fun g hg => .inl hg)).trans hcc (fun g hg => .inr (HR.out.fp_lt hg).1)
      refine ⟨⟨k + 1, B3, c3, A2, G2, c2, d2, by omega, by simp, rfl, R1.out, hP3, hC3, fun g hg => ?_, fun g hg hf => ?_⟩, by simp [intOf]; omega⟩
      · rcases HG2.out g hg with x | x
        · exact HG.out g x
        · right; have := HC.out.size; omega
      · rcases hB3 with e | e | e
        · rw [e] at hg; cases hg
        · rw [e] at hg; exact hSB g hg hf
        · rw [e] at hg; cases hg
          have := HP2.out.fin _ hf
          omega
theorem pmany_any (n v : Int) (h : PA w lo N A G c d b) (iv : IV b) (hlo : lo ≤ w.heap.size) :
    Calls Try.prog 24 #[.pointer (some ⟨N, 0, none⟩), .int .i64 n, .int .i64 v] w (MPost lo N A G d (manyB b n v) (manyR b n v) (manyE b n) w) := by
  unfold manyB manyR manyE
  by_cases h1 : n < 0
  · rw [if_pos h1, if_pos h1, if_pos h1]; exact pmany_neg n v h h1
  · rw [if_neg h1, if_neg h1, if_neg h1]
    by_cases h2 : b.most - cnt b.tk 64 < n
    · rw [if_pos h2, if_pos h2, if_pos h2]; exact pmany_full n v h iv h1 h2
    · rw [if_neg h2, if_neg h2, if_neg h2]
      obtain ⟨m, rfl⟩ : ∃ m : Nat, n = m := ⟨n.toNat, by omega⟩
      rw [Int.toNat_natCast]
      exact pmany_yes m v h iv hlo h2
end
end Go.Proofs.Ytpihoegikojlaaa
