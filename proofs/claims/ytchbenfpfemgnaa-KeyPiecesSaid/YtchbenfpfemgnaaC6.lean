/- The law KeyPieces: its walk. -/
import Derived.Test.YtchbenfpfemgnaaC5
namespace Go.Proofs.Ytchbenfpfemgnaa
set_option linter.unusedSimpArgs false
open Go.RowKit
set_option linter.unusedVariables false

theorem pieces_any (f t : ByteArray) (E : Option Addr) (n c : Nat) (ends : List ByteArray) (w : World) (hl : ends.length = n) (hn : n ≤ 1000000) (hE : Rd w w.heap.size E (ends.map Value.string)) :
    Calls Try.prog 26 #[.agg #[.string f, .string t], .slice E n c] w (GotPieces (pcs f t ends) w) := by
  cases h : sb f t
  · exact pieces_no f t E n c ends w h
  · exact pieces_yes f t E n c ends w h hl hn hE
theorem rpieces_any (f t : ByteArray) (E : Option Addr) (n c : Nat) (ends : List ByteArray) (w : World) (hl : ends.length = n) (hn : n ≤ 1000000) (hE : Rd w w.heap.size E (ends.map Value.string)) :
    Calls Try.prog 28 #[.agg #[.string f, .string t], .slice E n c] w (GotPieces (pcs f t ends) w) := by
  cases h : sb f t
  · exact rpieces_no f t E n c ends w h
  · exact rpieces_yes f t E n c ends w h hl hn hE
def GotN (F : List (ByteArray × ByteArray)) (m : Nat) (w : World) (e : Ending) (w' : World) : Prop :=
  ∃ A c, e = .returned (.slice A m c) ∧ Rd w' w'.heap.size A (flat F) ∧ Below w.heap.size w w'
theorem cnt_le (l : List (ByteArray × ByteArray)) (s : ByteArray) : cnt l s ≤ l.length := List.length_filter_le _ _

set_option maxRecDepth 100000 in
set_option maxHeartbeats 4000000 in
theorem kp_any (f t : ByteArray) (E : Option Addr) (len cap : Nat) (ends : List ByteArray) (s : ByteArray) (w : World) (hcap : len ≤ cap) (hm : cap ≤ maxLen) (m : Nat) (hcase : (len < 30 ∧ m = len) ∨ (len = 30 ∧ m = 30) ∨ (30 < len ∧ m = 30)) (hl : ends.length = m) (hR : Rd w w.heap.size E (ends.map Value.string)) :
    Calls Try.prog 6 #[.agg #[.string f, .string t], .slice E len cap, .string s] w fun e w' => e = .returned (.bool true) ∧ Below w.heap.size w w' := by
  unfold maxLen at hm
  rcases hcase with ⟨hc1, rfl⟩ | ⟨rfl, rfl⟩ | ⟨hc1, rfl⟩
  · have f1 : (m : Int) < 30 := by omega
    have c26 := fun W h => pieces_any f t E m cap ends W hl (by omega) h
    have c28 := fun W h => rpieces_any f t E m cap ends W hl (by omega) h
    have ct := cnt_pcs f t s ends
    have c0 : sb f t = false → pcs f t ends = [] := fun h => by unfold pcs; rw [h]; rfl
    have hFl : (pcs f t ends).length ≤ 31 := by
      unfold pcs
      split
      · have := pss_len f t ends; simp; omega
      · simp
    obtain ⟨F, hF⟩ : ∃ F, F = pcs f t ends := ⟨_, rfl⟩
    rw [← hF] at c26 c28 ct c0 hFl
    obtain ⟨q, hq⟩ : ∃ q, q = F.length := ⟨_, rfl⟩
    have d26 : ∀ W, Rd W W.heap.size E (ends.map Value.string) → Calls Try.prog 26 #[.agg #[.string f, .string t], .slice E m cap] W (GotN F q W) := fun W h => (c26 W h).mono fun e w' ⟨A, c, h1, h2, h3⟩ => ⟨A, c, by rw [h1, hq], h2, h3⟩
    have d28 : ∀ W, Rd W W.heap.size E (ends.map Value.string) → Calls Try.prog 28 #[.agg #[.string f, .string t], .slice E m cap] W (GotN F q W) := fun W h => (c28 W h).mono fun e w' ⟨A, c, h1, h2, h3⟩ => ⟨A, c, by rw [h1, hq], h2, h3⟩
    have C26 := Lib.hid d26
    have C28 := Lib.hid d28
    have HQ := Lib.hid hq
    have CT := Lib.hid ct
    have CC0 := Lib.hid c0
    have hq31 : q ≤ 31 := by omega
    clear c26 c28 d26 d28 hF hq ct c0 hFl hl
    have C21 := Lib.hid (fun a b W => holds_any a b s W)
    obtain ⟨y, hy⟩ : ∃ y, y = sb f t := ⟨_, rfl⟩
    have C20 := fun W => rright_at f t W
    rw [← hy] at C20
    obtain ⟨z, hz⟩ : ∃ z, z = has f t s := ⟨_, rfl⟩
    have C21f := fun W => holds_any f t s W
    rw [← hz] at C21f
    have C20' := Lib.hid C20
    have C21' := Lib.hid C21f
    have HY := Lib.hid hy
    have HZ := Lib.hid hz
    clear C20 C21f hy hz
    go_enter Try.func6, Try.ntmps6
    go_wp2_with fail
    refine (C26.out _ (hR.later ((Below.refl _ _).alloc (Nat.le_refl _) _))).mono ?_
    rintro e w1 ⟨A, c, rfl, RA, hb⟩
    have b0 : w1.cell? ⟨w.heap.size, 0, none⟩ = some (.string f) := bel_later hb (by simp [go_sem])
    have b1 : w1.cell? ⟨w.heap.size, 1, none⟩ = some (.string t) := bel_later hb (by simp [go_sem])
    have H1 := bel_a hb
    clear hb
    go_wp2_with fail
    refine (C28.out _ (hR.later H1)).mono ?_
    rintro e w2 ⟨B, d, rfl, RB, hb⟩
    have b0' := bel_later hb b0
    have b1' := bel_later hb b1
    have RA2 := RA.later hb
    have H2 := bel_trans H1 hb
    clear hb b0 b1 RA H1
    go_wp2_with fail
    refine (same_yes A B q c d F _ HQ.out.symm (by omega) RA2 RB).mono ?_
    rintro e w3 ⟨rfl, hb⟩
    have b0 := bel_later hb b0'
    have b1 := bel_later hb b1'
    have RA := RA2.later hb
    have H3 := bel_trans H2 hb
    clear hb b0' b1' RA2 RB H2
    go_wp2
    go_loopw [8, 9] (fun nv iv wr => ∃ k : Nat, k ≤ q ∧ iv = .int .i64 k ∧ nv = .int .i64 (cnt (F.take k) s : Nat) ∧ Below w3.heap.size w3 wr) (fun _ i _ => q - (intOf i).toNat)
    case atStart => exact ⟨0, by omega, rfl, by simp [cnt], Below.refl _ _⟩
    case round =>
      obtain ⟨k, hk, rfl, rfl, hb⟩ := hrel
      by_cases h8 : k = q
      · have he : F.take k = F := by rw [h8, HQ.out]; exact List.take_length
        rw [he]
        have hkn : ¬ (k : Int) < (q : Int) := by omega
        have g0 := bel_later hb b0
        have g1 := bel_later hb b1
        have H4 := bel_trans H3 hb
        clear b0 b1 he RA hb
        cases y
        · have hF0 : F = [] := CC0.out HY.out.symm
          have hc : cnt F s = 0 := by rw [hF0]; rfl
          rw [hc]
          go_wp2_with fail
          refine (C20'.out _).mono ?_
          rintro e w4 ⟨rfl, rfl⟩
          go_wp2_with fail
          refine (live_any _).mono ?_
          rintro e w5 ⟨rfl, hb⟩
          go_wp2
          go_ret
          exact ⟨by simp, bel_trans H4 (bel_a hb)⟩
        · have hc := CT.out HY.out.symm
          rw [← HZ.out] at hc
          cases z
          · rw [hc]
            go_wp2_with fail
            refine (C20'.out _).mono ?_
            rintro e w4 ⟨rfl, rfl⟩
            go_wp2_with fail
            refine (live_any _).mono ?_
            rintro e w5 ⟨rfl, hb⟩
            have H5 := bel_trans H4 (bel_a hb)
            have x0 : w5.cell? ⟨w.heap.size, 0, none⟩ = some (.string f) := bel_later hb (bel_later ((Below.refl _ _).alloc (Nat.le_refl _) _) g0)
            have x1 : w5.cell? ⟨w.heap.size, 1, none⟩ = some (.string t) := bel_later hb (bel_later ((Below.refl _ _).alloc (Nat.le_refl _) _) g1)
            clear g0 g1 hb
            go_wp2_with fail
            refine (C21'.out _).mono ?_
            rintro e w6 ⟨rfl, hb⟩
            go_wp2
            go_ret
            exact ⟨by simp, bel_trans H5 hb⟩
          · rw [hc]
            go_wp2_with fail
            refine (C20'.out _).mono ?_
            rintro e w4 ⟨rfl, rfl⟩
            go_wp2_with fail
            refine (live_any _).mono ?_
            rintro e w5 ⟨rfl, hb⟩
            have H5 := bel_trans H4 (bel_a hb)
            have x0 : w5.cell? ⟨w.heap.size, 0, none⟩ = some (.string f) := bel_later hb (bel_later ((Below.refl _ _).alloc (Nat.le_refl _) _) g0)
            have x1 : w5.cell? ⟨w.heap.size, 1, none⟩ = some (.string t) := bel_later hb (bel_later ((Below.refl _ _).alloc (Nat.le_refl _) _) g1)
            clear g0 g1 hb
            go_wp2_with fail
            refine (C21'.out _).mono ?_
            rintro e w6 ⟨rfl, hb⟩
            go_wp2
            go_ret
            exact ⟨by simp, bel_trans H5 hb⟩
      · have hkn : k < q := by omega
        have hk1 : (k : Int) < (q : Int) := by omega
        have hk0 : (0 : Int) ≤ (k : Int) := by omega
        have hkl : k < F.length := by rw [← HQ.out]; exact hkn
        obtain ⟨g0, g1⟩ := flat_get F k hkl
        rcases RA with hA | ⟨b, off, rfl, hlt, hc⟩
        · rw [hA] at g0; simp at g0
        have e0 := bel_later hb (hc _ _ g0)
        have e1 := bel_later hb (hc _ _ g1)
        rw [← Nat.add_assoc] at e1
        have ts : F.take (k + 1) = F.take k ++ [F[k]] := List.take_succ_eq_append_getElem hkl
        obtain ⟨⟨x, v⟩, hx⟩ : ∃ x, x = F[k] := ⟨_, rfl⟩
        rw [← hx] at e0 e1 ts
        simp only at e0 e1
        have TS : Hid (cnt (F.take (k + 1)) s = cnt (F.take k) s + if has x v s then 1 else 0) := Lib.hid (by rw [ts, cnt_snoc])
        have cl := cnt_le (F.take k) s
        rw [List.length_take] at cl
        obtain ⟨a, ha⟩ : ∃ a, a = cnt (F.take k) s := ⟨_, rfl⟩
        rw [← ha] at cl ⊢
        have HA := Lib.hid ha
        have al : (a : Int) ≤ 31 := by omega
        have C := fun W => C21.out x v W
        obtain ⟨u, hu⟩ : ∃ u, u = has x v s := ⟨_, rfl⟩
        rw [← hu] at C
        have HU := Lib.hid hu
        have CU := Lib.hid C
        clear hc g0 g1 hx ts ha hu C cl
        cases u
        all_goals
          go_wp2_with fail
          refine (CU.out _).mono ?_
          rintro e w4 ⟨rfl, hb4⟩
          go_wp2
          refine ⟨⟨k + 1, by omega, by simp, ?_, bel_trans hb hb4⟩, by simp [intOf]; omega⟩
          rw [TS.out, ← HA.out, ← HU.out]
          simp
  · have f1 : (30 : Int) ≤ (cap : Int) := by omega
    have c26 := fun W h => pieces_any f t E 30 cap ends W hl (by omega) h
    have c28 := fun W h => rpieces_any f t E 30 cap ends W hl (by omega) h
    have ct := cnt_pcs f t s ends
    have c0 : sb f t = false → pcs f t ends = [] := fun h => by unfold pcs; rw [h]; rfl
    have hFl : (pcs f t ends).length ≤ 31 := by
      unfold pcs
      split
      · have := pss_len f t ends; simp; omega
      · simp
    obtain ⟨F, hF⟩ : ∃ F, F = pcs f t ends := ⟨_, rfl⟩
    rw [← hF] at c26 c28 ct c0 hFl
    obtain ⟨q, hq⟩ : ∃ q, q = F.length := ⟨_, rfl⟩
    have d26 : ∀ W, Rd W W.heap.size E (ends.map Value.string) → Calls Try.prog 26 #[.agg #[.string f, .string t], .slice E 30 cap] W (GotN F q W) := fun W h => (c26 W h).mono fun e w' ⟨A, c, h1, h2, h3⟩ => ⟨A, c, by rw [h1, hq], h2, h3⟩
    have d28 : ∀ W, Rd W W.heap.size E (ends.map Value.string) → Calls Try.prog 28 #[.agg #[.string f, .string t], .slice E 30 cap] W (GotN F q W) := fun W h => (c28 W h).mono fun e w' ⟨A, c, h1, h2, h3⟩ => ⟨A, c, by rw [h1, hq], h2, h3⟩
    have C26 := Lib.hid d26
    have C28 := Lib.hid d28
    have HQ := Lib.hid hq
    have CT := Lib.hid ct
    have CC0 := Lib.hid c0
    have hq31 : q ≤ 31 := by omega
    clear c26 c28 d26 d28 hF hq ct c0 hFl hl
    have C21 := Lib.hid (fun a b W => holds_any a b s W)
    obtain ⟨y, hy⟩ : ∃ y, y = sb f t := ⟨_, rfl⟩
    have C20 := fun W => rright_at f t W
    rw [← hy] at C20
    obtain ⟨z, hz⟩ : ∃ z, z = has f t s := ⟨_, rfl⟩
    have C21f := fun W => holds_any f t s W
    rw [← hz] at C21f
    have C20' := Lib.hid C20
    have C21' := Lib.hid C21f
    have HY := Lib.hid hy
    have HZ := Lib.hid hz
    clear C20 C21f hy hz
    go_enter Try.func6, Try.ntmps6
    go_wp2_with fail
    refine (C26.out _ (hR.later ((Below.refl _ _).alloc (Nat.le_refl _) _))).mono ?_
    rintro e w1 ⟨A, c, rfl, RA, hb⟩
    have b0 : w1.cell? ⟨w.heap.size, 0, none⟩ = some (.string f) := bel_later hb (by simp [go_sem])
    have b1 : w1.cell? ⟨w.heap.size, 1, none⟩ = some (.string t) := bel_later hb (by simp [go_sem])
    have H1 := bel_a hb
    clear hb
    go_wp2_with fail
    refine (C28.out _ (hR.later H1)).mono ?_
    rintro e w2 ⟨B, d, rfl, RB, hb⟩
    have b0' := bel_later hb b0
    have b1' := bel_later hb b1
    have RA2 := RA.later hb
    have H2 := bel_trans H1 hb
    clear hb b0 b1 RA H1
    go_wp2_with fail
    refine (same_yes A B q c d F _ HQ.out.symm (by omega) RA2 RB).mono ?_
    rintro e w3 ⟨rfl, hb⟩
    have b0 := bel_later hb b0'
    have b1 := bel_later hb b1'
    have RA := RA2.later hb
    have H3 := bel_trans H2 hb
    clear hb b0' b1' RA2 RB H2
    go_wp2
    go_loopw [8, 9] (fun nv iv wr => ∃ k : Nat, k ≤ q ∧ iv = .int .i64 k ∧ nv = .int .i64 (cnt (F.take k) s : Nat) ∧ Below w3.heap.size w3 wr) (fun _ i _ => q - (intOf i).toNat)
    case atStart => exact ⟨0, by omega, rfl, by simp [cnt], Below.refl _ _⟩
    case round =>
      obtain ⟨k, hk, rfl, rfl, hb⟩ := hrel
      by_cases h8 : k = q
      · have he : F.take k = F := by rw [h8, HQ.out]; exact List.take_length
        rw [he]
        have hkn : ¬ (k : Int) < (q : Int) := by omega
        have g0 := bel_later hb b0
        have g1 := bel_later hb b1
        have H4 := bel_trans H3 hb
        clear b0 b1 he RA hb
        cases y
        · have hF0 : F = [] := CC0.out HY.out.symm
          have hc : cnt F s = 0 := by rw [hF0]; rfl
          rw [hc]
          go_wp2_with fail
          refine (C20'.out _).mono ?_
          rintro e w4 ⟨rfl, rfl⟩
          go_wp2_with fail
          refine (live_any _).mono ?_
          rintro e w5 ⟨rfl, hb⟩
          go_wp2
          go_ret
          exact ⟨by simp, bel_trans H4 (bel_a hb)⟩
        · have hc := CT.out HY.out.symm
          rw [← HZ.out] at hc
          cases z
          · rw [hc]
            go_wp2_with fail
            refine (C20'.out _).mono ?_
            rintro e w4 ⟨rfl, rfl⟩
            go_wp2_with fail
            refine (live_any _).mono ?_
            rintro e w5 ⟨rfl, hb⟩
            have H5 := bel_trans H4 (bel_a hb)
            have x0 : w5.cell? ⟨w.heap.size, 0, none⟩ = some (.string f) := bel_later hb (bel_later ((Below.refl _ _).alloc (Nat.le_refl _) _) g0)
            have x1 : w5.cell? ⟨w.heap.size, 1, none⟩ = some (.string t) := bel_later hb (bel_later ((Below.refl _ _).alloc (Nat.le_refl _) _) g1)
            clear g0 g1 hb
            go_wp2_with fail
            refine (C21'.out _).mono ?_
            rintro e w6 ⟨rfl, hb⟩
            go_wp2
            go_ret
            exact ⟨by simp, bel_trans H5 hb⟩
          · rw [hc]
            go_wp2_with fail
            refine (C20'.out _).mono ?_
            rintro e w4 ⟨rfl, rfl⟩
            go_wp2_with fail
            refine (live_any _).mono ?_
            rintro e w5 ⟨rfl, hb⟩
            have H5 := bel_trans H4 (bel_a hb)
            have x0 : w5.cell? ⟨w.heap.size, 0, none⟩ = some (.string f) := bel_later hb (bel_later ((Below.refl _ _).alloc (Nat.le_refl _) _) g0)
            have x1 : w5.cell? ⟨w.heap.size, 1, none⟩ = some (.string t) := bel_later hb (bel_later ((Below.refl _ _).alloc (Nat.le_refl _) _) g1)
            clear g0 g1 hb
            go_wp2_with fail
            refine (C21'.out _).mono ?_
            rintro e w6 ⟨rfl, hb⟩
            go_wp2
            go_ret
            exact ⟨by simp, bel_trans H5 hb⟩
      · have hkn : k < q := by omega
        have hk1 : (k : Int) < (q : Int) := by omega
        have hk0 : (0 : Int) ≤ (k : Int) := by omega
        have hkl : k < F.length := by rw [← HQ.out]; exact hkn
        obtain ⟨g0, g1⟩ := flat_get F k hkl
        rcases RA with hA | ⟨b, off, rfl, hlt, hc⟩
        · rw [hA] at g0; simp at g0
        have e0 := bel_later hb (hc _ _ g0)
        have e1 := bel_later hb (hc _ _ g1)
        rw [← Nat.add_assoc] at e1
        have ts : F.take (k + 1) = F.take k ++ [F[k]] := List.take_succ_eq_append_getElem hkl
        obtain ⟨⟨x, v⟩, hx⟩ : ∃ x, x = F[k] := ⟨_, rfl⟩
        rw [← hx] at e0 e1 ts
        simp only at e0 e1
        have TS : Hid (cnt (F.take (k + 1)) s = cnt (F.take k) s + if has x v s then 1 else 0) := Lib.hid (by rw [ts, cnt_snoc])
        have cl := cnt_le (F.take k) s
        rw [List.length_take] at cl
        obtain ⟨a, ha⟩ : ∃ a, a = cnt (F.take k) s := ⟨_, rfl⟩
        rw [← ha] at cl ⊢
        have HA := Lib.hid ha
        have al : (a : Int) ≤ 31 := by omega
        have C := fun W => C21.out x v W
        obtain ⟨u, hu⟩ : ∃ u, u = has x v s := ⟨_, rfl⟩
        rw [← hu] at C
        have HU := Lib.hid hu
        have CU := Lib.hid C
        clear hc g0 g1 hx ts ha hu C cl
        cases u
        all_goals
          go_wp2_with fail
          refine (CU.out _).mono ?_
          rintro e w4 ⟨rfl, hb4⟩
          go_wp2
          refine ⟨⟨k + 1, by omega, by simp, ?_, bel_trans hb hb4⟩, by simp [intOf]; omega⟩
          rw [TS.out, ← HA.out, ← HU.out]
          simp
  · have f1 : (30 : Int) < (len : Int) := by omega
    have f2 : (30 : Int) ≤ (cap : Int) := by omega
    have c26 := fun W h => pieces_any f t E 30 cap ends W hl (by omega) h
    have c28 := fun W h => rpieces_any f t E 30 cap ends W hl (by omega) h
    have ct := cnt_pcs f t s ends
    have c0 : sb f t = false → pcs f t ends = [] := fun h => by unfold pcs; rw [h]; rfl
    have hFl : (pcs f t ends).length ≤ 31 := by
      unfold pcs
      split
      · have := pss_len f t ends; simp; omega
      · simp
    obtain ⟨F, hF⟩ : ∃ F, F = pcs f t ends := ⟨_, rfl⟩
    rw [← hF] at c26 c28 ct c0 hFl
    obtain ⟨q, hq⟩ : ∃ q, q = F.length := ⟨_, rfl⟩
    have d26 : ∀ W, Rd W W.heap.size E (ends.map Value.string) → Calls Try.prog 26 #[.agg #[.string f, .string t], .slice E 30 cap] W (GotN F q W) := fun W h => (c26 W h).mono fun e w' ⟨A, c, h1, h2, h3⟩ => ⟨A, c, by rw [h1, hq], h2, h3⟩
    have d28 : ∀ W, Rd W W.heap.size E (ends.map Value.string) → Calls Try.prog 28 #[.agg #[.string f, .string t], .slice E 30 cap] W (GotN F q W) := fun W h => (c28 W h).mono fun e w' ⟨A, c, h1, h2, h3⟩ => ⟨A, c, by rw [h1, hq], h2, h3⟩
    have C26 := Lib.hid d26
    have C28 := Lib.hid d28
    have HQ := Lib.hid hq
    have CT := Lib.hid ct
    have CC0 := Lib.hid c0
    have hq31 : q ≤ 31 := by omega
    clear c26 c28 d26 d28 hF hq ct c0 hFl hl
    have C21 := Lib.hid (fun a b W => holds_any a b s W)
    obtain ⟨y, hy⟩ : ∃ y, y = sb f t := ⟨_, rfl⟩
    have C20 := fun W => rright_at f t W
    rw [← hy] at C20
    obtain ⟨z, hz⟩ : ∃ z, z = has f t s := ⟨_, rfl⟩
    have C21f := fun W => holds_any f t s W
    rw [← hz] at C21f
    have C20' := Lib.hid C20
    have C21' := Lib.hid C21f
    have HY := Lib.hid hy
    have HZ := Lib.hid hz
    clear C20 C21f hy hz
    go_enter Try.func6, Try.ntmps6
    go_wp2_with fail
    refine (C26.out _ (hR.later ((Below.refl _ _).alloc (Nat.le_refl _) _))).mono ?_
    rintro e w1 ⟨A, c, rfl, RA, hb⟩
    have b0 : w1.cell? ⟨w.heap.size, 0, none⟩ = some (.string f) := bel_later hb (by simp [go_sem])
    have b1 : w1.cell? ⟨w.heap.size, 1, none⟩ = some (.string t) := bel_later hb (by simp [go_sem])
    have H1 := bel_a hb
    clear hb
    go_wp2_with fail
    refine (C28.out _ (hR.later H1)).mono ?_
    rintro e w2 ⟨B, d, rfl, RB, hb⟩
    have b0' := bel_later hb b0
    have b1' := bel_later hb b1
    have RA2 := RA.later hb
    have H2 := bel_trans H1 hb
    clear hb b0 b1 RA H1
    go_wp2_with fail
    refine (same_yes A B q c d F _ HQ.out.symm (by omega) RA2 RB).mono ?_
    rintro e w3 ⟨rfl, hb⟩
    have b0 := bel_later hb b0'
    have b1 := bel_later hb b1'
    have RA := RA2.later hb
    have H3 := bel_trans H2 hb
    clear hb b0' b1' RA2 RB H2
    go_wp2
    go_loopw [8, 9] (fun nv iv wr => ∃ k : Nat, k ≤ q ∧ iv = .int .i64 k ∧ nv = .int .i64 (cnt (F.take k) s : Nat) ∧ Below w3.heap.size w3 wr) (fun _ i _ => q - (intOf i).toNat)
    case atStart => exact ⟨0, by omega, rfl, by simp [cnt], Below.refl _ _⟩
    case round =>
      obtain ⟨k, hk, rfl, rfl, hb⟩ := hrel
      by_cases h8 : k = q
      · have he : F.take k = F := by rw [h8, HQ.out]; exact List.take_length
        rw [he]
        have hkn : ¬ (k : Int) < (q : Int) := by omega
        have g0 := bel_later hb b0
        have g1 := bel_later hb b1
        have H4 := bel_trans H3 hb
        clear b0 b1 he RA hb
        cases y
        · have hF0 : F = [] := CC0.out HY.out.symm
          have hc : cnt F s = 0 := by rw [hF0]; rfl
          rw [hc]
          go_wp2_with fail
          refine (C20'.out _).mono ?_
          rintro e w4 ⟨rfl, rfl⟩
          go_wp2_with fail
          refine (live_any _).mono ?_
          rintro e w5 ⟨rfl, hb⟩
          go_wp2
          go_ret
          exact ⟨by simp, bel_trans H4 (bel_a hb)⟩
        · have hc := CT.out HY.out.symm
          rw [← HZ.out] at hc
          cases z
          · rw [hc]
            go_wp2_with fail
            refine (C20'.out _).mono ?_
            rintro e w4 ⟨rfl, rfl⟩
            go_wp2_with fail
            refine (live_any _).mono ?_
            rintro e w5 ⟨rfl, hb⟩
            have H5 := bel_trans H4 (bel_a hb)
            have x0 : w5.cell? ⟨w.heap.size, 0, none⟩ = some (.string f) := bel_later hb (bel_later ((Below.refl _ _).alloc (Nat.le_refl _) _) g0)
            have x1 : w5.cell? ⟨w.heap.size, 1, none⟩ = some (.string t) := bel_later hb (bel_later ((Below.refl _ _).alloc (Nat.le_refl _) _) g1)
            clear g0 g1 hb
            go_wp2_with fail
            refine (C21'.out _).mono ?_
            rintro e w6 ⟨rfl, hb⟩
            go_wp2
            go_ret
            exact ⟨by simp, bel_trans H5 hb⟩
          · rw [hc]
            go_wp2_with fail
            refine (C20'.out _).mono ?_
            rintro e w4 ⟨rfl, rfl⟩
            go_wp2_with fail
            refine (live_any _).mono ?_
            rintro e w5 ⟨rfl, hb⟩
            have H5 := bel_trans H4 (bel_a hb)
            have x0 : w5.cell? ⟨w.heap.size, 0, none⟩ = some (.string f) := bel_later hb (bel_later ((Below.refl _ _).alloc (Nat.le_refl _) _) g0)
            have x1 : w5.cell? ⟨w.heap.size, 1, none⟩ = some (.string t) := bel_later hb (bel_later ((Below.refl _ _).alloc (Nat.le_refl _) _) g1)
            clear g0 g1 hb
            go_wp2_with fail
            refine (C21'.out _).mono ?_
            rintro e w6 ⟨rfl, hb⟩
            go_wp2
            go_ret
            exact ⟨by simp, bel_trans H5 hb⟩
      · have hkn : k < q := by omega
        have hk1 : (k : Int) < (q : Int) := by omega
        have hk0 : (0 : Int) ≤ (k : Int) := by omega
        have hkl : k < F.length := by rw [← HQ.out]; exact hkn
        obtain ⟨g0, g1⟩ := flat_get F k hkl
        rcases RA with hA | ⟨b, off, rfl, hlt, hc⟩
        · rw [hA] at g0; simp at g0
        have e0 := bel_later hb (hc _ _ g0)
        have e1 := bel_later hb (hc _ _ g1)
        rw [← Nat.add_assoc] at e1
        have ts : F.take (k + 1) = F.take k ++ [F[k]] := List.take_succ_eq_append_getElem hkl
        obtain ⟨⟨x, v⟩, hx⟩ : ∃ x, x = F[k] := ⟨_, rfl⟩
        rw [← hx] at e0 e1 ts
        simp only at e0 e1
        have TS : Hid (cnt (F.take (k + 1)) s = cnt (F.take k) s + if has x v s then 1 else 0) := Lib.hid (by rw [ts, cnt_snoc])
        have cl := cnt_le (F.take k) s
        rw [List.length_take] at cl
        obtain ⟨a, ha⟩ : ∃ a, a = cnt (F.take k) s := ⟨_, rfl⟩
        rw [← ha] at cl ⊢
        have HA := Lib.hid ha
        have al : (a : Int) ≤ 31 := by omega
        have C := fun W => C21.out x v W
        obtain ⟨u, hu⟩ : ∃ u, u = has x v s := ⟨_, rfl⟩
        rw [← hu] at C
        have HU := Lib.hid hu
        have CU := Lib.hid C
        clear hc g0 g1 hx ts ha hu C cl
        cases u
        all_goals
          go_wp2_with fail
          refine (CU.out _).mono ?_
          rintro e w4 ⟨rfl, hb4⟩
          go_wp2
          refine ⟨⟨k + 1, by omega, by simp, ?_, bel_trans hb hb4⟩, by simp [intOf]; omega⟩
          rw [TS.out, ← HA.out, ← HU.out]
          simp
theorem kp_walk (f t : ByteArray) (E : Option Addr) (len cap : Nat) (ends : List ByteArray) (s : ByteArray) (w : World) (hl : ends.length = len) (hR : Rd w w.heap.size E (ends.map Value.string)) (hcap : len ≤ cap) (hm : cap ≤ maxLen) :
    Calls Try.prog 6 #[.agg #[.string f, .string t], .slice E len cap, .string s] w fun e w' => e = .returned (.bool true) ∧ Below w.heap.size w w' :=
  kp_any f t E len cap (ends.take (min len 30)) s w hcap hm (min len 30) (by omega) (by simp; omega) (by
    rw [List.map_take]
    rcases hR with h | ⟨b, off, hA, hlt, hc⟩
    · exact .inl (by rw [h]; simp)
    · refine .inr ⟨b, off, hA, hlt, fun j u hj => hc j u ?_⟩
      rw [List.getElem?_take] at hj
      split at hj
      · exact hj
      · cases hj)
end Go.Proofs.Ytchbenfpfemgnaa
