/- The law VlockAlone: what a deed does to the owner of a word. -/
import Derived.Test.YtpgiidfifhocpaaB1
import Derived.Test.YtpgiidfifhocpaaA8
import Derived.Deep.RegionHeld3
import Derived.LoopTactic
import Derived.Lib.Hide
import Derived.WalkSmall
namespace Go.Proofs.Ytpgiidfifhocpaa
set_option linter.unusedSimpArgs false
open Go.RowKit
set_option linter.unusedVariables false
attribute [local go_sem] iss

theorem right_mk (v o : Int) (g : Bool) (h1 : 0 ≤ v) (h2 : v ≤ 1099511627776) (h3 : 0 ≤ o) (h4 : o ≤ 64) (h5 : g = true → o = 0) : rightB v o g = true := by
  unfold rightB
  cases g
  · simp; omega
  · have := h5 rfl; simp; omega

/-- A deed that is done leaves a word that may be; who takes it owns it, who gives it back did. -/
theorem step_cases (v o : Int) (g : Bool) (k who : Int) (h : rightB v o g = true) :
    stepF v o g k who = (v, o, g, false) ∨
    ∃ r0 r1 r2, stepF v o g k who = (r0, r1, r2, true) ∧ rightB r0 r1 r2 = true ∧ ((k = 0 ∧ o = 0 ∧ r1 = who) ∨ (k ≠ 0 ∧ k < 4 ∧ o = who ∧ r1 = 0) ∨ (k = 4 ∧ o = 0 ∧ r1 = 0)) := by
  obtain ⟨b1, b2, b3, b4, b5⟩ := right_facts v o g h
  unfold stepF
  by_cases k0 : k = 0
  · subst k0
    have e : opF v o g 0 who = tryF v o g who := by simp [opF]
    rw [e]
    unfold tryF no
    by_cases c1 : who < 1 ∨ 64 < who
    · left; rw [if_pos c1]; rfl
    · rw [if_neg c1]
      cases g
      · by_cases c2 : o = 0
        · right; refine ⟨v, who, false, by simp [c2], right_mk _ _ _ b1 b2 (by omega) (by omega) (by simp), .inl ⟨rfl, c2, rfl⟩⟩
        · left; simp [c2]
      · left; simp
  · by_cases k1 : k = 1
    · subst k1
      have e : opF v o g 1 who = freeF v o g who := by simp [opF]
      rw [e]
      unfold freeF no
      by_cases c1 : who < 1 ∨ o ≠ who
      · left; rw [if_pos c1]; rfl
      · rw [if_neg c1]
        right; exact ⟨v, 0, g, rfl, right_mk _ _ _ b1 b2 (by omega) (by omega) (by simp), .inr (.inl ⟨by omega, by omega, by omega, rfl⟩)⟩
    · by_cases k2 : k = 2
      · subst k2
        have e : opF v o g 2 who = bumpF v o g who := by simp [opF]
        rw [e]
        unfold bumpF no
        by_cases c1 : who < 1 ∨ o ≠ who
        · left; rw [if_pos c1]; rfl
        · rw [if_neg c1]
          by_cases c2 : 1099511627776 ≤ v
          · left; rw [if_pos c2]; rfl
          · rw [if_neg c2]
            right; exact ⟨v + 1, 0, g, rfl, right_mk _ _ _ (by omega) (by omega) (by omega) (by omega) (by simp), .inr (.inl ⟨by omega, by omega, by omega, rfl⟩)⟩
      · by_cases k3 : k = 3
        · subst k3
          have e : opF v o g 3 who = retireF v o g who := by simp [opF]
          rw [e]
          unfold retireF no
          by_cases c1 : who < 1 ∨ o ≠ who
          · left; rw [if_pos c1]; rfl
          · rw [if_neg c1]
            by_cases c2 : 1099511627776 ≤ v
            · left; rw [if_pos c2]; rfl
            · rw [if_neg c2]
              right; exact ⟨v + 1, 0, true, rfl, right_mk _ _ _ (by omega) (by omega) (by omega) (by omega) (by simp), .inr (.inl ⟨by omega, by omega, by omega, rfl⟩)⟩
        · by_cases k4 : k = 4
          · subst k4
            have e : opF v o g 4 who = renewF v o g := by simp [opF]
            rw [e]
            unfold renewF no
            cases g
            · left; rfl
            · by_cases c2 : 1099511627776 ≤ v
              · left; simp [c2]
              · right; exact ⟨v + 1, 0, false, by simp [c2], right_mk _ _ _ (by omega) (by omega) (by omega) (by omega) (by simp), .inr (.inr ⟨rfl, b5 rfl, rfl⟩)⟩
          · left
            have e : opF v o g k who = (v, o, g, 15) := by simp [opF, k0, k1, k2, k3, k4]
            rw [e]; rfl

theorem s1 {W W1 : World} {x b p : Nat} {x0 x1 x2 d0 d1 : Value} (h : Box W x x0 x1 x2) (e0 : W.cell? ⟨b, p, none⟩ = some d0) (e1 : W.cell? ⟨b, p + 1, none⟩ = some d1) (hb : Below W.heap.size W W1) :
    Below W.heap.size W W1 ∧ W1.cell? ⟨x, 0, none⟩ = some x0 ∧ W1.cell? ⟨x, 1, none⟩ = some x1 ∧ W1.cell? ⟨x, 2, none⟩ = some x2 ∧ W1.cell? ⟨b, p, none⟩ = some d0 ∧ W1.cell? ⟨b, p + 1, none⟩ = some d1 :=
  have k := h.keep hb
  ⟨hb, k.c0, k.c1, k.c2, cell_later hb e0, cell_later hb e1⟩
theorem stepA {B : Nat} {W W1 : World} {p : Prop} {o : Obj} (h : Below B W W1 ∧ p) (hB : B ≤ W.heap.size) : Below B W (W1.alloc o) := h.1.alloc (Nat.le_trans hB h.1.size) o

theorem stepB' {B : Nat} {W W1 w' : World} {p : Prop} (hb : Below W1.heap.size W1 w') (h : Below B W W1 ∧ p) (hB : B ≤ W.heap.size) : Below B W w' := h.1.trans (hb.mono (Nat.le_trans hB h.1.size))
theorem stepC {W W1 : World} {o : Obj} (h : Below W.drew.heap.size W.drew W1) : Below W.heap.size W (W1.alloc o) := (((Below.refl _ _).drew).trans h).alloc h.size o
theorem stepS {B : Nat} {W W1 : World} {p : Prop} {q : Nat} {u v t : Value} (h : Below B W W1 ∧ p) (hq : B ≤ q) : Below B W (((W1.setCell ⟨q, 0, none⟩ u).setCell ⟨q, 1, none⟩ v).setCell ⟨q, 2, none⟩ t) := below_store h.1 hq
theorem at_exit {f : Exit → Act → World → Prop} {e : Exit} {a : Act} {W : World} (h : ∀ W2, W2 = W → f e a W2) : f e a W := h W rfl
theorem andL {a b : Prop} (h : a ∧ b) : a := h.1

set_option maxHeartbeats 8000000 in
theorem alone_some (b off len cap : Nat) (w : World) (hl : len ≤ cap) (hm : cap ≤ maxLen)
    (hD : ∀ i, i < len → ∃ kd who : Int, w.cell? ⟨b, off + i * 2, none⟩ = some (.int .i64 kd) ∧ w.cell? ⟨b, off + i * 2 + 1, none⟩ = some (.int .i64 who)) :
    Calls Try.prog 6 #[.slice (some ⟨b, off, none⟩) len cap] w fun e w' => e = .returned (.bool true) ∧ Below w.heap.size w w' := by
  unfold maxLen at hm
  have HD := Lib.hid hD
  clear hD
  go_enter Try.func6, Try.ntmps6
  go_wp2
  go_loopw [4, 5] (fun h i wr => ∃ (k : Nat) (v o : Int) (g : Bool), k ≤ len ∧ k ≤ 100 ∧ i = .int .i64 k ∧ h = .int .i64 o ∧ rightB v o g = true ∧ Box wr w.heap.size (ix v) (ix o) (.bool g) ∧ Below w.heap.size w wr) (fun _ i _ => 100 - (intOf i).toNat)
  case atStart => exact ⟨0, 0, 0, false, by omega, by omega, rfl, rfl, by decide, Box.new _ _ _ _, (Below.refl _ _).alloc (Nat.le_refl _) _⟩
  case round =>
    obtain ⟨k, v, o, g, hk1, hk2, rfl, rfl, hR, Bx, hB⟩ := hrel
    have HR := Lib.hid hR
    clear hR
    by_cases h1 : k < len
    · by_cases h2 : k < 100
      · obtain ⟨kd, who, d0, d1⟩ := HD.out k h1
        have e0 := cell_later hB d0
        have e1 := cell_later hB d1
        clear d0 d1
        have q1 : (k : Int) < (len : Int) := by omega
        have q2 : (k : Int) < 100 := by omega
        have hv : -9223372036854775808 ≤ v := by have := (right_facts v o g HR.out).1; omega
        have C := fun w => step_any v o g kd who w hv
        clear hv
        rcases step_cases v o g kd who HR.out with e | ⟨r0, r1, r2, e, hr, hc⟩
        · rw [e] at C
          clear e
          have C' := Lib.hid C
          clear C
          obtain ⟨x0, x1, x2, x3, x4, x5⟩ := (⟨Bx.c0, Bx.c1, Bx.c2, Bx.f0, Bx.f1, Bx.f2⟩ : _ ∧ _ ∧ _ ∧ _ ∧ _ ∧ _)
          go_wp2_with fail
          go_region_held3 (fun W => Below wr.heap.size wr W ∧ W.cell? ⟨w.heap.size, 0, none⟩ = some (ix v) ∧ W.cell? ⟨w.heap.size, 1, none⟩ = some (ix o) ∧ W.cell? ⟨w.heap.size, 2, none⟩ = some (.bool g) ∧ W.cell? ⟨b, off + k * 2, none⟩ = some (.int .i64 kd) ∧ W.cell? ⟨b, off + k * 2 + 1, none⟩ = some (.int .i64 who))
            (first | exact s1 Bx e0 e1 (Below.refl _ _).drew | exact s1 Bx e0 e1 (stepB' (by assumption) (by assumption) (Nat.le_refl _)) | exact s1 Bx e0 e1 (stepA (by assumption) (Nat.le_refl _)) | exact s1 Bx e0 e1 (stepS (by assumption) (Nat.le_refl _)) | exact s1 Bx e0 e1 (stepC (by assumption)) | fail)
            (first | (go_at_call 29; (with_reducible refine (C'.out ((wr.alloc (.cells #[.int .i64 0, .int .i64 0, .bool false] 23)).drew)).mono ?_); rintro e w' ⟨rfl, hb⟩; obtain ⟨n0, n1, n2, n3, n4, n5⟩ := keep3 hb wr.heap.size (.int .i64 0) (.int .i64 0) (.bool false) (by simp [go_sem]) (by simp [go_sem]) (by simp [go_sem]) (by simp [go_sem]) (by simp [go_sem]) (by simp [go_sem])) | (go_at_call 29; refine (C'.out _).mono ?_; rintro e w' ⟨rfl, hb⟩))
          · refine at_exit (fun W2 hW => ?_)
            have hH : Below wr.heap.size wr W2 := by rw [hW]; exact andL (by assumption)
            have BN : Box W2 w'.heap.size (ix v) (ix o) (.bool g) := by rw [hW]; exact Box.new _ _ _ _
            have hne : w.heap.size ≠ w'.heap.size := by have h1 := Bx.lt; have h2 := hb.size; simp at h2; omega
            generalize w'.heap.size = N at *
            have BX := Bx.keep hH
            have E0 := cell_later hH e0
            have E1 := cell_later hH e1
            have hB2 := hB.trans (hH.mono hB.size)
            clear hW hH hb Bx hB e0 e1 x0 x1 x2 x3 x4 x5
            try clear n0 n1 n2 n3 n4 n5
            obtain ⟨x0, x1, x2, x3, x4, x5⟩ := (⟨BX.c0, BX.c1, BX.c2, BX.f0, BX.f1, BX.f2⟩ : _ ∧ _ ∧ _ ∧ _ ∧ _ ∧ _)
            obtain ⟨y0, y1, y2, y3, y4, y5⟩ := (⟨BN.c0, BN.c1, BN.c2, BN.f0, BN.f1, BN.f2⟩ : _ ∧ _ ∧ _ ∧ _ ∧ _ ∧ _)
            go_wp2_with fail
            refine at_world (fun W3 hW => ?_)
            have BX3 : Box W3 w.heap.size (ix v) (ix o) (.bool g) := by rw [hW]; exact BX.store
            have hB3 : Below w.heap.size w W3 := by rw [hW]; exact below_store hB2 (Nat.le_refl _)
            clear hW BX hB2 x0 x1 x2 x3 x4 x5 y0 y1 y2 y3 y4 y5 E0 E1 BN
            refine (right_any _ _ _ _).mono ?_
            rintro e w4 ⟨rfl, hb⟩
            have BX4 := BX3.keep hb
            have hB4 := hB3.trans (hb.mono hB3.size)
            clear hb BX3 hB3
            have hRR := HR.out
            go_wp2_with fail
            go_roundw
            case rel => exact ⟨k + 1, v, o, g, by omega, by omega, by go_num, rfl, HR.out, BX4, hB4⟩
            case measure => simp [intOf]; omega
          · refine at_exit (fun W2 hW => ?_)
            have hH : Below wr.heap.size wr W2 := by rw [hW]; exact andL (by assumption)
            have BN : Box W2 wr.heap.size (ix v) (ix o) (.bool g) := by rw [hW]; exact Box.store (⟨n0, n1, n2, n3, n4, n5⟩ : Box w' wr.heap.size _ _ _)
            have hne : w.heap.size ≠ wr.heap.size := by have h1 := Bx.lt; omega
            generalize hN : wr.heap.size = N at *
            rw [← hN] at hH
            clear hN
            have BX := Bx.keep hH
            have E0 := cell_later hH e0
            have E1 := cell_later hH e1
            have hB2 := hB.trans (hH.mono hB.size)
            clear hW hH hb Bx hB e0 e1 x0 x1 x2 x3 x4 x5
            try clear n0 n1 n2 n3 n4 n5
            obtain ⟨x0, x1, x2, x3, x4, x5⟩ := (⟨BX.c0, BX.c1, BX.c2, BX.f0, BX.f1, BX.f2⟩ : _ ∧ _ ∧ _ ∧ _ ∧ _ ∧ _)
            obtain ⟨y0, y1, y2, y3, y4, y5⟩ := (⟨BN.c0, BN.c1, BN.c2, BN.f0, BN.f1, BN.f2⟩ : _ ∧ _ ∧ _ ∧ _ ∧ _ ∧ _)
            go_wp2_with fail
            refine at_world (fun W3 hW => ?_)
            have BX3 : Box W3 w.heap.size (ix v) (ix o) (.bool g) := by rw [hW]; exact BX.store
            have hB3 : Below w.heap.size w W3 := by rw [hW]; exact below_store hB2 (Nat.le_refl _)
            clear hW BX hB2 x0 x1 x2 x3 x4 x5 y0 y1 y2 y3 y4 y5 E0 E1 BN
            refine (right_any _ _ _ _).mono ?_
            rintro e w4 ⟨rfl, hb⟩
            have BX4 := BX3.keep hb
            have hB4 := hB3.trans (hb.mono hB3.size)
            clear hb BX3 hB3
            have hRR := HR.out
            go_wp2_with fail
            go_roundw
            case rel => exact ⟨k + 1, v, o, g, by omega, by omega, by go_num, rfl, HR.out, BX4, hB4⟩
            case measure => simp [intOf]; omega
        · rw [e] at C
          clear e
          have Hr := Lib.hid hr
          clear hr
          rcases hc with ⟨c1, c2, c3⟩ | ⟨c1, c2, c3, c4⟩ | ⟨c1, c2, c3⟩
          · subst c1 c2 c3
            have C' := Lib.hid C
            clear C
            obtain ⟨x0, x1, x2, x3, x4, x5⟩ := (⟨Bx.c0, Bx.c1, Bx.c2, Bx.f0, Bx.f1, Bx.f2⟩ : _ ∧ _ ∧ _ ∧ _ ∧ _ ∧ _)
            go_wp2_with fail
            go_region_held3 (fun W => Below wr.heap.size wr W ∧ W.cell? ⟨w.heap.size, 0, none⟩ = some (ix v) ∧ W.cell? ⟨w.heap.size, 1, none⟩ = some (ix 0) ∧ W.cell? ⟨w.heap.size, 2, none⟩ = some (.bool g) ∧ W.cell? ⟨b, off + k * 2, none⟩ = some (.int .i64 0) ∧ W.cell? ⟨b, off + k * 2 + 1, none⟩ = some (.int .i64 r1))
              (first | exact s1 Bx e0 e1 (Below.refl _ _).drew | exact s1 Bx e0 e1 (stepB' (by assumption) (by assumption) (Nat.le_refl _)) | exact s1 Bx e0 e1 (stepA (by assumption) (Nat.le_refl _)) | exact s1 Bx e0 e1 (stepS (by assumption) (Nat.le_refl _)) | exact s1 Bx e0 e1 (stepC (by assumption)) | fail)
              (first | (go_at_call 29; (with_reducible refine (C'.out ((wr.alloc (.cells #[.int .i64 0, .int .i64 0, .bool false] 23)).drew)).mono ?_); rintro e w' ⟨rfl, hb⟩; obtain ⟨n0, n1, n2, n3, n4, n5⟩ := keep3 hb wr.heap.size (.int .i64 0) (.int .i64 0) (.bool false) (by simp [go_sem]) (by simp [go_sem]) (by simp [go_sem]) (by simp [go_sem]) (by simp [go_sem]) (by simp [go_sem])) | (go_at_call 29; refine (C'.out _).mono ?_; rintro e w' ⟨rfl, hb⟩))
            · refine at_exit (fun W2 hW => ?_)
              have hH : Below wr.heap.size wr W2 := by rw [hW]; exact andL (by assumption)
              have BN : Box W2 w'.heap.size (ix r0) (ix r1) (.bool r2) := by rw [hW]; exact Box.new _ _ _ _
              have hne : w.heap.size ≠ w'.heap.size := by have h1 := Bx.lt; have h2 := hb.size; simp at h2; omega
              generalize w'.heap.size = N at *
              have BX := Bx.keep hH
              have E0 := cell_later hH e0
              have E1 := cell_later hH e1
              have hB2 := hB.trans (hH.mono hB.size)
              clear hW hH hb Bx hB e0 e1 x0 x1 x2 x3 x4 x5
              try clear n0 n1 n2 n3 n4 n5
              obtain ⟨x0, x1, x2, x3, x4, x5⟩ := (⟨BX.c0, BX.c1, BX.c2, BX.f0, BX.f1, BX.f2⟩ : _ ∧ _ ∧ _ ∧ _ ∧ _ ∧ _)
              obtain ⟨y0, y1, y2, y3, y4, y5⟩ := (⟨BN.c0, BN.c1, BN.c2, BN.f0, BN.f1, BN.f2⟩ : _ ∧ _ ∧ _ ∧ _ ∧ _ ∧ _)
              go_wp2_with fail
              refine at_world (fun W3 hW => ?_)
              have BX3 : Box W3 w.heap.size (ix r0) (ix r1) (.bool r2) := by rw [hW]; exact BX.store
              have hB3 : Below w.heap.size w W3 := by rw [hW]; exact below_store hB2 (Nat.le_refl _)
              clear hW BX hB2 x0 x1 x2 x3 x4 x5 y0 y1 y2 y3 y4 y5 E0 E1 BN
              refine (right_any _ _ _ _).mono ?_
              rintro e w4 ⟨rfl, hb⟩
              have BX4 := BX3.keep hb
              have hB4 := hB3.trans (hb.mono hB3.size)
              clear hb BX3 hB3
              have hRR := Hr.out
              go_wp2_with fail
              go_roundw
              case rel => exact ⟨k + 1, r0, r1, r2, by omega, by omega, by go_num, rfl, Hr.out, BX4, hB4⟩
              case measure => simp [intOf]; omega
            · refine at_exit (fun W2 hW => ?_)
              have hH : Below wr.heap.size wr W2 := by rw [hW]; exact andL (by assumption)
              have BN : Box W2 wr.heap.size (ix r0) (ix r1) (.bool r2) := by rw [hW]; exact Box.store (⟨n0, n1, n2, n3, n4, n5⟩ : Box w' wr.heap.size _ _ _)
              have hne : w.heap.size ≠ wr.heap.size := by have h1 := Bx.lt; omega
              generalize hN : wr.heap.size = N at *
              rw [← hN] at hH
              clear hN
              have BX := Bx.keep hH
              have E0 := cell_later hH e0
              have E1 := cell_later hH e1
              have hB2 := hB.trans (hH.mono hB.size)
              clear hW hH hb Bx hB e0 e1 x0 x1 x2 x3 x4 x5
              try clear n0 n1 n2 n3 n4 n5
              obtain ⟨x0, x1, x2, x3, x4, x5⟩ := (⟨BX.c0, BX.c1, BX.c2, BX.f0, BX.f1, BX.f2⟩ : _ ∧ _ ∧ _ ∧ _ ∧ _ ∧ _)
              obtain ⟨y0, y1, y2, y3, y4, y5⟩ := (⟨BN.c0, BN.c1, BN.c2, BN.f0, BN.f1, BN.f2⟩ : _ ∧ _ ∧ _ ∧ _ ∧ _ ∧ _)
              go_wp2_with fail
              refine at_world (fun W3 hW => ?_)
              have BX3 : Box W3 w.heap.size (ix r0) (ix r1) (.bool r2) := by rw [hW]; exact BX.store
              have hB3 : Below w.heap.size w W3 := by rw [hW]; exact below_store hB2 (Nat.le_refl _)
              clear hW BX hB2 x0 x1 x2 x3 x4 x5 y0 y1 y2 y3 y4 y5 E0 E1 BN
              refine (right_any _ _ _ _).mono ?_
              rintro e w4 ⟨rfl, hb⟩
              have BX4 := BX3.keep hb
              have hB4 := hB3.trans (hb.mono hB3.size)
              clear hb BX3 hB3
              have hRR := Hr.out
              go_wp2_with fail
              go_roundw
              case rel => exact ⟨k + 1, r0, r1, r2, by omega, by omega, by go_num, rfl, Hr.out, BX4, hB4⟩
              case measure => simp [intOf]; omega
          · subst c3 c4
            have c5 : (kd == 0) = false := by simp [c1]
            clear c1
            have C' := Lib.hid C
            clear C
            obtain ⟨x0, x1, x2, x3, x4, x5⟩ := (⟨Bx.c0, Bx.c1, Bx.c2, Bx.f0, Bx.f1, Bx.f2⟩ : _ ∧ _ ∧ _ ∧ _ ∧ _ ∧ _)
            go_wp2_with fail
            go_region_held3 (fun W => Below wr.heap.size wr W ∧ W.cell? ⟨w.heap.size, 0, none⟩ = some (ix v) ∧ W.cell? ⟨w.heap.size, 1, none⟩ = some (ix o) ∧ W.cell? ⟨w.heap.size, 2, none⟩ = some (.bool g) ∧ W.cell? ⟨b, off + k * 2, none⟩ = some (.int .i64 kd) ∧ W.cell? ⟨b, off + k * 2 + 1, none⟩ = some (.int .i64 o))
              (first | exact s1 Bx e0 e1 (Below.refl _ _).drew | exact s1 Bx e0 e1 (stepB' (by assumption) (by assumption) (Nat.le_refl _)) | exact s1 Bx e0 e1 (stepA (by assumption) (Nat.le_refl _)) | exact s1 Bx e0 e1 (stepS (by assumption) (Nat.le_refl _)) | exact s1 Bx e0 e1 (stepC (by assumption)) | fail)
              (first | (go_at_call 29; (with_reducible refine (C'.out ((wr.alloc (.cells #[.int .i64 0, .int .i64 0, .bool false] 23)).drew)).mono ?_); rintro e w' ⟨rfl, hb⟩; obtain ⟨n0, n1, n2, n3, n4, n5⟩ := keep3 hb wr.heap.size (.int .i64 0) (.int .i64 0) (.bool false) (by simp [go_sem]) (by simp [go_sem]) (by simp [go_sem]) (by simp [go_sem]) (by simp [go_sem]) (by simp [go_sem])) | (go_at_call 29; refine (C'.out _).mono ?_; rintro e w' ⟨rfl, hb⟩))
            · refine at_exit (fun W2 hW => ?_)
              have hH : Below wr.heap.size wr W2 := by rw [hW]; exact andL (by assumption)
              have BN : Box W2 w'.heap.size (ix r0) (ix 0) (.bool r2) := by rw [hW]; exact Box.new _ _ _ _
              have hne : w.heap.size ≠ w'.heap.size := by have h1 := Bx.lt; have h2 := hb.size; simp at h2; omega
              generalize w'.heap.size = N at *
              have BX := Bx.keep hH
              have E0 := cell_later hH e0
              have E1 := cell_later hH e1
              have hB2 := hB.trans (hH.mono hB.size)
              clear hW hH hb Bx hB e0 e1 x0 x1 x2 x3 x4 x5
              try clear n0 n1 n2 n3 n4 n5
              obtain ⟨x0, x1, x2, x3, x4, x5⟩ := (⟨BX.c0, BX.c1, BX.c2, BX.f0, BX.f1, BX.f2⟩ : _ ∧ _ ∧ _ ∧ _ ∧ _ ∧ _)
              obtain ⟨y0, y1, y2, y3, y4, y5⟩ := (⟨BN.c0, BN.c1, BN.c2, BN.f0, BN.f1, BN.f2⟩ : _ ∧ _ ∧ _ ∧ _ ∧ _ ∧ _)
              go_wp2_with fail
              refine at_world (fun W3 hW => ?_)
              have BX3 : Box W3 w.heap.size (ix r0) (ix 0) (.bool r2) := by rw [hW]; exact BX.store
              have hB3 : Below w.heap.size w W3 := by rw [hW]; exact below_store hB2 (Nat.le_refl _)
              clear hW BX hB2 x0 x1 x2 x3 x4 x5 y0 y1 y2 y3 y4 y5 E0 E1 BN
              refine (right_any _ _ _ _).mono ?_
              rintro e w4 ⟨rfl, hb⟩
              have BX4 := BX3.keep hb
              have hB4 := hB3.trans (hb.mono hB3.size)
              clear hb BX3 hB3
              have hRR := Hr.out
              go_wp2_with fail
              go_roundw
              case rel => exact ⟨k + 1, r0, 0, r2, by omega, by omega, by go_num, rfl, Hr.out, BX4, hB4⟩
              case measure => simp [intOf]; omega
            · refine at_exit (fun W2 hW => ?_)
              have hH : Below wr.heap.size wr W2 := by rw [hW]; exact andL (by assumption)
              have BN : Box W2 wr.heap.size (ix r0) (ix 0) (.bool r2) := by rw [hW]; exact Box.store (⟨n0, n1, n2, n3, n4, n5⟩ : Box w' wr.heap.size _ _ _)
              have hne : w.heap.size ≠ wr.heap.size := by have h1 := Bx.lt; omega
              generalize hN : wr.heap.size = N at *
              rw [← hN] at hH
              clear hN
              have BX := Bx.keep hH
              have E0 := cell_later hH e0
              have E1 := cell_later hH e1
              have hB2 := hB.trans (hH.mono hB.size)
              clear hW hH hb Bx hB e0 e1 x0 x1 x2 x3 x4 x5
              try clear n0 n1 n2 n3 n4 n5
              obtain ⟨x0, x1, x2, x3, x4, x5⟩ := (⟨BX.c0, BX.c1, BX.c2, BX.f0, BX.f1, BX.f2⟩ : _ ∧ _ ∧ _ ∧ _ ∧ _ ∧ _)
              obtain ⟨y0, y1, y2, y3, y4, y5⟩ := (⟨BN.c0, BN.c1, BN.c2, BN.f0, BN.f1, BN.f2⟩ : _ ∧ _ ∧ _ ∧ _ ∧ _ ∧ _)
              go_wp2_with fail
              refine at_world (fun W3 hW => ?_)
              have BX3 : Box W3 w.heap.size (ix r0) (ix 0) (.bool r2) := by rw [hW]; exact BX.store
              have hB3 : Below w.heap.size w W3 := by rw [hW]; exact below_store hB2 (Nat.le_refl _)
              clear hW BX hB2 x0 x1 x2 x3 x4 x5 y0 y1 y2 y3 y4 y5 E0 E1 BN
              refine (right_any _ _ _ _).mono ?_
              rintro e w4 ⟨rfl, hb⟩
              have BX4 := BX3.keep hb
              have hB4 := hB3.trans (hb.mono hB3.size)
              clear hb BX3 hB3
              have hRR := Hr.out
              go_wp2_with fail
              go_roundw
              case rel => exact ⟨k + 1, r0, 0, r2, by omega, by omega, by go_num, rfl, Hr.out, BX4, hB4⟩
              case measure => simp [intOf]; omega
          · subst c1 c2 c3
            have C' := Lib.hid C
            clear C
            obtain ⟨x0, x1, x2, x3, x4, x5⟩ := (⟨Bx.c0, Bx.c1, Bx.c2, Bx.f0, Bx.f1, Bx.f2⟩ : _ ∧ _ ∧ _ ∧ _ ∧ _ ∧ _)
            go_wp2_with fail
            go_region_held3 (fun W => Below wr.heap.size wr W ∧ W.cell? ⟨w.heap.size, 0, none⟩ = some (ix v) ∧ W.cell? ⟨w.heap.size, 1, none⟩ = some (ix 0) ∧ W.cell? ⟨w.heap.size, 2, none⟩ = some (.bool g) ∧ W.cell? ⟨b, off + k * 2, none⟩ = some (.int .i64 4) ∧ W.cell? ⟨b, off + k * 2 + 1, none⟩ = some (.int .i64 who))
              (first | exact s1 Bx e0 e1 (Below.refl _ _).drew | exact s1 Bx e0 e1 (stepB' (by assumption) (by assumption) (Nat.le_refl _)) | exact s1 Bx e0 e1 (stepA (by assumption) (Nat.le_refl _)) | exact s1 Bx e0 e1 (stepS (by assumption) (Nat.le_refl _)) | exact s1 Bx e0 e1 (stepC (by assumption)) | fail)
              (first | (go_at_call 29; (with_reducible refine (C'.out ((wr.alloc (.cells #[.int .i64 0, .int .i64 0, .bool false] 23)).drew)).mono ?_); rintro e w' ⟨rfl, hb⟩; obtain ⟨n0, n1, n2, n3, n4, n5⟩ := keep3 hb wr.heap.size (.int .i64 0) (.int .i64 0) (.bool false) (by simp [go_sem]) (by simp [go_sem]) (by simp [go_sem]) (by simp [go_sem]) (by simp [go_sem]) (by simp [go_sem])) | (go_at_call 29; refine (C'.out _).mono ?_; rintro e w' ⟨rfl, hb⟩))
            · refine at_exit (fun W2 hW => ?_)
              have hH : Below wr.heap.size wr W2 := by rw [hW]; exact andL (by assumption)
              have BN : Box W2 w'.heap.size (ix r0) (ix 0) (.bool r2) := by rw [hW]; exact Box.new _ _ _ _
              have hne : w.heap.size ≠ w'.heap.size := by have h1 := Bx.lt; have h2 := hb.size; simp at h2; omega
              generalize w'.heap.size = N at *
              have BX := Bx.keep hH
              have E0 := cell_later hH e0
              have E1 := cell_later hH e1
              have hB2 := hB.trans (hH.mono hB.size)
              clear hW hH hb Bx hB e0 e1 x0 x1 x2 x3 x4 x5
              try clear n0 n1 n2 n3 n4 n5
              obtain ⟨x0, x1, x2, x3, x4, x5⟩ := (⟨BX.c0, BX.c1, BX.c2, BX.f0, BX.f1, BX.f2⟩ : _ ∧ _ ∧ _ ∧ _ ∧ _ ∧ _)
              obtain ⟨y0, y1, y2, y3, y4, y5⟩ := (⟨BN.c0, BN.c1, BN.c2, BN.f0, BN.f1, BN.f2⟩ : _ ∧ _ ∧ _ ∧ _ ∧ _ ∧ _)
              go_wp2_with fail
              refine at_world (fun W3 hW => ?_)
              have BX3 : Box W3 w.heap.size (ix r0) (ix 0) (.bool r2) := by rw [hW]; exact BX.store
              have hB3 : Below w.heap.size w W3 := by rw [hW]; exact below_store hB2 (Nat.le_refl _)
              clear hW BX hB2 x0 x1 x2 x3 x4 x5 y0 y1 y2 y3 y4 y5 E0 E1 BN
              refine (right_any _ _ _ _).mono ?_
              rintro e w4 ⟨rfl, hb⟩
              have BX4 := BX3.keep hb
              have hB4 := hB3.trans (hb.mono hB3.size)
              clear hb BX3 hB3
              have hRR := Hr.out
              go_wp2_with fail
              go_roundw
              case rel => exact ⟨k + 1, r0, 0, r2, by omega, by omega, by go_num, rfl, Hr.out, BX4, hB4⟩
              case measure => simp [intOf]; omega
            · refine at_exit (fun W2 hW => ?_)
              have hH : Below wr.heap.size wr W2 := by rw [hW]; exact andL (by assumption)
              have BN : Box W2 wr.heap.size (ix r0) (ix 0) (.bool r2) := by rw [hW]; exact Box.store (⟨n0, n1, n2, n3, n4, n5⟩ : Box w' wr.heap.size _ _ _)
              have hne : w.heap.size ≠ wr.heap.size := by have h1 := Bx.lt; omega
              generalize hN : wr.heap.size = N at *
              rw [← hN] at hH
              clear hN
              have BX := Bx.keep hH
              have E0 := cell_later hH e0
              have E1 := cell_later hH e1
              have hB2 := hB.trans (hH.mono hB.size)
              clear hW hH hb Bx hB e0 e1 x0 x1 x2 x3 x4 x5
              try clear n0 n1 n2 n3 n4 n5
              obtain ⟨x0, x1, x2, x3, x4, x5⟩ := (⟨BX.c0, BX.c1, BX.c2, BX.f0, BX.f1, BX.f2⟩ : _ ∧ _ ∧ _ ∧ _ ∧ _ ∧ _)
              obtain ⟨y0, y1, y2, y3, y4, y5⟩ := (⟨BN.c0, BN.c1, BN.c2, BN.f0, BN.f1, BN.f2⟩ : _ ∧ _ ∧ _ ∧ _ ∧ _ ∧ _)
              go_wp2_with fail
              refine at_world (fun W3 hW => ?_)
              have BX3 : Box W3 w.heap.size (ix r0) (ix 0) (.bool r2) := by rw [hW]; exact BX.store
              have hB3 : Below w.heap.size w W3 := by rw [hW]; exact below_store hB2 (Nat.le_refl _)
              clear hW BX hB2 x0 x1 x2 x3 x4 x5 y0 y1 y2 y3 y4 y5 E0 E1 BN
              refine (right_any _ _ _ _).mono ?_
              rintro e w4 ⟨rfl, hb⟩
              have BX4 := BX3.keep hb
              have hB4 := hB3.trans (hb.mono hB3.size)
              clear hb BX3 hB3
              have hRR := Hr.out
              go_wp2_with fail
              go_roundw
              case rel => exact ⟨k + 1, r0, 0, r2, by omega, by omega, by go_num, rfl, Hr.out, BX4, hB4⟩
              case measure => simp [intOf]; omega
      · have q1 : (k : Int) < (len : Int) := by omega
        have q2 : decide ((k : Int) < 100) = false := by simp; omega
        go_wp2_with fail
        refine (live_any _).mono ?_
        rintro e w1 ⟨rfl, hb⟩
        go_wp2_with fail
        go_ret
        exact ⟨rfl, hB.trans (hb.mono hB.size)⟩
    · have q1 : decide (k < len) = false := by simp; omega
      have q2 : decide ((k : Int) < (len : Int)) = false := by simp; omega
      go_wp2_with fail
      refine (live_any _).mono ?_
      rintro e w1 ⟨rfl, hb⟩
      go_wp2_with fail
      go_ret
      exact ⟨rfl, hB.trans (hb.mono hB.size)⟩

set_option maxHeartbeats 1000000 in
theorem alone_zero (a : Option Addr) (cap : Nat) (w : World) :
    Calls Try.prog 6 #[.slice a 0 cap] w fun e w' => e = .returned (.bool true) ∧ Below w.heap.size w w' := by
  go_enter Try.func6, Try.ntmps6
  go_wp2
  go_loop [4, 5] (fun h i => h = .int .i64 0 ∧ i = .int .i64 0) (fun _ _ => 0)
  case atStart => exact ⟨rfl, rfl⟩
  case round =>
    obtain ⟨rfl, rfl⟩ := hrel
    go_wp2_with fail
    refine (live_any _).mono ?_
    rintro e w1 ⟨rfl, hb⟩
    go_wp2_with fail
    go_ret
    exact ⟨rfl, ((Below.refl _ _).alloc (Nat.le_refl _) _).trans (hb.mono (by simp))⟩
end Go.Proofs.Ytpgiidfifhocpaa
